/-
  The reference's acts of a right operation, one an item, in memory.
-/
import Derived.Test.YtbhcklkbckacpaaGreatDoorRb
namespace Go.Proofs.YtbhcklkbckacpaaGreatDoor
open Go.RowKit

theorem Tryz.infA : (Tryz.prog.info? 196).map (fun i => (i.zero, i.size, i.bytes)) = some (some (.agg #[.int .i64 0, .int .u8 0, .int .i64 0, .string ⟨#[]⟩, .int .i64 0, .int .i64 0, .slice none 0 0, .int .i64 0, .int .i64 0, .bool false, .string ⟨#[]⟩]), 11, 120) := by kernel_rfl
structure AV where
  kind : Int
  x : It
  p : PV
def avC (a : AV) : List Value := .int .i64 a.kind :: .int .u8 a.x.c.toNat :: .int .i64 a.x.m :: .string a.x.l :: pvC a.p
def avCells (l : List AV) : List Value := l.flatMap avC
theorem avCells_app (l l' : List AV) : avCells (l ++ l') = avCells l ++ avCells l' := List.flatMap_append
theorem avCells_one (v : AV) : avCells [v] = avC v := by simp [avCells]
theorem avCells_cons (a : AV) (l : List AV) : avCells (a :: l) = .int .i64 a.kind :: .int .u8 a.x.c.toNat :: .int .i64 a.x.m :: .string a.x.l :: .int .i64 a.p.kind :: .int .i64 a.p.n :: .slice a.p.ao a.p.m a.p.cap :: .int .i64 a.p.set :: .int .i64 a.p.clr :: .bool a.p.goes :: .string a.p.link :: avCells l := rfl
theorem avCells_len : ∀ l : List AV, (avCells l).length = l.length * 11
  | [] => rfl
  | k :: l => by rw [avCells_cons]; simp only [List.length_cons]; rw [avCells_len l]; omega
theorem avC_one (v : AV) : ∀ u ∈ avC v, u.oneCell' = true := by
  intro u h
  simp only [avC, pvC, List.mem_cons, List.not_mem_nil, or_false] at h
  rcases h with rfl | rfl | rfl | rfl | rfl | rfl | rfl | rfl | rfl | rfl | rfl <;> rfl
theorem Ac.cut_items {p : Ac.Pt} (h : Ac.err1 p = 0) (hk : p.kind = 3) : p.items = [] := by
  have hs := (Ac.same1_eq.1 (Ac.err1_0 h).2)
  unfold Ac.usedP at hs
  rw [if_neg (by omega), if_neg (by omega)] at hs
  exact (congrArg Ac.Pt.items hs).trans rfl
def it0 : It := ⟨0, 0, ⟨#[]⟩⟩
def putA (x : It) : AV := ⟨2, x, pv0⟩
def oneP (v : PV) : PV := { v with n := 1 }
def actV (v : PV) : List AV := if v.kind = 2 then v.items.map putA else List.replicate v.n.toNat ⟨v.kind, it0, oneP v⟩
def actsV (vs : List PV) : List AV := vs.flatMap actV
theorem actsV_snoc (vs : List PV) (v : PV) : actsV (vs ++ [v]) = actsV vs ++ actV v := by simp [actsV]
theorem actV_len {v : PV} (h : Ac.err1 v.pt = 0) : (actV v).length ≤ 80 := by
  unfold actV
  rcases Ac.kind_of h with k | k | k
  · rw [if_neg (show ¬ v.kind = 2 by change v.kind = 1 at k; omega), List.length_replicate]
    have := (Ac.keep_m4 h k).2.2.2
    change v.n ≤ 80 at this
    omega
  · rw [if_pos (show v.kind = 2 from k), List.length_map]; exact (Ac.put_len h k).2.1
  · rw [if_neg (show ¬ v.kind = 2 by change v.kind = 3 at k; omega), List.length_replicate]
    have := (Ac.cut_n h k).2
    change v.n ≤ 80 at this
    omega
theorem actsV_len : ∀ {vs : List PV}, (∀ v ∈ vs, Ac.err1 v.pt = 0) → (actsV vs).length ≤ vs.length * 80
  | [], _ => Nat.le_refl _
  | v :: vs, h => by
    have h1 := actV_len (h v (List.mem_cons_self ..))
    have h2 := actsV_len (fun u hu => h u (List.mem_cons_of_mem _ hu))
    have e : actsV (v :: vs) = actV v ++ actsV vs := rfl
    rw [e, List.length_append, List.length_cons]
    omega
structure ActI (w : World) (b : Nat) (v : PV) (lv : Value) (l : List AV) (wx : World) : Prop where
  own : wx.ownsRow w.heap.size 196 11 lv l.length (avCells l)
  far : lv.ownBlock ≠ some b
  box : Seven wx b 0 v
  blw : Below w.heap.size w wx
theorem ActI.push {w wx wa w3 : World} {b g cap n : Nat} {v : PV} {lv : Value} {l : List AV} {a : AV} (h : ActI w b v lv l wx) (hn : l.length = n) (hal : Below wx.heap.size wx wa)
    (hown : w3.ownsRow w.heap.size 196 11 (.slice (some ⟨g, 0, none⟩) (n + 1) cap) (n + 1) (avCells l ++ avC a)) (hg : wa.grownBy w3 lv.ownBlock) (hat : lv.ownBlock = some g ∨ g = wa.heap.size) :
    ActI w b v (.slice (some ⟨g, 0, none⟩) (n + 1) cap) (l ++ [a]) w3 := by
  have hlt := cell_lt h.box.c0
  have hs := hal.size
  have hbx := h.box.below hal
  refine ⟨by rw [List.length_append, avCells_app, avCells_one, hn]; exact hown, fun e => ?_, hbx.same (hg.block b (by simp at hlt; omega) (fun e => h.far e.symm)), ?_⟩
  · have hgb : g = b := by simpa [Value.ownBlock] using e
    rcases hat with e2 | e2
    · exact h.far (by rw [e2, hgb])
    · simp at hlt; omega
  · refine (h.blw.trans (hal.mono h.blw.size)).trans ⟨hg.os, hg.tape, hg.output, hg.size, fun k hk => hg.block k (by have := h.blw.size; omega) (fun e => ?_)⟩
    have := ownBlk_ge h.own k e.symm
    omega

set_option maxRecDepth 100000 in
set_option maxHeartbeats 12800000 in
theorem acts_any (ao' : Option Addr) (n' cap' : Nat) (vs : List PV) (w : World) (hO : Ops w ao' n' cap' vs) (hok : ∀ v ∈ vs, Ac.err1 v.pt = 0) (hn40 : n' ≤ 40) :
    Calls Tryz.prog 158 #[.slice ao' n' cap'] w fun e w' => (∃ lv, e = .returned lv ∧ w'.ownsRow w.heap.size 196 11 lv (actsV vs).length (avCells (actsV vs))) ∧ Below w.heap.size w w' := by
  obtain ⟨i0, hi, hz0, hz1, hz2⟩ := info_parts Tryz.infA
  have HO : Hid (Ops w ao' n' cap' vs) := hO
  have HN : Hid (vs.length = n') := hO.len
  have HOK : Hid (∀ v ∈ vs, Ac.err1 v.pt = 0) := hok
  have HLEN : Hid (∀ k, (actsV (vs.take k)).length ≤ 3200) := fun k => by
    have h1 := actsV_len (vs := vs.take k) (fun v hv => hok v (List.mem_of_mem_take hv))
    have h2 : (vs.take k).length ≤ 40 := by rw [List.length_take, hO.len]; omega
    omega
  have hcap := hO.row.room
  have hbig := hO.row.big
  clear hO hok
  obtain ⟨R, hR⟩ : ∃ R, actsV vs = R := ⟨_, rfl⟩
  have HR : Hid (actsV vs = R) := hR
  rw [hR]
  clear hR
  go_enter Tryz.func158, Tryz.ntmps158
  go_wp2
  go_loopw [3, 11] (fun lv i wr => ∃ k : Nat, k ≤ n' ∧ i = .int .i64 k ∧ wr.ownsRow w.heap.size 196 11 lv (actsV (vs.take k)).length (avCells (actsV (vs.take k))) ∧ Below w.heap.size w wr) (fun _ i _ => n' - (intOf i).toNat)
  case atStart => exact ⟨0, Nat.zero_le _, rfl, World.ownsRow_nil _ _ _ _, Below.refl _ _⟩
  case round =>
    obtain ⟨k, hk, rfl, ho, hbr⟩ := hrel
    have HBR : Hid (Below w.heap.size w wr) := hbr
    have HOW : Hid (wr.ownsRow w.heap.size 196 11 u3 (actsV (vs.take k)).length (avCells (actsV (vs.take k)))) := ho
    clear ho hbr
    by_cases hlt : k < n'
    · obtain ⟨pb, po, rfl, hG⟩ := HO.out.get (by omega)
      have hkv : k < vs.length := by rw [HN.out]; exact hlt
      have HTK : Hid (actsV (vs.take (k + 1)) = actsV (vs.take k) ++ actV vs[k]) := by show _ = _; rw [List.take_succ_eq_append_getElem hkv, actsV_snoc]
      have hl1 := HLEN.out k
      have hok := HOK.out vs[k] (List.getElem_mem hkv)
      have HPW0 : Hid (Pvt w vs[k]) := HO.out.pts vs[k] (List.getElem_mem hkv)
      have HPV := (HO.out.pts vs[k] (List.getElem_mem hkv)).below HBR.out
      obtain ⟨c0, c1, c2, c3, c4, c5, c6⟩ := (hG k hkv).below HBR.out
      clear hG
      generalize actsV (vs.take k) = A at *
      generalize vs[k] = v at *
      obtain ⟨kind, n, ao, m, cap, items, st, cl, gs, lk⟩ := v
      simp only at c0 c1 c2 c3 c4 c5 c6
      clear hkv
      by_cases h2 : kind = 2
      · subst h2
        obtain ⟨hp1, hp2, -⟩ := Ac.put_len hok rfl
        change 1 ≤ items.length at hp1
        change items.length ≤ 80 at hp2
        have hlm : items.length = m := HPV.doc.len
        rw [hlm] at hp1 hp2
        have hav : actV ⟨2, n, ao, m, cap, items, st, cl, gs, lk⟩ = items.map putA := rfl
        rw [hav] at HTK
        obtain ⟨ib, io, rfl, hIA⟩ := HPV.doc.lies (by change m ≠ 0; omega)
        have HS5 : Hid (Seven (boxp ⟨2, n, some ⟨ib, io, none⟩, m, cap, items, st, cl, gs, lk⟩ wr) wr.heap.size 0 ⟨2, n, some ⟨ib, io, none⟩, m, cap, items, st, cl, gs, lk⟩) := boxp_at _ wr
        have hw5 : Below wr.heap.size wr (boxp ⟨2, n, some ⟨ib, io, none⟩, m, cap, items, st, cl, gs, lk⟩ wr) := boxp_below _ wr
        have HI5 : Hid (ActI w wr.heap.size ⟨2, n, some ⟨ib, io, none⟩, m, cap, items, st, cl, gs, lk⟩ u3 A (boxp ⟨2, n, some ⟨ib, io, none⟩, m, cap, items, st, cl, gs, lk⟩ wr)) := ⟨own_under HOW.out hw5, fun e => by have := (HOW.out.lt _ e).2; omega, HS5.out, HBR.out.trans (hw5.mono HBR.out.size)⟩
        have HIA : Hid (At (boxp ⟨2, n, some ⟨ib, io, none⟩, m, cap, items, st, cl, gs, lk⟩ wr) ib io items) := hIA.below hw5
        have HIL : Hid (ib < (boxp ⟨2, n, some ⟨ib, io, none⟩, m, cap, items, st, cl, gs, lk⟩ wr).heap.size ∧ Below wr.heap.size wr (boxp ⟨2, n, some ⟨ib, io, none⟩, m, cap, items, st, cl, gs, lk⟩ wr)) := ⟨cell_lt (HIA.out.c 0 (by omega)), hw5⟩
        have HLM : Hid (items.length = m) := hlm
        have HIB : Hid (∀ wx, Below w.heap.size w wx → At w ib io items → At wx ib io items) := fun wx hb hA => hA.below hb
        have HPW : Hid (At w ib io items) := by
          obtain ⟨b', o', e', hA'⟩ := HPW0.out.doc.lies (by change m ≠ 0; omega)
          cases e'
          exact hA'
        clear hav hok HPV hIA hw5 hlm
        go_upto_region 5 with fail
        change Code.wp Tryz.prog _ _ _ (boxp ⟨2, n, some ⟨ib, io, none⟩, m, cap, items, st, cl, gs, lk⟩ wr)
        generalize boxp ⟨2, n, some ⟨ib, io, none⟩, m, cap, items, st, cl, gs, lk⟩ wr = W5 at *
        clear c0 c1 c2 c3 c4 c5 c6
        obtain ⟨d0, d1, d2, d3, d4, d5, d6⟩ := HS5.out
        simp only [Nat.zero_add] at d0 d1 d2 d3 d4 d5 d6
        generalize wr.heap.size = bx at *
        go_wp2
        go_loopw [3, 18] (fun lv i wx => ∃ j : Nat, j ≤ m ∧ i = .int .i64 j ∧ ActI w bx ⟨2, n, some ⟨ib, io, none⟩, m, cap, items, st, cl, gs, lk⟩ lv (A ++ (items.take j).map putA) wx) (fun _ i _ => m - (intOf i).toNat)
        case atStart => exact ⟨0, Nat.zero_le _, rfl, by simpa using HI5.out⟩
        case round =>
          obtain ⟨j, hj, rfl, hI⟩ := hrel
          have HI : Hid (ActI w bx ⟨2, n, some ⟨ib, io, none⟩, m, cap, items, st, cl, gs, lk⟩ u3 (A ++ (items.take j).map putA) wr) := hI
          clear hI
          by_cases hjm : j < m
          · have hjl : j < items.length := by rw [HLM.out]; exact hjm
            obtain ⟨i00, i01, i02⟩ := (HIB.out _ HI.out.blw HPW.out).get (List.getElem?_eq_getElem hjl)
            have HNX : Hid (A ++ (items.take (j + 1)).map putA = (A ++ (items.take j).map putA) ++ [putA items[j]]) := by show _ = _; rw [List.take_succ_eq_append_getElem hjl, List.map_append, List.append_assoc]; rfl
            obtain ⟨al, hal⟩ : ∃ al, (A ++ (items.take j).map putA).length = al := ⟨_, rfl⟩
            have HAL : Hid ((A ++ (items.take j).map putA).length = al) := hal
            have hal2 : al ≤ 4000 := by rw [← hal, List.length_append, List.length_map, List.length_take]; omega
            have HOX : Hid (wr.ownsRow w.heap.size 196 11 u3 al (avCells (A ++ (items.take j).map putA))) := by have := HI.out.own; rw [hal] at this; exact this
            have hsx : w.heap.size ≤ wr.heap.size := HI.out.blw.size
            generalize items[j] = x at *
            clear hal hjl
            generalize A ++ (items.take j).map putA = L at *
            have HUA : Hid (∀ o, Below wr.heap.size wr ((boxed x wr).alloc o)) := fun o => ((Below.refl _ _).alloc (Nat.le_refl _) _).alloc (by simp) o
            go_wp2_with (at_builtin; refine wpList_append_lies _ rfl (.tmp 22) (.tmp 25) 193 rfl w.heap.size 196 i0 (.agg #[.int .i64 0, .int .u8 0, .int .i64 0, .string ⟨#[]⟩, .int .i64 0, .int .i64 0, .slice none 0 0, .int .i64 0, .int .i64 0, .bool false, .string ⟨#[]⟩]) 11 120 Tryz.underlying193 hi hz0 hz1 hz2 rfl (by decide) u3 al (avCells L) rfl ?c1 ⟨wr.heap.size + 1, 0, none⟩ 1 1 [.int .i64 2, .int .u8 x.c.toNat, .int .i64 x.m, .string x.l, .int .i64 0, .int .i64 0, .slice none 0 0, .int .i64 0, .int .i64 0, .bool false, .string ⟨#[]⟩] rfl rfl ?c2 ?c3 (by decide) ?c4 ?c5 ?c6 _ rfl ?c7)
            case c1 => exact (HOX.out.alloc _).alloc _
            case c2 => exact World.news_of_block (cs := #[.int .i64 2, .int .u8 x.c.toNat, .int .i64 x.m, .string x.l, .int .i64 0, .int .i64 0, .slice none 0 0, .int .i64 0, .int .i64 0, .bool false, .string ⟨#[]⟩]) (Blk.newAt (boxed x wr) (wr.heap.size + 1) [.int .i64 2, .int .u8 x.c.toNat, .int .i64 x.m, .string x.l, .int .i64 0, .int .i64 0, .slice none 0 0, .int .i64 0, .int .i64 0, .bool false, .string ⟨#[]⟩] 196 (World.size_alloc ..))
            case c3 => exact avC_one (putA x)
            case c4 => unfold maxLen; omega
            case c5 => omega
            case c6 => first | omega | (simp; omega)
            case c7 =>
              intro g cap2 w3 hown hgrow hat hlt2
              have HFIN : Hid (ActI w bx ⟨2, n, some ⟨ib, io, none⟩, m, cap, items, st, cl, gs, lk⟩ (.slice (some ⟨g, 0, none⟩) (al + 1) cap2) (L ++ [putA x]) w3) := HI.out.push HAL.out (HUA.out _) hown hgrow (by rcases hat with h | h; exact .inl h; exact .inr (h.trans (by simp [boxed])))
              clear hown hgrow hat hlt2
              go_wp2
              go_roundw
              case rel => exact ⟨j + 1, by omega, by go_num, by rw [HNX.out]; exact HFIN.out⟩
              case measure => simp [intOf]; omega
          · have hjj : j = m := by omega
            have hft : items.take j = items := List.take_of_length_le (by rw [HLM.out]; omega)
            rw [hft] at HI
            obtain ⟨b0, b1, b2, b3, b4, b5, b6⟩ := HI.out.box
            simp only [Nat.zero_add] at b0 b1 b2 b3 b4 b5 b6
            subst hjj
            clear hft
            go_wp2
            go_roundw
            case rel => exact ⟨k + 1, by omega, by go_num, by rw [HTK.out]; exact HI.out.own, HI.out.blw⟩
            case measure => simp [intOf]; omega
      · have hkb : (kind == 2) = false := by simp [h2]
        have hkd : kind = 1 ∨ kind = 3 := by
          rcases Ac.kind_of hok with h | h | h
          · exact .inl h
          · exact absurd h h2
          · exact .inr h
        have hqb : 1 ≤ n ∧ n ≤ 80 := by
          rcases hkd with h | h
          · have := Ac.keep_m4 hok h; exact ⟨this.2.2.1, this.2.2.2⟩
          · exact Ac.cut_n hok h
        have him : items = [] := by
          rcases hkd with h | h
          · exact Ac.keep_items hok h
          · exact Ac.cut_items hok h
        have hm0 : m = 0 := by have := HPV.doc.len; rw [him] at this; exact this.symm
        subst hm0
        obtain ⟨qn, rfl⟩ : ∃ qn : Nat, n = qn := ⟨n.toNat, by omega⟩
        have hav : actV ⟨kind, qn, ao, 0, cap, items, st, cl, gs, lk⟩ = List.replicate qn ⟨kind, it0, ⟨kind, 1, ao, 0, cap, items, st, cl, gs, lk⟩⟩ := if_neg h2
        rw [hav] at HTK
        have HS5 : Hid (Seven (boxp ⟨kind, qn, ao, 0, cap, items, st, cl, gs, lk⟩ wr) wr.heap.size 0 ⟨kind, qn, ao, 0, cap, items, st, cl, gs, lk⟩) := boxp_at _ wr
        have hw5 : Below wr.heap.size wr (boxp ⟨kind, qn, ao, 0, cap, items, st, cl, gs, lk⟩ wr) := boxp_below _ wr
        have HI5 : Hid (ActI w wr.heap.size ⟨kind, qn, ao, 0, cap, items, st, cl, gs, lk⟩ u3 A (boxp ⟨kind, qn, ao, 0, cap, items, st, cl, gs, lk⟩ wr)) := ⟨own_under HOW.out hw5, fun e => by have := (HOW.out.lt _ e).2; omega, HS5.out, HBR.out.trans (hw5.mono HBR.out.size)⟩
        have hq80 : qn ≤ 80 := by omega
        clear hav hok HPV hw5 hkd hqb him h2 HPW0
        go_upto_region 5 with fail
        change Code.wp Tryz.prog _ _ _ (boxp ⟨kind, qn, ao, 0, cap, items, st, cl, gs, lk⟩ wr)
        generalize boxp ⟨kind, qn, ao, 0, cap, items, st, cl, gs, lk⟩ wr = W5 at *
        clear c0 c1 c2 c3 c4 c5 c6
        obtain ⟨d0, d1, d2, d3, d4, d5, d6⟩ := HS5.out
        simp only [Nat.zero_add] at d0 d1 d2 d3 d4 d5 d6
        generalize wr.heap.size = bx at *
        go_wp2
        refine wp_loop_rounds 1 ?_
        rw [rounds_succ]
        go_wp2
        go_loopw [3, 33] (fun lv i wx => ∃ j : Nat, j ≤ qn ∧ i = .int .i64 j ∧ ActI w bx ⟨kind, qn, ao, 0, cap, items, st, cl, gs, lk⟩ lv (A ++ List.replicate j ⟨kind, it0, ⟨kind, 1, ao, 0, cap, items, st, cl, gs, lk⟩⟩) wx) (fun _ i _ => qn - (intOf i).toNat)
        case atStart => exact ⟨0, Nat.zero_le _, rfl, by simpa using HI5.out⟩
        case round =>
          obtain ⟨j, hj, rfl, hI⟩ := hrel
          have HI : Hid (ActI w bx ⟨kind, qn, ao, 0, cap, items, st, cl, gs, lk⟩ u3 (A ++ List.replicate j ⟨kind, it0, ⟨kind, 1, ao, 0, cap, items, st, cl, gs, lk⟩⟩) wr) := hI
          clear hI d0 d1 d2 d3 d4 d5 d6
          obtain ⟨b0, b1, b2, b3, b4, b5, b6⟩ := HI.out.box
          simp only [Nat.zero_add] at b0 b1 b2 b3 b4 b5 b6
          by_cases hjm : j < qn
          · have HNX : Hid (A ++ List.replicate (j + 1) ⟨kind, it0, ⟨kind, 1, ao, 0, cap, items, st, cl, gs, lk⟩⟩ = (A ++ List.replicate j ⟨kind, it0, ⟨kind, 1, ao, 0, cap, items, st, cl, gs, lk⟩⟩) ++ [⟨kind, it0, ⟨kind, 1, ao, 0, cap, items, st, cl, gs, lk⟩⟩]) := by show _ = _; rw [List.replicate_succ', List.append_assoc]
            obtain ⟨al, hal⟩ : ∃ al, (A ++ List.replicate j (⟨kind, it0, ⟨kind, 1, ao, 0, cap, items, st, cl, gs, lk⟩⟩ : AV)).length = al := ⟨_, rfl⟩
            have HAL : Hid ((A ++ List.replicate j (⟨kind, it0, ⟨kind, 1, ao, 0, cap, items, st, cl, gs, lk⟩⟩ : AV)).length = al) := hal
            have hal2 : al ≤ 4000 := by rw [← hal, List.length_append, List.length_replicate]; omega
            have HOX : Hid (wr.ownsRow w.heap.size 196 11 u3 al (avCells (A ++ List.replicate j ⟨kind, it0, ⟨kind, 1, ao, 0, cap, items, st, cl, gs, lk⟩⟩))) := by have := HI.out.own; rw [hal] at this; exact this
            have hsx : w.heap.size ≤ wr.heap.size := HI.out.blw.size
            have hbl : bx < wr.heap.size := cell_lt b0
            have hbn : bx ≠ wr.heap.size := by omega
            have hbn' : wr.heap.size ≠ bx := by omega
            have HUA : Hid (∀ o, Below wr.heap.size wr ((boxp ⟨kind, 1, ao, 0, cap, items, st, cl, gs, lk⟩ wr).alloc o)) := fun o => ((Below.refl _ _).alloc (Nat.le_refl _) _).alloc (by simp) o
            clear hal
            generalize A ++ List.replicate j (⟨kind, it0, ⟨kind, 1, ao, 0, cap, items, st, cl, gs, lk⟩⟩ : AV) = L at *
            go_wp2_with (at_builtin; refine wpList_append_lies _ rfl (.tmp 37) (.tmp 42) 193 rfl w.heap.size 196 i0 (.agg #[.int .i64 0, .int .u8 0, .int .i64 0, .string ⟨#[]⟩, .int .i64 0, .int .i64 0, .slice none 0 0, .int .i64 0, .int .i64 0, .bool false, .string ⟨#[]⟩]) 11 120 Tryz.underlying193 hi hz0 hz1 hz2 rfl (by decide) u3 al (avCells L) rfl ?c1 ⟨wr.heap.size + 1, 0, none⟩ 1 1 [.int .i64 kind, .int .u8 0, .int .i64 0, .string ⟨#[]⟩, .int .i64 kind, .int .i64 1, .slice ao 0 cap, .int .i64 st, .int .i64 cl, .bool gs, .string lk] rfl rfl ?c2 ?c3 (by decide) ?c4 ?c5 ?c6 _ rfl ?c7)
            case c1 => exact (HOX.out.alloc _).alloc _
            case c2 => exact World.news_of_block (cs := #[.int .i64 kind, .int .u8 0, .int .i64 0, .string ⟨#[]⟩, .int .i64 kind, .int .i64 1, .slice ao 0 cap, .int .i64 st, .int .i64 cl, .bool gs, .string lk]) (Blk.newAt (boxp ⟨kind, 1, ao, 0, cap, items, st, cl, gs, lk⟩ wr) (wr.heap.size + 1) [.int .i64 kind, .int .u8 0, .int .i64 0, .string ⟨#[]⟩, .int .i64 kind, .int .i64 1, .slice ao 0 cap, .int .i64 st, .int .i64 cl, .bool gs, .string lk] 196 (World.size_alloc ..))
            case c3 => exact avC_one ⟨kind, it0, ⟨kind, 1, ao, 0, cap, items, st, cl, gs, lk⟩⟩
            case c4 => unfold maxLen; omega
            case c5 => omega
            case c6 => first | omega | (simp; omega)
            case c7 =>
              intro g cap2 w3 hown hgrow hat hlt2
              have HFIN : Hid (ActI w bx ⟨kind, qn, ao, 0, cap, items, st, cl, gs, lk⟩ (.slice (some ⟨g, 0, none⟩) (al + 1) cap2) (L ++ [⟨kind, it0, ⟨kind, 1, ao, 0, cap, items, st, cl, gs, lk⟩⟩]) w3) := HI.out.push HAL.out (HUA.out _) hown hgrow (by rcases hat with h | h; exact .inl h; exact .inr (h.trans (by simp [boxp])))
              clear hown hgrow hat hlt2
              go_wp2
              go_roundw
              case rel => exact ⟨j + 1, by omega, by go_num, by rw [HNX.out]; exact HFIN.out⟩
              case measure => simp [intOf]; omega
          · have hjj : j = qn := by omega
            subst hjj
            go_wp2
            go_roundw
            case rel => exact ⟨k + 1, by omega, by go_num, by rw [HTK.out]; exact HI.out.own, HI.out.blw⟩
            case measure => simp [intOf]; omega
    · have hkn : k = n' := by omega
      have hm : vs.take k = vs := List.take_of_length_le (by rw [HN.out]; omega)
      rw [hm, HR.out] at HOW
      clear hm
      subst hkn
      go_wp2
      go_ret
      exact ⟨⟨_, rfl, HOW.out⟩, HBR.out⟩
end Go.Proofs.YtbhcklkbckacpaaGreatDoor

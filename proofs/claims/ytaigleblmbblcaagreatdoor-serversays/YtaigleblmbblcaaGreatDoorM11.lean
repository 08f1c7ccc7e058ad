/-
  Texts of this proof, one behind the other.
-/
import Derived.Test.YtaigleblmbblcaaGreatDoorM10
import Derived.Test.YtaigleblmbblcaaGreatDoorM6
import Derived.Deep.RegionHeld3
import Derived.Test.YtaigleblmbblcaaGreatDoorM5

/-
  The reference's acts of a right operation, one an item, in memory.
-/
namespace Go.Proofs.YtaigleblmbblcaaGreatDoor
open Go.RowKit

theorem Tryz.infA : (Tryz.prog.info? 104).map (fun i => (i.zero, i.size, i.bytes)) = some (some (.agg #[.int .i64 0, .int .u8 0, .int .i64 0, .string ⟨#[]⟩, .int .i64 0, .int .i64 0, .slice none 0 0, .int .i64 0, .int .i64 0, .bool false, .string ⟨#[]⟩]), 11, 120) := by kernel_rfl
structure AV where
  kind : Int
  x : It
  p : PV
def avC (a : AV) : List Value := .int .i64 a.kind :: .int .u8 a.x.c.toNat :: .int .i64 a.x.m :: .string a.x.l :: pvC a.p
def avCells (l : List AV) : List Value := l.flatMap avC
theorem avCells_app (l l' : List AV) : avCells (l ++ l') = avCells l ++ avCells l' := List.flatMap_append
theorem avCells_one (v : AV) : avCells [v] = avC v := by simp [avCells]
theorem avCells_cons (a : AV) (l : List AV) : avCells (a :: l) = .int .i64 a.kind :: .int .u8 a.x.c.toNat :: .int .i64 a.x.m :: .string a.x.l :: .int .i64 a.p.kind :: .int .i64 a.p.n :: .slice a.p.ao a.p.m a.p.cap :: .int .i64 a.p.set :: .int .i64 a.p.clr :: .bool a.p.goes :: .string a.p.link :: avCells l := rfl
theorem avCells_len : ∀ l : List AV, (avCells l).length = l.length * 11
  | [] => rfl
  | k :: l => by rw [avCells_cons]; simp only [List.length_cons]; rw [avCells_len l]; omega
theorem avC_one (v : AV) : ∀ u ∈ avC v, u.oneCell' = true := by
  intro u h
  simp only [avC, pvC, List.mem_cons, List.not_mem_nil, or_false] at h
  rcases h with rfl | rfl | rfl | rfl | rfl | rfl | rfl | rfl | rfl | rfl | rfl <;> rfl
theorem Ac.cut_items {p : Ac.Pt} (h : Ac.err1 p = 0) (hk : p.kind = 3) : p.items = [] := by
  have hs := (Ac.same1_eq.1 (Ac.err1_0 h).2)
  unfold Ac.usedP at hs
  rw [if_neg (by omega), if_neg (by omega)] at hs
  exact (congrArg Ac.Pt.items hs).trans rfl
def it0 : It := ⟨0, 0, ⟨#[]⟩⟩
def putA (x : It) : AV := ⟨2, x, pv0⟩
def oneP (v : PV) : PV := { v with n := 1 }
def actV (v : PV) : List AV := if v.kind = 2 then v.items.map putA else List.replicate v.n.toNat ⟨v.kind, it0, oneP v⟩
def actsV (vs : List PV) : List AV := vs.flatMap actV
theorem actsV_snoc (vs : List PV) (v : PV) : actsV (vs ++ [v]) = actsV vs ++ actV v := by simp [actsV]
theorem actV_len {v : PV} (h : Ac.err1 v.pt = 0) : (actV v).length ≤ 80 := by
  unfold actV
  rcases Ac.kind_of h with k | k | k
  · rw [if_neg (show ¬ v.kind = 2 by change v.kind = 1 at k; omega), List.length_replicate]
    have := (Ac.keep_m4 h k).2.2.2
    change v.n ≤ 80 at this
    omega
  · rw [if_pos (show v.kind = 2 from k), List.length_map]; exact (Ac.put_len h k).2.1
  · rw [if_neg (show ¬ v.kind = 2 by change v.kind = 3 at k; omega), List.length_replicate]
    have := (Ac.cut_n h k).2
    change v.n ≤ 80 at this
    omega
theorem actsV_len : ∀ {vs : List PV}, (∀ v ∈ vs, Ac.err1 v.pt = 0) → (actsV vs).length ≤ vs.length * 80
  | [], _ => Nat.le_refl _
  | v :: vs, h => by
    have h1 := actV_len (h v (List.mem_cons_self ..))
    have h2 := actsV_len (fun u hu => h u (List.mem_cons_of_mem _ hu))
    have e : actsV (v :: vs) = actV v ++ actsV vs := rfl
    rw [e, List.length_append, List.length_cons]
    omega
structure ActI (w : World) (b : Nat) (v : PV) (lv : Value) (l : List AV) (wx : World) : Prop where
  own : wx.ownsRow w.heap.size 104 11 lv l.length (avCells l)
  far : lv.ownBlock ≠ some b
  box : Seven wx b 0 v
  blw : Below w.heap.size w wx
theorem ActI.push {w wx wa w3 : World} {b g cap n : Nat} {v : PV} {lv : Value} {l : List AV} {a : AV} (h : ActI w b v lv l wx) (hn : l.length = n) (hal : Below wx.heap.size wx wa)
    (hown : w3.ownsRow w.heap.size 104 11 (.slice (some ⟨g, 0, none⟩) (n + 1) cap) (n + 1) (avCells l ++ avC a)) (hg : wa.grownBy w3 lv.ownBlock) (hat : lv.ownBlock = some g ∨ g = wa.heap.size) :
    ActI w b v (.slice (some ⟨g, 0, none⟩) (n + 1) cap) (l ++ [a]) w3 := by
  have hlt := cell_lt h.box.c0
  have hs := hal.size
  have hbx := h.box.below hal
  refine ⟨by rw [List.length_append, avCells_app, avCells_one, hn]; exact hown, fun e => ?_, hbx.same (hg.block b (by simp at hlt; omega) (fun e => h.far e.symm)), ?_⟩
  · have hgb : g = b := by simpa [Value.ownBlock] using e
    rcases hat with e2 | e2
    · exact h.far (by rw [e2, hgb])
    · simp at hlt; omega
  · refine (h.blw.trans (hal.mono h.blw.size)).trans ⟨hg.os, hg.tape, hg.output, hg.size, fun k hk => hg.block k (by have := h.blw.size; omega) (fun e => ?_)⟩
    have := ownBlk_ge h.own k e.symm
    omega

set_option maxRecDepth 100000 in
set_option maxHeartbeats 12800000 in
theorem acts_any (ao' : Option Addr) (n' cap' : Nat) (vs : List PV) (w : World) (hO : Ops w ao' n' cap' vs) (hok : ∀ v ∈ vs, Ac.err1 v.pt = 0) (hn40 : n' ≤ 40) :
    Calls Tryz.prog 73 #[.slice ao' n' cap'] w fun e w' => (∃ lv, e = .returned lv ∧ w'.ownsRow w.heap.size 104 11 lv (actsV vs).length (avCells (actsV vs))) ∧ Below w.heap.size w w' := by
  obtain ⟨i0, hi, hz0, hz1, hz2⟩ := info_parts Tryz.infA
  have HO : Hid (Ops w ao' n' cap' vs) := hO
  have HN : Hid (vs.length = n') := hO.len
  have HOK : Hid (∀ v ∈ vs, Ac.err1 v.pt = 0) := hok
  have HLEN : Hid (∀ k, (actsV (vs.take k)).length ≤ 3200) := fun k => by
    have h1 := actsV_len (vs := vs.take k) (fun v hv => hok v (List.mem_of_mem_take hv))
    have h2 : (vs.take k).length ≤ 40 := by rw [List.length_take, hO.len]; omega
    omega
  have hcap := hO.row.room
  have hbig := hO.row.big
  clear hO hok
  obtain ⟨R, hR⟩ : ∃ R, actsV vs = R := ⟨_, rfl⟩
  have HR : Hid (actsV vs = R) := hR
  rw [hR]
  clear hR
  go_enter Tryz.func73, Tryz.ntmps73
  go_wp2
  go_loopw [3, 11] (fun lv i wr => ∃ k : Nat, k ≤ n' ∧ i = .int .i64 k ∧ wr.ownsRow w.heap.size 104 11 lv (actsV (vs.take k)).length (avCells (actsV (vs.take k))) ∧ Below w.heap.size w wr) (fun _ i _ => n' - (intOf i).toNat)
  case atStart => exact ⟨0, Nat.zero_le _, rfl, World.ownsRow_nil _ _ _ _, Below.refl _ _⟩
  case round =>
    obtain ⟨k, hk, rfl, ho, hbr⟩ := hrel
    have HBR : Hid (Below w.heap.size w wr) := hbr
    have HOW : Hid (wr.ownsRow w.heap.size 104 11 u3 (actsV (vs.take k)).length (avCells (actsV (vs.take k)))) := ho
    clear ho hbr
    by_cases hlt : k < n'
    · obtain ⟨pb, po, rfl, hG⟩ := HO.out.get (by omega)
      have hkv : k < vs.length := by rw [HN.out]; exact hlt
      have HTK : Hid (actsV (vs.take (k + 1)) = actsV (vs.take k) ++ actV vs[k]) := by show _ = _; rw [List.take_succ_eq_append_getElem hkv, actsV_snoc]
      have hl1 := HLEN.out k
      have hok := HOK.out vs[k] (List.getElem_mem hkv)
      have HPW0 : Hid (Pvt w vs[k]) := HO.out.pts vs[k] (List.getElem_mem hkv)
      have HPV := (HO.out.pts vs[k] (List.getElem_mem hkv)).below HBR.out
      obtain ⟨c0, c1, c2, c3, c4, c5, c6⟩ := (hG k hkv).below HBR.out
      clear hG
      generalize actsV (vs.take k) = A at *
      generalize vs[k] = v at *
      obtain ⟨kind, n, ao, m, cap, items, st, cl, gs, lk⟩ := v
      simp only at c0 c1 c2 c3 c4 c5 c6
      clear hkv
      by_cases h2 : kind = 2
      · subst h2
        obtain ⟨hp1, hp2, -⟩ := Ac.put_len hok rfl
        change 1 ≤ items.length at hp1
        change items.length ≤ 80 at hp2
        have hlm : items.length = m := HPV.doc.len
        rw [hlm] at hp1 hp2
        have hav : actV ⟨2, n, ao, m, cap, items, st, cl, gs, lk⟩ = items.map putA := rfl
        rw [hav] at HTK
        obtain ⟨ib, io, rfl, hIA⟩ := HPV.doc.lies (by change m ≠ 0; omega)
        have HS5 : Hid (Seven (boxp ⟨2, n, some ⟨ib, io, none⟩, m, cap, items, st, cl, gs, lk⟩ wr) wr.heap.size 0 ⟨2, n, some ⟨ib, io, none⟩, m, cap, items, st, cl, gs, lk⟩) := boxp_at _ wr
        have hw5 : Below wr.heap.size wr (boxp ⟨2, n, some ⟨ib, io, none⟩, m, cap, items, st, cl, gs, lk⟩ wr) := boxp_below _ wr
        have HI5 : Hid (ActI w wr.heap.size ⟨2, n, some ⟨ib, io, none⟩, m, cap, items, st, cl, gs, lk⟩ u3 A (boxp ⟨2, n, some ⟨ib, io, none⟩, m, cap, items, st, cl, gs, lk⟩ wr)) := ⟨own_under HOW.out hw5, fun e => by have := (HOW.out.lt _ e).2; omega, HS5.out, HBR.out.trans (hw5.mono HBR.out.size)⟩
        have HIA : Hid (At (boxp ⟨2, n, some ⟨ib, io, none⟩, m, cap, items, st, cl, gs, lk⟩ wr) ib io items) := hIA.below hw5
        have HIL : Hid (ib < (boxp ⟨2, n, some ⟨ib, io, none⟩, m, cap, items, st, cl, gs, lk⟩ wr).heap.size ∧ Below wr.heap.size wr (boxp ⟨2, n, some ⟨ib, io, none⟩, m, cap, items, st, cl, gs, lk⟩ wr)) := ⟨cell_lt (HIA.out.c 0 (by omega)), hw5⟩
        have HLM : Hid (items.length = m) := hlm
        have HIB : Hid (∀ wx, Below w.heap.size w wx → At w ib io items → At wx ib io items) := fun wx hb hA => hA.below hb
        have HPW : Hid (At w ib io items) := by
          obtain ⟨b', o', e', hA'⟩ := HPW0.out.doc.lies (by change m ≠ 0; omega)
          cases e'
          exact hA'
        clear hav hok HPV hIA hw5 hlm
        go_upto_region 5 with fail
        change Code.wp Tryz.prog _ _ _ (boxp ⟨2, n, some ⟨ib, io, none⟩, m, cap, items, st, cl, gs, lk⟩ wr)
        generalize boxp ⟨2, n, some ⟨ib, io, none⟩, m, cap, items, st, cl, gs, lk⟩ wr = W5 at *
        clear c0 c1 c2 c3 c4 c5 c6
        obtain ⟨d0, d1, d2, d3, d4, d5, d6⟩ := HS5.out
        simp only [Nat.zero_add] at d0 d1 d2 d3 d4 d5 d6
        generalize wr.heap.size = bx at *
        go_wp2
        go_loopw [3, 18] (fun lv i wx => ∃ j : Nat, j ≤ m ∧ i = .int .i64 j ∧ ActI w bx ⟨2, n, some ⟨ib, io, none⟩, m, cap, items, st, cl, gs, lk⟩ lv (A ++ (items.take j).map putA) wx) (fun _ i _ => m - (intOf i).toNat)
        case atStart => exact ⟨0, Nat.zero_le _, rfl, by simpa using HI5.out⟩
        case round =>
          obtain ⟨j, hj, rfl, hI⟩ := hrel
          have HI : Hid (ActI w bx ⟨2, n, some ⟨ib, io, none⟩, m, cap, items, st, cl, gs, lk⟩ u3 (A ++ (items.take j).map putA) wr) := hI
          clear hI
          by_cases hjm : j < m
          · have hjl : j < items.length := by rw [HLM.out]; exact hjm
            obtain ⟨i00, i01, i02⟩ := (HIB.out _ HI.out.blw HPW.out).get (List.getElem?_eq_getElem hjl)
            have HNX : Hid (A ++ (items.take (j + 1)).map putA = (A ++ (items.take j).map putA) ++ [putA items[j]]) := by show _ = _; rw [List.take_succ_eq_append_getElem hjl, List.map_append, List.append_assoc]; rfl
            obtain ⟨al, hal⟩ : ∃ al, (A ++ (items.take j).map putA).length = al := ⟨_, rfl⟩
            have HAL : Hid ((A ++ (items.take j).map putA).length = al) := hal
            have hal2 : al ≤ 4000 := by rw [← hal, List.length_append, List.length_map, List.length_take]; omega
            have HOX : Hid (wr.ownsRow w.heap.size 104 11 u3 al (avCells (A ++ (items.take j).map putA))) := by have := HI.out.own; rw [hal] at this; exact this
            have hsx : w.heap.size ≤ wr.heap.size := HI.out.blw.size
            generalize items[j] = x at *
            clear hal hjl
            generalize A ++ (items.take j).map putA = L at *
            have HUA : Hid (∀ o, Below wr.heap.size wr ((boxed x wr).alloc o)) := fun o => ((Below.refl _ _).alloc (Nat.le_refl _) _).alloc (by simp) o
            go_wp2_with (at_builtin; refine wpList_append_lies _ rfl (.tmp 22) (.tmp 25) 101 rfl w.heap.size 104 i0 (.agg #[.int .i64 0, .int .u8 0, .int .i64 0, .string ⟨#[]⟩, .int .i64 0, .int .i64 0, .slice none 0 0, .int .i64 0, .int .i64 0, .bool false, .string ⟨#[]⟩]) 11 120 Tryz.underlying101 hi hz0 hz1 hz2 rfl (by decide) u3 al (avCells L) rfl ?c1 ⟨wr.heap.size + 1, 0, none⟩ 1 1 [.int .i64 2, .int .u8 x.c.toNat, .int .i64 x.m, .string x.l, .int .i64 0, .int .i64 0, .slice none 0 0, .int .i64 0, .int .i64 0, .bool false, .string ⟨#[]⟩] rfl rfl ?c2 ?c3 (by decide) ?c4 ?c5 ?c6 _ rfl ?c7)
            case c1 => exact (HOX.out.alloc _).alloc _
            case c2 => exact World.news_of_block (cs := #[.int .i64 2, .int .u8 x.c.toNat, .int .i64 x.m, .string x.l, .int .i64 0, .int .i64 0, .slice none 0 0, .int .i64 0, .int .i64 0, .bool false, .string ⟨#[]⟩]) (Blk.newAt (boxed x wr) (wr.heap.size + 1) [.int .i64 2, .int .u8 x.c.toNat, .int .i64 x.m, .string x.l, .int .i64 0, .int .i64 0, .slice none 0 0, .int .i64 0, .int .i64 0, .bool false, .string ⟨#[]⟩] 104 (World.size_alloc ..))
            case c3 => exact avC_one (putA x)
            case c4 => unfold maxLen; omega
            case c5 => omega
            case c6 => first | omega | (simp; omega)
            case c7 =>
              intro g cap2 w3 hown hgrow hat hlt2
              have HFIN : Hid (ActI w bx ⟨2, n, some ⟨ib, io, none⟩, m, cap, items, st, cl, gs, lk⟩ (.slice (some ⟨g, 0, none⟩) (al + 1) cap2) (L ++ [putA x]) w3) := HI.out.push HAL.out (HUA.out _) hown hgrow (by rcases hat with h | h; exact .inl h; exact .inr (h.trans (by simp [boxed])))
              clear hown hgrow hat hlt2
              go_wp2
              go_roundw
              case rel => exact ⟨j + 1, by omega, by go_num, by rw [HNX.out]; exact HFIN.out⟩
              case measure => simp [intOf]; omega
          · have hjj : j = m := by omega
            have hft : items.take j = items := List.take_of_length_le (by rw [HLM.out]; omega)
            rw [hft] at HI
            obtain ⟨b0, b1, b2, b3, b4, b5, b6⟩ := HI.out.box
            simp only [Nat.zero_add] at b0 b1 b2 b3 b4 b5 b6
            subst hjj
            clear hft
            go_wp2
            go_roundw
            case rel => exact ⟨k + 1, by omega, by go_num, by rw [HTK.out]; exact HI.out.own, HI.out.blw⟩
            case measure => simp [intOf]; omega
      · have hkb : (kind == 2) = false := by simp [h2]
        have hkd : kind = 1 ∨ kind = 3 := by
          rcases Ac.kind_of hok with h | h | h
          · exact .inl h
          · exact absurd h h2
          · exact .inr h
        have hqb : 1 ≤ n ∧ n ≤ 80 := by
          rcases hkd with h | h
          · have := Ac.keep_m4 hok h; exact ⟨this.2.2.1, this.2.2.2⟩
          · exact Ac.cut_n hok h
        have him : items = [] := by
          rcases hkd with h | h
          · exact Ac.keep_items hok h
          · exact Ac.cut_items hok h
        have hm0 : m = 0 := by have := HPV.doc.len; rw [him] at this; exact this.symm
        subst hm0
        obtain ⟨qn, rfl⟩ : ∃ qn : Nat, n = qn := ⟨n.toNat, by omega⟩
        have hav : actV ⟨kind, qn, ao, 0, cap, items, st, cl, gs, lk⟩ = List.replicate qn ⟨kind, it0, ⟨kind, 1, ao, 0, cap, items, st, cl, gs, lk⟩⟩ := if_neg h2
        rw [hav] at HTK
        have HS5 : Hid (Seven (boxp ⟨kind, qn, ao, 0, cap, items, st, cl, gs, lk⟩ wr) wr.heap.size 0 ⟨kind, qn, ao, 0, cap, items, st, cl, gs, lk⟩) := boxp_at _ wr
        have hw5 : Below wr.heap.size wr (boxp ⟨kind, qn, ao, 0, cap, items, st, cl, gs, lk⟩ wr) := boxp_below _ wr
        have HI5 : Hid (ActI w wr.heap.size ⟨kind, qn, ao, 0, cap, items, st, cl, gs, lk⟩ u3 A (boxp ⟨kind, qn, ao, 0, cap, items, st, cl, gs, lk⟩ wr)) := ⟨own_under HOW.out hw5, fun e => by have := (HOW.out.lt _ e).2; omega, HS5.out, HBR.out.trans (hw5.mono HBR.out.size)⟩
        have hq80 : qn ≤ 80 := by omega
        clear hav hok HPV hw5 hkd hqb him h2 HPW0
        go_upto_region 5 with fail
        change Code.wp Tryz.prog _ _ _ (boxp ⟨kind, qn, ao, 0, cap, items, st, cl, gs, lk⟩ wr)
        generalize boxp ⟨kind, qn, ao, 0, cap, items, st, cl, gs, lk⟩ wr = W5 at *
        clear c0 c1 c2 c3 c4 c5 c6
        obtain ⟨d0, d1, d2, d3, d4, d5, d6⟩ := HS5.out
        simp only [Nat.zero_add] at d0 d1 d2 d3 d4 d5 d6
        generalize wr.heap.size = bx at *
        go_wp2
        refine wp_loop_rounds 1 ?_
        rw [rounds_succ]
        go_wp2
        go_loopw [3, 33] (fun lv i wx => ∃ j : Nat, j ≤ qn ∧ i = .int .i64 j ∧ ActI w bx ⟨kind, qn, ao, 0, cap, items, st, cl, gs, lk⟩ lv (A ++ List.replicate j ⟨kind, it0, ⟨kind, 1, ao, 0, cap, items, st, cl, gs, lk⟩⟩) wx) (fun _ i _ => qn - (intOf i).toNat)
        case atStart => exact ⟨0, Nat.zero_le _, rfl, by simpa using HI5.out⟩
        case round =>
          obtain ⟨j, hj, rfl, hI⟩ := hrel
          have HI : Hid (ActI w bx ⟨kind, qn, ao, 0, cap, items, st, cl, gs, lk⟩ u3 (A ++ List.replicate j ⟨kind, it0, ⟨kind, 1, ao, 0, cap, items, st, cl, gs, lk⟩⟩) wr) := hI
          clear hI d0 d1 d2 d3 d4 d5 d6
          obtain ⟨b0, b1, b2, b3, b4, b5, b6⟩ := HI.out.box
          simp only [Nat.zero_add] at b0 b1 b2 b3 b4 b5 b6
          by_cases hjm : j < qn
          · have HNX : Hid (A ++ List.replicate (j + 1) ⟨kind, it0, ⟨kind, 1, ao, 0, cap, items, st, cl, gs, lk⟩⟩ = (A ++ List.replicate j ⟨kind, it0, ⟨kind, 1, ao, 0, cap, items, st, cl, gs, lk⟩⟩) ++ [⟨kind, it0, ⟨kind, 1, ao, 0, cap, items, st, cl, gs, lk⟩⟩]) := by show _ = _; rw [List.replicate_succ', List.append_assoc]
            obtain ⟨al, hal⟩ : ∃ al, (A ++ List.replicate j (⟨kind, it0, ⟨kind, 1, ao, 0, cap, items, st, cl, gs, lk⟩⟩ : AV)).length = al := ⟨_, rfl⟩
            have HAL : Hid ((A ++ List.replicate j (⟨kind, it0, ⟨kind, 1, ao, 0, cap, items, st, cl, gs, lk⟩⟩ : AV)).length = al) := hal
            have hal2 : al ≤ 4000 := by rw [← hal, List.length_append, List.length_replicate]; omega
            have HOX : Hid (wr.ownsRow w.heap.size 104 11 u3 al (avCells (A ++ List.replicate j ⟨kind, it0, ⟨kind, 1, ao, 0, cap, items, st, cl, gs, lk⟩⟩))) := by have := HI.out.own; rw [hal] at this; exact this
            have hsx : w.heap.size ≤ wr.heap.size := HI.out.blw.size
            have hbl : bx < wr.heap.size := cell_lt b0
            have hbn : bx ≠ wr.heap.size := by omega
            have hbn' : wr.heap.size ≠ bx := by omega
            have HUA : Hid (∀ o, Below wr.heap.size wr ((boxp ⟨kind, 1, ao, 0, cap, items, st, cl, gs, lk⟩ wr).alloc o)) := fun o => ((Below.refl _ _).alloc (Nat.le_refl _) _).alloc (by simp) o
            clear hal
            generalize A ++ List.replicate j (⟨kind, it0, ⟨kind, 1, ao, 0, cap, items, st, cl, gs, lk⟩⟩ : AV) = L at *
            go_wp2_with (at_builtin; refine wpList_append_lies _ rfl (.tmp 37) (.tmp 42) 101 rfl w.heap.size 104 i0 (.agg #[.int .i64 0, .int .u8 0, .int .i64 0, .string ⟨#[]⟩, .int .i64 0, .int .i64 0, .slice none 0 0, .int .i64 0, .int .i64 0, .bool false, .string ⟨#[]⟩]) 11 120 Tryz.underlying101 hi hz0 hz1 hz2 rfl (by decide) u3 al (avCells L) rfl ?c1 ⟨wr.heap.size + 1, 0, none⟩ 1 1 [.int .i64 kind, .int .u8 0, .int .i64 0, .string ⟨#[]⟩, .int .i64 kind, .int .i64 1, .slice ao 0 cap, .int .i64 st, .int .i64 cl, .bool gs, .string lk] rfl rfl ?c2 ?c3 (by decide) ?c4 ?c5 ?c6 _ rfl ?c7)
            case c1 => exact (HOX.out.alloc _).alloc _
            case c2 => exact World.news_of_block (cs := #[.int .i64 kind, .int .u8 0, .int .i64 0, .string ⟨#[]⟩, .int .i64 kind, .int .i64 1, .slice ao 0 cap, .int .i64 st, .int .i64 cl, .bool gs, .string lk]) (Blk.newAt (boxp ⟨kind, 1, ao, 0, cap, items, st, cl, gs, lk⟩ wr) (wr.heap.size + 1) [.int .i64 kind, .int .u8 0, .int .i64 0, .string ⟨#[]⟩, .int .i64 kind, .int .i64 1, .slice ao 0 cap, .int .i64 st, .int .i64 cl, .bool gs, .string lk] 104 (World.size_alloc ..))
            case c3 => exact avC_one ⟨kind, it0, ⟨kind, 1, ao, 0, cap, items, st, cl, gs, lk⟩⟩
            case c4 => unfold maxLen; omega
            case c5 => omega
            case c6 => first | omega | (simp; omega)
            case c7 =>
              intro g cap2 w3 hown hgrow hat hlt2
              have HFIN : Hid (ActI w bx ⟨kind, qn, ao, 0, cap, items, st, cl, gs, lk⟩ (.slice (some ⟨g, 0, none⟩) (al + 1) cap2) (L ++ [⟨kind, it0, ⟨kind, 1, ao, 0, cap, items, st, cl, gs, lk⟩⟩]) w3) := HI.out.push HAL.out (HUA.out _) hown hgrow (by rcases hat with h | h; exact .inl h; exact .inr (h.trans (by simp [boxp])))
              clear hown hgrow hat hlt2
              go_wp2
              go_roundw
              case rel => exact ⟨j + 1, by omega, by go_num, by rw [HNX.out]; exact HFIN.out⟩
              case measure => simp [intOf]; omega
          · have hjj : j = qn := by omega
            subst hjj
            go_wp2
            go_roundw
            case rel => exact ⟨k + 1, by omega, by go_num, by rw [HTK.out]; exact HI.out.own, HI.out.blw⟩
            case measure => simp [intOf]; omega
    · have hkn : k = n' := by omega
      have hm : vs.take k = vs := List.take_of_length_le (by rw [HN.out]; omega)
      rw [hm, HR.out] at HOW
      clear hm
      subst hkn
      go_wp2
      go_ret
      exact ⟨⟨_, rfl, HOW.out⟩, HBR.out⟩
end Go.Proofs.YtaigleblmbblcaaGreatDoor

/-
  The reference's changed item.
-/
namespace Go.Proofs.YtaigleblmbblcaaGreatDoor
open Go.RowKit

theorem szIt (y : It) : (Tryz.prog.info? 41).map (·.size) = some (itCells [y]).toArray.size := by
  have h : (Tryz.prog.info? 41).map (·.size) = some 3 := by kernel_rfl
  exact h
theorem ret_item {fn : Func} {p : Tmp} {y : It} {w : World} {g : Nat} (h : fn.results = #[.cell p 41]) (tmps : Array Value) (hp : tmps.getD p undef = .pointer (some ⟨g, 0, none⟩)) (hB : Blk w g (itCells [y]) 41) : (results fn tmps).run Tryz.prog w = .ok (.agg #[.int .u8 y.c.toNat, .int .i64 y.m, .string y.l]) w :=
  results_cell_row h tmps w g 41 (itCells [y]).toArray (0, 0) _ hp hB Tryz.underlying41 rfl (szIt y)
def putI (w : World) (g : Nat) (y : It) : World := ((w.setCell ⟨g, 0, none⟩ (.int .u8 y.c.toNat)).setCell ⟨g, 1, none⟩ (.int .i64 y.m)).setCell ⟨g, 2, none⟩ (.string y.l)
theorem putI_blk {w : World} {g : Nat} {x y : It} (h : Blk w g (itCells [x]) 41) : Blk (putI w g y) g (itCells [y]) 41 := ((h.set 0 (.int .u8 y.c.toNat)).set 1 (.int .i64 y.m)).set 2 (.string y.l)
theorem putI_below (w : World) (g : Nat) (y : It) : Below g w (putI w g y) := (((Below.refl g w).setCell (Nat.le_refl _) _).setCell (Nat.le_refl _) _).setCell (Nat.le_refl _) _
theorem itm_blk (x : It) (w : World) : Blk (boxed x w) w.heap.size (itCells [x]) 41 := Blk.new w _ _

set_option maxRecDepth 100000 in
set_option maxHeartbeats 3200000 in
theorem changedR_any (x : It) (p : PV) (w : World) (hm : Ac.m4 x.m) (hs : Ac.m4 p.set) (hc : Ac.m4 p.clr) :
    Calls Tryz.prog 74 #[.agg #[.int .u8 x.c.toNat, .int .i64 x.m, .string x.l], .agg #[.int .i64 p.kind, .int .i64 p.n, .slice p.ao p.m p.cap, .int .i64 p.set, .int .i64 p.clr, .bool p.goes, .string p.link]] w fun e w' => e = .returned (.agg #[.int .u8 (Ac.change x (Ac.chOf p.pt)).c.toNat, .int .i64 (Ac.change x (Ac.chOf p.pt)).m, .string (Ac.change x (Ac.chOf p.pt)).l]) ∧ Below w.heap.size w w' := by
  obtain ⟨kind, n, ao, m, cap, items, st, cl, gs, lk⟩ := p
  simp only at hs hc
  obtain ⟨y, hy⟩ : ∃ y, Ac.change x (Ac.chOf (PV.pt ⟨kind, n, ao, m, cap, items, st, cl, gs, lk⟩)) = y := ⟨_, rfl⟩
  have HY : Hid (Ac.change x ⟨st, cl, gs, lk⟩ = y) := hy
  rw [hy]
  clear hy
  have s1 : (boxed x w).heap.size = w.heap.size + 1 := World.size_alloc ..
  have s2 : (boxp ⟨kind, n, ao, m, cap, items, st, cl, gs, lk⟩ (boxed x w)).heap.size = w.heap.size + 2 := by rw [boxp_size, s1]
  have HX : Hid (Blk (boxed it0 (boxp ⟨kind, n, ao, m, cap, items, st, cl, gs, lk⟩ (boxed x w))) w.heap.size (itCells [x]) 41) := ((itm_blk x w).alloc _).alloc _
  have HP : Hid (Blk (boxed it0 (boxp ⟨kind, n, ao, m, cap, items, st, cl, gs, lk⟩ (boxed x w))) (w.heap.size + 1) (pvC ⟨kind, n, ao, m, cap, items, st, cl, gs, lk⟩) 97) := by
    have := (boxp_blk ⟨kind, n, ao, m, cap, items, st, cl, gs, lk⟩ (boxed x w)).alloc (.cells (itCells [it0]).toArray 41)
    rw [s1] at this
    exact this
  have HZ : Hid (Blk (boxed it0 (boxp ⟨kind, n, ao, m, cap, items, st, cl, gs, lk⟩ (boxed x w))) (w.heap.size + 2) (itCells [it0]) 41) := by
    have := itm_blk it0 (boxp ⟨kind, n, ao, m, cap, items, st, cl, gs, lk⟩ (boxed x w))
    rw [s2] at this
    exact this
  have H1 : Hid (Below w.heap.size w (boxed it0 (boxp ⟨kind, n, ao, m, cap, items, st, cl, gs, lk⟩ (boxed x w)))) := (((Below.refl _ _).alloc (Nat.le_refl _) _).alloc (by simp) _).alloc (by simp; omega) _
  have hand : bits .and .i64 x.m cl = ((x.m.toNat &&& cl.toNat : Nat) : Int) := bits_and (by unfold Ac.areM; simp; exact hm) (by unfold Ac.areM; simp; exact hc)
  have hle : x.m.toNat &&& cl.toNat ≤ x.m.toNat := Nat.and_le_left
  obtain ⟨av, hav⟩ : ∃ av, x.m.toNat &&& cl.toNat = av := ⟨_, rfl⟩
  have hsub : x.m - (av : Int) = Ac.less x.m cl := by unfold Ac.less; rw [hav]; have := hm.1; omega
  rw [hav] at hand hle
  have hl4 : Ac.m4 (Ac.less x.m cl) := Ac.less_m4 hm hc
  have hor : bits .or .i64 (x.m - (av : Int)) st = Ac.mark x.m cl st := by rw [hsub]; exact (bits_or hl4 hs).trans mark_both
  have hx0 := hm.1
  have hx3 := hm.2
  have hav3 : av ≤ 3 := by omega
  clear hav hsub hl4 hm hs hc s1 s2
  have hnx : x.m = x.m := rfl
  obtain ⟨mk, hmk⟩ : ∃ mk, Ac.mark x.m cl st = mk := ⟨_, rfl⟩
  have HMK : Hid (Ac.mark x.m cl st = mk) := hmk
  rw [hmk] at hor
  clear hmk hnx
  go_enter Tryz.func74, Tryz.ntmps74
  go_upto_region 1 with fail
  change Code.wp Tryz.prog _ _ _ (boxed it0 (boxp ⟨kind, n, ao, m, cap, items, st, cl, gs, lk⟩ (boxed x w)))
  generalize boxed it0 (boxp ⟨kind, n, ao, m, cap, items, st, cl, gs, lk⟩ (boxed x w)) = W at *
  have a0 : W.cell? ⟨w.heap.size, 0, none⟩ = some (.int .u8 x.c.toNat) := HX.out.cell 0
  have a1 : W.cell? ⟨w.heap.size, 1, none⟩ = some (.int .i64 x.m) := HX.out.cell 1
  have a2 : W.cell? ⟨w.heap.size, 2, none⟩ = some (.string x.l) := HX.out.cell 2
  have f1 := HX.out.frozen 1
  have f2 := HX.out.frozen 2
  have b3 : W.cell? ⟨w.heap.size + 1, 3, none⟩ = some (.int .i64 st) := HP.out.cell 3
  have b4 : W.cell? ⟨w.heap.size + 1, 4, none⟩ = some (.int .i64 cl) := HP.out.cell 4
  have b5 : W.cell? ⟨w.heap.size + 1, 5, none⟩ = some (.bool gs) := HP.out.cell 5
  have b6 : W.cell? ⟨w.heap.size + 1, 6, none⟩ = some (.string lk) := HP.out.cell 6
  have r0 : W.cell? ⟨w.heap.size + 2, 0, none⟩ = some (.int .u8 0) := HZ.out.cell 0
  have r1 : W.cell? ⟨w.heap.size + 2, 1, none⟩ = some (.int .i64 0) := HZ.out.cell 1
  have r2 : W.cell? ⟨w.heap.size + 2, 2, none⟩ = some (.string ⟨#[]⟩) := HZ.out.cell 2
  have g0 := HZ.out.frozen 0
  have g1 := HZ.out.frozen 1
  have g2 := HZ.out.frozen 2
  cases gs
  · obtain rfl : y = ⟨x.c, mk, x.l⟩ := by rw [← HY.out]; unfold Ac.change; rw [HMK.out]; rfl
    have HZ2 : Blk ((W.setCell ⟨w.heap.size, 1, none⟩ (.int .i64 (x.m - (av : Int)))).setCell ⟨w.heap.size, 1, none⟩ (.int .i64 mk)) (w.heap.size + 2) (itCells [it0]) 41 := (HZ.out.other _ _ (by simp)).other _ _ (by simp)
    have HB2 : Below w.heap.size w ((W.setCell ⟨w.heap.size, 1, none⟩ (.int .i64 (x.m - (av : Int)))).setCell ⟨w.heap.size, 1, none⟩ (.int .i64 mk)) := (H1.out.setCell (Nat.le_refl _) _).setCell (Nat.le_refl _) _
    go_wp2
    change bodyPost Tryz.prog _ _ Exit.ret _ (putI ((W.setCell ⟨w.heap.size, 1, none⟩ (.int .i64 (x.m - (av : Int)))).setCell ⟨w.heap.size, 1, none⟩ (.int .i64 mk)) (w.heap.size + 2) ⟨x.c, mk, x.l⟩)
    exact bodyPost_ret (ret_item (y := ⟨x.c, mk, x.l⟩) rfl _ rfl (putI_blk HZ2)) rfl ⟨rfl, HB2.trans ((putI_below _ _ _).mono (by omega))⟩
  · cases he : Dc.ends x
    · have hne : ((x.c.toNat : Int) != 10) = true := by have : ((x.c.toNat : Int) == 10) = false := he; simp at this ⊢; exact this
      obtain rfl : y = ⟨x.c, mk, lk⟩ := by rw [← HY.out]; unfold Ac.change; rw [he, HMK.out]; rfl
      have HZ2 : Blk (((W.setCell ⟨w.heap.size, 1, none⟩ (.int .i64 (x.m - (av : Int)))).setCell ⟨w.heap.size, 1, none⟩ (.int .i64 mk)).setCell ⟨w.heap.size, 2, none⟩ (.string lk)) (w.heap.size + 2) (itCells [it0]) 41 := ((HZ.out.other _ _ (by simp)).other _ _ (by simp)).other _ _ (by simp)
      have HB2 : Below w.heap.size w (((W.setCell ⟨w.heap.size, 1, none⟩ (.int .i64 (x.m - (av : Int)))).setCell ⟨w.heap.size, 1, none⟩ (.int .i64 mk)).setCell ⟨w.heap.size, 2, none⟩ (.string lk)) := ((H1.out.setCell (Nat.le_refl _) _).setCell (Nat.le_refl _) _).setCell (Nat.le_refl _) _
      go_wp2
      change bodyPost Tryz.prog _ _ Exit.ret _ (putI (((W.setCell ⟨w.heap.size, 1, none⟩ (.int .i64 (x.m - (av : Int)))).setCell ⟨w.heap.size, 1, none⟩ (.int .i64 mk)).setCell ⟨w.heap.size, 2, none⟩ (.string lk)) (w.heap.size + 2) ⟨x.c, mk, lk⟩)
      exact bodyPost_ret (ret_item (y := ⟨x.c, mk, lk⟩) rfl _ rfl (putI_blk HZ2)) rfl ⟨rfl, HB2.trans ((putI_below _ _ _).mono (by omega))⟩
    · have hne : ((x.c.toNat : Int) != 10) = false := by have : ((x.c.toNat : Int) == 10) = true := he; simp at this ⊢; exact this
      obtain rfl : y = ⟨x.c, mk, x.l⟩ := by rw [← HY.out]; unfold Ac.change; rw [he, HMK.out]; rfl
      have HZ2 : Blk ((W.setCell ⟨w.heap.size, 1, none⟩ (.int .i64 (x.m - (av : Int)))).setCell ⟨w.heap.size, 1, none⟩ (.int .i64 mk)) (w.heap.size + 2) (itCells [it0]) 41 := (HZ.out.other _ _ (by simp)).other _ _ (by simp)
      have HB2 : Below w.heap.size w ((W.setCell ⟨w.heap.size, 1, none⟩ (.int .i64 (x.m - (av : Int)))).setCell ⟨w.heap.size, 1, none⟩ (.int .i64 mk)) := (H1.out.setCell (Nat.le_refl _) _).setCell (Nat.le_refl _) _
      go_wp2
      change bodyPost Tryz.prog _ _ Exit.ret _ (putI ((W.setCell ⟨w.heap.size, 1, none⟩ (.int .i64 (x.m - (av : Int)))).setCell ⟨w.heap.size, 1, none⟩ (.int .i64 mk)) (w.heap.size + 2) ⟨x.c, mk, x.l⟩)
      exact bodyPost_ret (ret_item (y := ⟨x.c, mk, x.l⟩) rfl _ rfl (putI_blk HZ2)) rfl ⟨rfl, HB2.trans ((putI_below _ _ _).mono (by omega))⟩
end Go.Proofs.YtaigleblmbblcaaGreatDoor

/-
  Acts in memory, read; what the reference makes of a document, act by act.
-/
namespace Go.Proofs.YtaigleblmbblcaaGreatDoor
open Go.RowKit

structure Elev (w : World) (b off : Nat) (a : AV) : Prop where
  c0 : w.cell? ⟨b, off, none⟩ = some (.int .i64 a.kind)
  c1 : w.cell? ⟨b, off + 1, none⟩ = some (.int .u8 a.x.c.toNat)
  c2 : w.cell? ⟨b, off + 2, none⟩ = some (.int .i64 a.x.m)
  c3 : w.cell? ⟨b, off + 3, none⟩ = some (.string a.x.l)
  c4 : w.cell? ⟨b, off + 4, none⟩ = some (.int .i64 a.p.kind)
  c5 : w.cell? ⟨b, off + 5, none⟩ = some (.int .i64 a.p.n)
  c6 : w.cell? ⟨b, off + 6, none⟩ = some (.slice a.p.ao a.p.m a.p.cap)
  c7 : w.cell? ⟨b, off + 7, none⟩ = some (.int .i64 a.p.set)
  c8 : w.cell? ⟨b, off + 8, none⟩ = some (.int .i64 a.p.clr)
  c9 : w.cell? ⟨b, off + 9, none⟩ = some (.bool a.p.goes)
  c10 : w.cell? ⟨b, off + 10, none⟩ = some (.string a.p.link)
theorem Elev.below {w w' : World} {b off : Nat} {a : AV} (h : Elev w b off a) (hb : Below w.heap.size w w') : Elev w' b off a :=
  ⟨cell_below h.c0 hb, cell_below h.c1 hb, cell_below h.c2 hb, cell_below h.c3 hb, cell_below h.c4 hb, cell_below h.c5 hb, cell_below h.c6 hb, cell_below h.c7 hb, cell_below h.c8 hb, cell_below h.c9 hb, cell_below h.c10 hb⟩
theorem Elev.same {w w' : World} {b off : Nat} {a : AV} (h : Elev w b off a) (e : w'.heap[b]? = w.heap[b]?) : Elev w' b off a :=
  ⟨(World.cell?_of_block (w := w) e).trans h.c0, (World.cell?_of_block (w := w) e).trans h.c1, (World.cell?_of_block (w := w) e).trans h.c2, (World.cell?_of_block (w := w) e).trans h.c3, (World.cell?_of_block (w := w) e).trans h.c4, (World.cell?_of_block (w := w) e).trans h.c5, (World.cell?_of_block (w := w) e).trans h.c6, (World.cell?_of_block (w := w) e).trans h.c7, (World.cell?_of_block (w := w) e).trans h.c8, (World.cell?_of_block (w := w) e).trans h.c9, (World.cell?_of_block (w := w) e).trans h.c10⟩
theorem avCells_at : ∀ (l : List AV) (i : Nat) (h : i < l.length) (j : Nat), j < 11 → (avCells l)[i * 11 + j]? = (avC l[i])[j]?
  | [], _, h, _, _ => by simp at h
  | a :: l, 0, _, j, hj => by
    show (avC a ++ avCells l)[0 * 11 + j]? = _
    rw [Nat.zero_mul, Nat.zero_add, List.getElem?_append_left (by show j < 11; exact hj)]
    rfl
  | a :: l, i + 1, h, j, hj => by
    have := avCells_at l i (by simpa using h) j hj
    show (avC a ++ avCells l)[(i + 1) * 11 + j]? = _
    rw [List.getElem?_append_right (by show 11 ≤ _; omega), show (i + 1) * 11 + j - (avC a).length = i * 11 + j by show _ - 11 = _; omega, this]
    rfl
theorem own_elev {w : World} {B g cap n : Nat} {l : List AV} (h : w.ownsRow B 104 11 (.slice (some ⟨g, 0, none⟩) n cap) n (avCells l)) (hn : l.length = n) (i : Nat) (hi : i < l.length) : Elev w g (i * 11) l[i] := by
  have hc : ∀ j, j < 11 → w.cell? ⟨g, i * 11 + j, none⟩ = (avC l[i])[j]? := fun j hj => (h.cellAt (i * 11 + j) (by omega)).trans (avCells_at l i hi j hj)
  exact ⟨hc 0 (by decide), hc 1 (by decide), hc 2 (by decide), hc 3 (by decide), hc 4 (by decide), hc 5 (by decide), hc 6 (by decide), hc 7 (by decide), hc 8 (by decide), hc 9 (by decide), hc 10 (by decide)⟩
def boxa (a : AV) (w : World) : World := w.alloc (.cells #[.int .i64 a.kind, .int .u8 a.x.c.toNat, .int .i64 a.x.m, .string a.x.l, .int .i64 a.p.kind, .int .i64 a.p.n, .slice a.p.ao a.p.m a.p.cap, .int .i64 a.p.set, .int .i64 a.p.clr, .bool a.p.goes, .string a.p.link] 104)
theorem boxa_below (a : AV) (w : World) : Below w.heap.size w (boxa a w) := (Below.refl _ _).alloc (Nat.le_refl _) _
theorem boxa_size (a : AV) (w : World) : (boxa a w).heap.size = w.heap.size + 1 := World.size_alloc ..
theorem boxa_blk (a : AV) (w : World) : Blk (boxa a w) w.heap.size (avC a) 104 := Blk.new w _ _
theorem boxa_at (a : AV) (w : World) : Elev (boxa a w) w.heap.size 0 a := by
  have h := boxa_blk a w
  exact ⟨h.cell 0, h.cell 1, h.cell 2, h.cell 3, h.cell 4, h.cell 5, h.cell 6, h.cell 7, h.cell 8, h.cell 9, h.cell 10⟩
namespace Ac
def amk (d : List It) (s : List It × Nat) (a : AV) : List It × Nat := if a.kind = 2 then (s.1 ++ [a.x], s.2) else if a.kind = 1 then (s.1 ++ [change (d[s.2]?.getD it0) (chOf a.p.pt)], s.2 + 1) else (s.1, s.2 + 1)
def cN (l : List AV) : Nat := (l.map fun a => if a.kind = 2 then 0 else 1).sum
def cL (l : List AV) : Nat := (l.map fun a => if a.kind = 2 then 1 else if a.kind = 1 then 1 else 0).sum
theorem cN_app (l l' : List AV) : cN (l ++ l') = cN l + cN l' := by simp [cN]
theorem cL_app (l l' : List AV) : cL (l ++ l') = cL l + cL l' := by simp [cL]
theorem amk_two (d : List It) : ∀ (l : List AV) (s : List It × Nat), (l.foldl (amk d) s).2 = s.2 + cN l ∧ (l.foldl (amk d) s).1.length = s.1.length + cL l
  | [], s => by simp [cN, cL]
  | a :: l, s => by
    have ih := amk_two d l (amk d s a)
    rw [List.foldl_cons, ih.1, ih.2]
    unfold amk cN cL
    by_cases h2 : a.kind = 2
    · simp [h2]; omega
    · by_cases h1 : a.kind = 1
      · simp [h1]; omega
      · simp [h2, h1]; omega
theorem amk_puts (d : List It) : ∀ (xs : List It) (s : List It × Nat), (xs.map putA).foldl (amk d) s = (s.1 ++ xs, s.2)
  | [], s => by simp
  | x :: xs, s => by
    rw [List.map_cons, List.foldl_cons, amk_puts d xs]
    show ((s.1 ++ [x]) ++ xs, s.2) = _
    simp
theorem amk_keeps (d : List It) (x : It) (p : PV) : ∀ (k : Nat) (s : List It × Nat), s.2 + k ≤ d.length → (List.replicate k (⟨1, x, p⟩ : AV)).foldl (amk d) s = (s.1 ++ ((d.drop s.2).take k).map (fun y => change y (chOf p.pt)), s.2 + k)
  | 0, s, _ => by simp
  | k + 1, s, h => by
    have hl : s.2 < d.length := by omega
    rw [List.replicate_succ, List.foldl_cons]
    have e : amk d s ⟨1, x, p⟩ = (s.1 ++ [change d[s.2] (chOf p.pt)], s.2 + 1) := by
      unfold amk
      rw [if_neg (show ¬ (1 : Int) = 2 by decide), if_pos rfl, List.getElem?_eq_getElem hl]
      rfl
    rw [e, amk_keeps d x p k _ (by simp only; omega), List.drop_eq_getElem_cons hl, List.take_succ_cons, List.map_cons]
    simp only [List.append_assoc, List.cons_append, List.nil_append]
    congr 1
    omega
theorem amk_cuts (d : List It) (x : It) (p : PV) : ∀ (k : Nat) (s : List It × Nat), (List.replicate k (⟨3, x, p⟩ : AV)).foldl (amk d) s = (s.1, s.2 + k)
  | 0, s => rfl
  | k + 1, s => by
    rw [List.replicate_succ, List.foldl_cons, amk_cuts d x p k]
    show (s.1, s.2 + 1 + k) = _
    congr 1
    omega
theorem amk_part (d : List It) {v : PV} (h : err1 v.pt = 0) (s : List It × Nat) (hn : s.2 + nd1 v.pt ≤ d.length) : (actV v).foldl (amk d) s = mkS d s v.pt := by
  have hb := err1_n h
  unfold actV mkS
  unfold nd1 at hn
  rcases kind_of h with k | k | k
  · have k' : v.kind = 1 := k
    rw [if_neg (show ¬ v.kind = 2 by omega), if_pos k, k']
    rw [if_neg (show ¬ v.pt.kind = 2 by omega)] at hn
    exact amk_keeps d _ _ _ s hn
  · have k' : v.kind = 2 := k
    rw [if_pos k', if_neg (show ¬ v.pt.kind = 1 by omega), if_pos k]
    exact amk_puts d _ s
  · have k' : v.kind = 3 := k
    rw [if_neg (show ¬ v.kind = 2 by omega), if_neg (show ¬ v.pt.kind = 1 by omega), if_neg (show ¬ v.pt.kind = 2 by omega), k']
    exact amk_cuts d _ _ _ s
theorem amk_acts (d : List It) : ∀ (vs : List PV) (s : List It × Nat), (∀ v ∈ vs, err1 v.pt = 0) → s.2 + nd (vs.map PV.pt) ≤ d.length → (actsV vs).foldl (amk d) s = (vs.map PV.pt).foldl (mkS d) s
  | [], s, _, _ => rfl
  | v :: vs, s, h, hn => by
    rw [List.map_cons, nd_cons] at hn
    have e : actsV (v :: vs) = actV v ++ actsV vs := rfl
    rw [e, List.foldl_append, amk_part d (h v (List.mem_cons_self ..)) s (by omega), List.map_cons, List.foldl_cons]
    exact amk_acts d vs _ (fun u hu => h u (List.mem_cons_of_mem _ hu)) (by rw [mkS_two]; omega)
theorem amk_step (d : List It) (l : List AV) (k : Nat) (h : k < l.length) : (l.take (k + 1)).foldl (amk d) ([], 0) = amk d ((l.take k).foldl (amk d) ([], 0)) l[k] := by
  rw [List.take_succ_eq_append_getElem h, List.foldl_append]
  rfl
theorem cN_take (l : List AV) (k : Nat) : cN (l.take k) ≤ cN l ∧ cL (l.take k) ≤ cL l := by
  have h1 : cN l = cN (l.take k) + cN (l.drop k) := by rw [← cN_app, List.take_append_drop]
  have h2 : cL l = cL (l.take k) + cL (l.drop k) := by rw [← cL_app, List.take_append_drop]
  exact ⟨by omega, by omega⟩
def OkV (a : AV) : Prop := (a.kind = 2 ∧ a.x.l.size ≤ 9223372036854775807) ∨ (a.kind = 1 ∧ m4 a.p.set ∧ m4 a.p.clr ∧ a.p.link.size ≤ 9223372036854775807) ∨ a.kind = 3
theorem okV_acts {w : World} {vs : List PV} (h : ∀ v ∈ vs, err1 v.pt = 0) (hp : ∀ v ∈ vs, Pvt w v) : ∀ a ∈ actsV vs, OkV a := by
  intro a ha
  obtain ⟨v, hv, ha⟩ := List.mem_flatMap.1 ha
  have he := h v hv
  unfold actV at ha
  rcases kind_of he with k | k | k
  · have k' : v.kind = 1 := k
    rw [if_neg (show ¬ v.kind = 2 by omega)] at ha
    rw [(List.mem_replicate.1 ha).2]
    have := keep_m4 he k
    exact .inr (.inl ⟨k', this.1, this.2.1, (hp v hv).fit⟩)
  · have k' : v.kind = 2 := k
    rw [if_pos k'] at ha
    obtain ⟨x, hx, rfl⟩ := List.mem_map.1 ha
    exact .inl ⟨rfl, (hp v hv).doc.fit x hx⟩
  · have k' : v.kind = 3 := k
    rw [if_neg (show ¬ v.kind = 2 by omega)] at ha
    rw [(List.mem_replicate.1 ha).2]
    exact .inr (.inr k')
end Ac
end Go.Proofs.YtaigleblmbblcaaGreatDoor

/-
  The reference's Applied, of whatever document and operation.
-/
namespace Go.Proofs.YtaigleblmbblcaaGreatDoor
open Go.RowKit

set_option maxRecDepth 100000 in
set_option maxHeartbeats 3200000 in
theorem appliedR_bad (ao ao' : Option Addr) (n cap n' cap' : Nat) (l : List It) (vs : List PV) (w : World) (hD : Doc w ao n cap l) (hO : Ops w ao' n' cap' vs) (hE : ¬ Ac.fitE l (vs.map PV.pt) = 0) :
    Calls Tryz.prog 40 #[.slice ao n cap, .slice ao' n' cap'] w fun e w' => e = .returned (.tuple #[.slice none 0 0, .int .i64 (Ac.fitE l (vs.map PV.pt))]) ∧ Below w.heap.size w w' := by
  have CD : Hid (Calls Tryz.prog 16 #[.slice ao n cap] w fun e w' => e = .returned (.int .i64 (Dc.check l)) ∧ Below w.heap.size w w') := CheckDoc_any ao n cap l w hD
  have CC : Hid (∀ w', Below w.heap.size w w' → Calls Tryz.prog 62 #[.slice ao' n' cap'] w' fun e w'' => e = .returned (.int .i64 (Ac.chk (vs.map PV.pt))) ∧ Below w'.heap.size w' w'') := fun w' hw => CheckOp_any ao' n' cap' vs w' (hO.below hw)
  have CL : Hid (∀ w', Below w.heap.size w w' → Calls Tryz.prog 72 #[.slice ao' n' cap'] w' fun e w'' => e = .returned (.tuple #[.int .i64 (Ac.lf (vs.map PV.pt)), .int .i64 (Ac.lt (vs.map PV.pt))]) ∧ Below w'.heap.size w' w'') := fun w' hw => LongOf_any ao' n' cap' vs w' (hO.below hw)
  obtain ⟨r, hr⟩ : ∃ r, Ac.fitE l (vs.map PV.pt) = r := ⟨_, rfl⟩
  rw [hr] at hE ⊢
  unfold Ac.fitE at hr
  rw [hD.len] at hr
  clear hD hO
  generalize Dc.check l = c1 at *
  generalize Ac.chk (vs.map PV.pt) = c2 at *
  generalize Ac.lf (vs.map PV.pt) = f at *
  generalize Ac.lt (vs.map PV.pt) = t at *
  have HR : Hid ((if c1 = 0 then (if c2 = 0 then (if f = (n : Int) then (if 80 < t then 2 else 0) else 6) else c2) else c1) = r) := hr
  clear hr
  by_cases h1 : c1 = 0
  · by_cases h2 : c2 = 0
    · subst h1 h2
      by_cases h3 : f = (n : Int)
      · by_cases h4 : 80 < t
        · obtain rfl : r = 2 := by rw [← HR.out, if_pos rfl, if_pos rfl, if_pos h3, if_pos h4]
          subst h3
          clear HR hE
          go_enter Tryz.func40, Tryz.ntmps40
          go_wp2_with fail
          refine CD.out.mono ?_
          rintro e w1 ⟨rfl, hb⟩
          have H1 : Hid (Below w.heap.size w w1) := hb
          clear hb
          go_wp2_with fail
          refine (CC.out _ H1.out).mono ?_
          rintro e w2 ⟨rfl, hb⟩
          have H2 : Hid (Below w.heap.size w w2) := H1.out.trans (hb.mono H1.out.size)
          clear hb
          go_wp2_with fail
          refine (CL.out _ H2.out).mono ?_
          rintro e w3 ⟨rfl, hb⟩
          have H3 : Hid (Below w.heap.size w w3) := H2.out.trans (hb.mono H2.out.size)
          clear hb
          go_wp2
          go_ret2
          exact ⟨rfl, H3.out⟩
        · exact absurd (by rw [← HR.out, if_pos rfl, if_pos rfl, if_pos h3, if_neg h4]) hE
      · obtain rfl : r = 6 := by rw [← HR.out, if_pos rfl, if_pos rfl, if_neg h3]
        have h3' : (f != (n : Int)) = true := by simp [h3]
        clear HR hE
        go_enter Tryz.func40, Tryz.ntmps40
        go_wp2_with fail
        refine CD.out.mono ?_
        rintro e w1 ⟨rfl, hb⟩
        have H1 : Hid (Below w.heap.size w w1) := hb
        clear hb
        go_wp2_with fail
        refine (CC.out _ H1.out).mono ?_
        rintro e w2 ⟨rfl, hb⟩
        have H2 : Hid (Below w.heap.size w w2) := H1.out.trans (hb.mono H1.out.size)
        clear hb
        go_wp2_with fail
        refine (CL.out _ H2.out).mono ?_
        rintro e w3 ⟨rfl, hb⟩
        have H3 : Hid (Below w.heap.size w w3) := H2.out.trans (hb.mono H2.out.size)
        clear hb
        go_wp2
        go_ret2
        exact ⟨rfl, H3.out⟩
    · obtain rfl : r = c2 := by rw [← HR.out, if_pos h1, if_neg h2]
      subst h1
      have h2' : (r != 0) = true := by simp [h2]
      clear HR
      go_enter Tryz.func40, Tryz.ntmps40
      go_wp2_with fail
      refine CD.out.mono ?_
      rintro e w1 ⟨rfl, hb⟩
      have H1 : Hid (Below w.heap.size w w1) := hb
      clear hb
      go_wp2_with fail
      refine (CC.out _ H1.out).mono ?_
      rintro e w2 ⟨rfl, hb⟩
      have H2 : Hid (Below w.heap.size w w2) := H1.out.trans (hb.mono H1.out.size)
      clear hb
      go_wp2
      go_ret2
      exact ⟨rfl, H2.out⟩
  · obtain rfl : r = c1 := by rw [← HR.out, if_neg h1]
    have h1' : (r != 0) = true := by simp [h1]
    clear HR
    go_enter Tryz.func40, Tryz.ntmps40
    go_wp2_with fail
    refine CD.out.mono ?_
    rintro e w1 ⟨rfl, hb⟩
    have H1 : Hid (Below w.heap.size w w1) := hb
    clear hb
    go_wp2
    go_ret2
    exact ⟨rfl, H1.out⟩

theorem al_blw (w : World) (o : Obj) : Below w.heap.size w (w.alloc o) := (Below.refl _ _).alloc (Nat.le_refl _) _
structure AplI (w3 : World) (ov : Value) (s : List It × Nat) (wr : World) : Prop where
  own : wr.ownsRow w3.heap.size 41 3 ov s.1.length (itCells s.1)
  blw : Below w3.heap.size w3 wr
  fit : Fit s.1
theorem AplI.push {w3 wr wa w8 : World} {ov : Value} {s s' : List It × Nat} {ov' : Value} (h : AplI w3 ov s wr) (hal : Below wr.heap.size wr wa) (hown : w8.ownsRow w3.heap.size 41 3 ov' s'.1.length (itCells s'.1)) (hg : wa.grownBy w8 ov.ownBlock) (hf : Fit s'.1) : AplI w3 ov' s' w8 := by
  refine ⟨hown, (h.blw.trans (hal.mono h.blw.size)).trans ⟨hg.os, hg.tape, hg.output, hg.size, fun k hk => hg.block k (by have := h.blw.size; have := hal.size; omega) (fun e => ?_)⟩, hf⟩
  have := ownBlk_ge h.own k e.symm
  omega

set_option maxRecDepth 100000 in
set_option maxHeartbeats 12800000 in
theorem appliedR_ok (ao ao' : Option Addr) (n cap n' cap' : Nat) (l : List It) (vs : List PV) (w : World) (hD : Doc w ao n cap l) (hO : Ops w ao' n' cap' vs) (hE : Ac.fitE l (vs.map PV.pt) = 0) :
    Calls Tryz.prog 40 #[.slice ao n cap, .slice ao' n' cap'] w fun e w' => (∃ a c, e = .returned (.tuple #[.slice a (Ac.mk l (vs.map PV.pt)).1.length c, .int .i64 0]) ∧ Doc w' a (Ac.mk l (vs.map PV.pt)).1.length c (Ac.mk l (vs.map PV.pt)).1) ∧ Below w.heap.size w w' := by
  have CD : Hid (Calls Tryz.prog 16 #[.slice ao n cap] w fun e w' => e = .returned (.int .i64 (Dc.check l)) ∧ Below w.heap.size w w') := CheckDoc_any ao n cap l w hD
  have CC : Hid (∀ w', Below w.heap.size w w' → Calls Tryz.prog 62 #[.slice ao' n' cap'] w' fun e w'' => e = .returned (.int .i64 (Ac.chk (vs.map PV.pt))) ∧ Below w'.heap.size w' w'') := fun w' hw => CheckOp_any ao' n' cap' vs w' (hO.below hw)
  have CL : Hid (∀ w', Below w.heap.size w w' → Calls Tryz.prog 72 #[.slice ao' n' cap'] w' fun e w'' => e = .returned (.tuple #[.int .i64 (Ac.lf (vs.map PV.pt)), .int .i64 (Ac.lt (vs.map PV.pt))]) ∧ Below w'.heap.size w' w'') := fun w' hw => LongOf_any ao' n' cap' vs w' (hO.below hw)
  obtain ⟨hck, hri, hnd, hlv⟩ := Ac.fit_0 hE
  obtain ⟨i0, hi, hz0, hz1, hz2⟩ := info_parts Tryz.infI
  have hlf := hri.lf
  have hlt := hri.lt
  have hok : ∀ v ∈ vs, Ac.err1 v.pt = 0 := fun v hv => hri.ok _ (List.mem_map.2 ⟨v, hv, rfl⟩)
  rw [hck] at CD
  rw [Ac.chk_right.2 hri] at CC
  rw [hlf, hlt, hnd, hD.len] at CL
  have hn80 := (Ac.check_0 hck).1
  rw [hD.len] at hn80
  have hpos : n ≠ 0 := by
    obtain ⟨_, _, l', x, e, _⟩ := Ac.check_0 hck
    have := hD.len
    rw [e] at this
    simp at this
    omega
  obtain ⟨b, off, rfl, hA⟩ := hD.lies hpos
  have CA : Hid (∀ w', Below w.heap.size w w' → Calls Tryz.prog 73 #[.slice ao' n' cap'] w' fun e w'' => (∃ lv, e = .returned lv ∧ w''.ownsRow w'.heap.size 104 11 lv (actsV vs).length (avCells (actsV vs))) ∧ Below w'.heap.size w' w'') := fun w' hw => acts_any ao' n' cap' vs w' (hO.below hw) hok (by have := hri.few; rw [List.length_map, hO.len] at this; exact this)
  have HMK : Hid ((actsV vs).foldl (Ac.amk l) ([], 0) = Ac.mk l (vs.map PV.pt)) := Ac.amk_acts l vs ([], 0) hok (by simp; omega)
  have hc := Ac.amk_two l (actsV vs) ([], 0)
  rw [HMK.out] at hc
  have hm2 := Ac.mk_two l (vs.map PV.pt) ([], 0)
  have hm1 := Ac.mk_len l (vs.map PV.pt) ([], 0) (by simp; omega)
  have hcN : Ac.cN (actsV vs) = n := by
    have h1 : (Ac.mk l (vs.map PV.pt)).2 = 0 + Ac.nd (vs.map PV.pt) := hm2
    have h2 := hc.1
    simp only at h2
    have := hD.len
    omega
  have hcL : Ac.cL (actsV vs) ≤ 80 := by
    have h1 : (Ac.mk l (vs.map PV.pt)).1.length = 0 + Ac.lv (vs.map PV.pt) := hm1
    have h2 := hc.2
    simp only [List.length_nil] at h2
    omega
  have HOKV : Hid (∀ a ∈ actsV vs, Ac.OkV a) := Ac.okV_acts hok hO.pts
  have hLL : (actsV vs).length ≤ 3200 := by
    have h1 := actsV_len hok
    have h2 := hri.few
    rw [List.length_map] at h2
    omega
  have HA : Hid (∀ w', Below w.heap.size w w' → At w' b off l) := fun w' hw => hA.below hw
  have HLL : Hid (l.length = n) := hD.len
  have HM4 : Hid (Ac.M4 l) := Ac.check_m4 hck
  have HFT : Hid (Fit l) := hD.fit
  have hcap := hD.room
  have hbig := hD.big
  have hlv2 : ¬ (80 : Int) < (Ac.lv (vs.map PV.pt) : Int) := by omega
  generalize Ac.lv (vs.map PV.pt) = lvv at *
  generalize actsV vs = L at *
  obtain ⟨R, hR⟩ : ∃ R, (Ac.mk l (vs.map PV.pt)).1 = R := ⟨_, rfl⟩
  have HR : Hid ((L.foldl (Ac.amk l) ([], 0)).1 = R) := by show _ = _; rw [HMK.out]; exact hR
  rw [hR]
  have HCN : Hid (∀ k (hk : k < L.length), (L.take k).foldl (Ac.amk l) ([], 0) = (L.take k).foldl (Ac.amk l) ([], 0) ∧ (¬ L[k].kind = 2 → ((L.take k).foldl (Ac.amk l) ([], 0)).2 < n) ∧ ((L.take (k + 1)).foldl (Ac.amk l) ([], 0)).1.length ≤ 80 ∧ ((L.take k).foldl (Ac.amk l) ([], 0)).2 ≤ n ∧ ((L.take k).foldl (Ac.amk l) ([], 0)).1.length ≤ 80) := fun k hk => by
    have h1 := Ac.amk_two l (L.take k) ([], 0)
    have h2 := Ac.amk_two l (L.take (k + 1)) ([], 0)
    have h3 := Ac.cN_take L k
    have h4 := Ac.cN_take L (k + 1)
    refine ⟨rfl, fun hk2 => ?_, ?_, ?_, ?_⟩
    · have h5 : Ac.cN (L.take (k + 1)) = Ac.cN (L.take k) + 1 := by
        rw [List.take_succ_eq_append_getElem hk, Ac.cN_app]
        simp [Ac.cN, hk2]
      rw [h1.1]
      simp only
      omega
    · rw [h2.2]
      simp only [List.length_nil]
      omega
    · rw [h1.1]
      simp only
      omega
    · rw [h1.2]
      simp only [List.length_nil]
      omega
  clear hD hO hE hck hri hnd hlv hlf hlt hok hA HMK hc hm2 hm1 hcN hcL hR hpos
  obtain ⟨LL, hLe⟩ : ∃ LL, L.length = LL := ⟨_, rfl⟩
  have HLE : Hid (L.length = LL) := hLe
  rw [hLe] at hLL CA
  clear hLe
  go_enter Tryz.func40, Tryz.ntmps40
  go_wp2_with fail
  refine CD.out.mono ?_
  rintro e w1 ⟨rfl, hb⟩
  have H1 : Hid (Below w.heap.size w w1) := hb
  clear hb
  go_wp2_with fail
  refine (CC.out _ H1.out).mono ?_
  rintro e w2 ⟨rfl, hb⟩
  have H2 : Hid (Below w.heap.size w w2) := H1.out.trans (hb.mono H1.out.size)
  clear hb
  go_wp2_with fail
  refine (CL.out _ H2.out).mono ?_
  rintro e w3 ⟨rfl, hb⟩
  have H3 : Hid (Below w.heap.size w w3) := H2.out.trans (hb.mono H2.out.size)
  clear hb
  go_wp2_with fail
  refine (CA.out _ H3.out).mono ?_
  rintro e w4 ⟨⟨lv, rfl, ho⟩, hb⟩
  have H4 : Hid (Below w.heap.size w w4) := H3.out.trans (hb.mono H3.out.size)
  obtain ⟨la, lc, rfl, hrow⟩ := own_row ho
  have hlr := hrow.room
  have hlb := hrow.big
  have HLO : Hid (w4.ownsRow w3.heap.size 104 11 (.slice la LL lc) LL (avCells L)) := ho
  clear hb ho hrow CD CC CL CA
  go_wp2
  go_loopw [10, 11, 38] (fun ov kv i wr => ∃ j : Nat, j ≤ LL ∧ i = .int .i64 j ∧ kv = .int .i64 ((L.take j).foldl (Ac.amk l) ([], 0)).2 ∧ AplI w4 ov ((L.take j).foldl (Ac.amk l) ([], 0)) wr) (fun _ _ i _ => LL - (intOf i).toNat)
  case atStart => exact ⟨0, Nat.zero_le _, rfl, rfl, World.ownsRow_nil _ _ _ _, Below.refl _ _, fun x hx => absurd hx (by simp)⟩
  case round =>
    obtain ⟨j, hj, rfl, rfl, hI⟩ := hrel
    have HI : Hid (AplI w4 u10 ((L.take j).foldl (Ac.amk l) ([], 0)) wr) := hI
    clear hI
    by_cases hjl : j < LL
    · have hjL : j < L.length := by rw [HLE.out]; exact hjl
      obtain ⟨lg, lc2, hla, -, -⟩ := HLO.out.form (by omega)
      simp only [Value.slice.injEq, true_and] at hla
      obtain ⟨rfl, -⟩ := hla
      have HMS : Hid ((L.take (j + 1)).foldl (Ac.amk l) ([], 0) = Ac.amk l ((L.take j).foldl (Ac.amk l) ([], 0)) L[j]) := Ac.amk_step l L j hjL
      obtain ⟨-, hB1, hB2, hB3, hB4⟩ := HCN.out j hjL
      rw [HMS.out] at hB2
      have hokv := HOKV.out L[j] (List.getElem_mem hjL)
      obtain ⟨c0, c1, c2, c3, c4, c5, c6, c7, c8, c9, c10⟩ := (own_elev HLO.out HLE.out j hjL).below HI.out.blw
      generalize (L.take j).foldl (Ac.amk l) ([], 0) = s at *
      generalize L[j] = a at *
      clear hjL
      obtain ⟨made, at0⟩ := s
      simp only at hB1 hB3 hB4
      obtain ⟨ml, hml⟩ : ∃ ml, made.length = ml := ⟨_, rfl⟩
      have HML : Hid (made.length = ml) := hml
      rw [hml] at hB4
      have HS5 : Hid (Elev (boxa a wr) wr.heap.size 0 a) := boxa_at a wr
      have hw5 : Below wr.heap.size wr (boxa a wr) := boxa_below a wr
      have HO5 : Hid ((boxa a wr).ownsRow w4.heap.size 41 3 u10 ml (itCells made)) := by have := own_under HI.out.own hw5; rw [hml] at this; exact this
      have hsz4 : w4.heap.size ≤ wr.heap.size := HI.out.blw.size
      have hsz5 : w4.heap.size ≤ (boxa a wr).heap.size := Nat.le_trans hsz4 hw5.size
      have HNB : Hid (some wr.heap.size ≠ u10.ownBlock) := fun e => by have := (HI.out.own.lt _ e.symm).2; omega
      have HB5 : Hid (Below w.heap.size w (boxa a wr)) := H4.out.trans ((HI.out.blw.trans (hw5.mono hsz4)).mono H4.out.size)
      have HW5 : Hid (Below wr.heap.size wr (boxa a wr)) := hw5
      clear hml hw5
      rcases hokv with ⟨hk, hfx⟩ | ⟨hk, hs4, hc4, hfl⟩ | hk
      · obtain ⟨kind, x, p⟩ := a
        simp only at hk hfx
        subst hk
        have hms : Ac.amk l (made, at0) ⟨2, x, p⟩ = (made ++ [x], at0) := rfl
        rw [hms] at HMS hB2
        have HFN : Hid (Fit (made ++ [x])) := fit_app HI.out.fit (fun z hz => by rw [List.mem_singleton.1 hz]; exact hfx)
        have HMQ : Hid ((made ++ [x]).length = ml + 1) := by show _ = _; rw [List.length_append, HML.out]; rfl
        clear hms hB1 hB2 hfx
        go_upto_region 17 with fail
        change Code.wp Tryz.prog _ _ _ (boxa ⟨2, x, p⟩ wr)
        generalize boxa ⟨2, x, p⟩ wr = W5 at *
        clear c0 c1 c2 c3 c4 c5 c6 c7 c8 c9 c10
        obtain ⟨d0, d1, d2, d3, d4, d5, d6, d7, d8, d9, d10⟩ := HS5.out
        simp only [Nat.zero_add] at d0 d1 d2 d3 d4 d5 d6 d7 d8 d9 d10
        go_wp2_with (at_builtin; refine wpList_append_lies _ rfl (.tmp 46) (.tmp 49) 23 rfl w4.heap.size 41 i0 (.agg #[.int .u8 0, .int .i64 0, .string ⟨#[]⟩]) 3 32 Tryz.underlying23 hi hz0 hz1 hz2 rfl (by decide) u10 ml (itCells made) rfl (HO5.out.alloc _) ⟨W5.heap.size, 0, none⟩ 1 1 (itCells [x]) rfl rfl (World.news_of_block (cs := (itCells [x]).toArray) (heap_alloc_new W5 _)) (itCells_one _) (by decide) (by unfold maxLen; omega) (by omega) (Nat.le_trans hsz5 (al_blw W5 _).size) _ rfl ?c7)
        case c7 =>
          intro g2 cap2 w8 hown hgrow hat hlt
          have HFIN : Hid (AplI w4 (.slice (some ⟨g2, 0, none⟩) (ml + 1) cap2) (made ++ [x], at0) w8) := HI.out.push (HW5.out.trans ((al_blw W5 _).mono HW5.out.size)) (by rw [itCells_app, HMQ.out]; exact hown) hgrow HFN.out
          clear hown hgrow hat hlt
          go_wp2
          go_roundw
          case rel => exact ⟨j + 1, by omega, by go_num, by rw [HMS.out], by rw [HMS.out]; exact HFIN.out⟩
          case measure => simp [intOf]; omega
      · obtain ⟨kind, x, p⟩ := a
        simp only at hk hs4 hc4 hfl
        subst hk
        have hat : at0 < n := hB1 (show ¬ (1 : Int) = 2 by decide)
        have hatl : at0 < l.length := by rw [HLL.out]; exact hat
        obtain ⟨x0, hx0⟩ : ∃ x0, l[at0] = x0 := ⟨_, rfl⟩
        obtain ⟨y, hy⟩ : ∃ y, Ac.change x0 (Ac.chOf p.pt) = y := ⟨_, rfl⟩
        have hms : Ac.amk l (made, at0) ⟨1, x, p⟩ = (made ++ [y], at0 + 1) := by
          show (made ++ [Ac.change (l[at0]?.getD it0) (Ac.chOf p.pt)], at0 + 1) = _
          rw [List.getElem?_eq_getElem hatl, hx0]
          show (made ++ [Ac.change x0 (Ac.chOf p.pt)], at0 + 1) = _
          rw [hy]
        rw [hms] at HMS hB2
        have hx4 : Ac.m4 x0.m := by rw [← hx0]; exact HM4.out _ (List.getElem_mem hatl)
        have hfy : Fit [y] := by
          have h1 : Fit [x0] := fun z hz => by rw [List.mem_singleton.1 hz, ← hx0]; exact HFT.out _ (List.getElem_mem hatl)
          have h2 := fit_change h1 (Ac.chOf p.pt) hfl
          simp only [List.map_cons, List.map_nil, hy] at h2
          exact h2
        have HFN : Hid (Fit (made ++ [y])) := fit_app HI.out.fit hfy
        have HMQ : Hid ((made ++ [y]).length = ml + 1) := by show _ = _; rw [List.length_append, HML.out]; rfl
        have CG : Hid (Calls Tryz.prog 74 #[.agg #[.int .u8 x0.c.toNat, .int .i64 x0.m, .string x0.l], .agg #[.int .i64 p.kind, .int .i64 p.n, .slice p.ao p.m p.cap, .int .i64 p.set, .int .i64 p.clr, .bool p.goes, .string p.link]] (boxa ⟨1, x, p⟩ wr).drew fun e w' => e = .returned (.agg #[.int .u8 y.c.toNat, .int .i64 y.m, .string y.l]) ∧ Below (boxa ⟨1, x, p⟩ wr).heap.size (boxa ⟨1, x, p⟩ wr) w') := by
          have := changedR_any x0 p (boxa ⟨1, x, p⟩ wr).drew hx4 hs4 hc4
          rw [hy] at this
          exact this.mono (fun e w' ⟨he, hb⟩ => ⟨he, (Below.refl _ _).drew.trans hb⟩)
        obtain ⟨e0, e1, e2⟩ := (HA.out _ HB5.out).get ((List.getElem?_eq_getElem hatl).trans (congrArg some hx0))
        obtain ⟨e0', e1', e2'⟩ := (HA.out w (Below.refl _ _)).get ((List.getElem?_eq_getElem hatl).trans (congrArg some hx0))
        have q1 : (0 : Int) ≤ (at0 : Int) := by omega
        have q2 : (at0 : Int) < (n : Int) := by omega
        clear hms hB1 hB2 hs4 hc4 hfl hatl hx0 hy hx4 hfy
        go_upto_region 17 with fail
        change Code.wp Tryz.prog _ _ _ (boxa ⟨1, x, p⟩ wr)
        generalize boxa ⟨1, x, p⟩ wr = W5 at *
        clear c0 c1 c2 c3 c4 c5 c6 c7 c8 c9 c10
        obtain ⟨d0, d1, d2, d3, d4, d5, d6, d7, d8, d9, d10⟩ := HS5.out
        simp only [Nat.zero_add] at d0 d1 d2 d3 d4 d5 d6 d7 d8 d9 d10
        go_upto_region 21 with fail
        go_region_held3 (fun w' => w'.cell? ⟨b, off + at0 * 3, none⟩ = some (.int .u8 x0.c.toNat) ∧ w'.cell? ⟨b, off + at0 * 3 + 1, none⟩ = some (.int .i64 x0.m) ∧ w'.cell? ⟨b, off + at0 * 3 + 2, none⟩ = some (.string x0.l) ∧ w'.cell? ⟨wr.heap.size, 4, none⟩ = some (.int .i64 p.kind) ∧ w'.cell? ⟨wr.heap.size, 5, none⟩ = some (.int .i64 p.n) ∧ w'.cell? ⟨wr.heap.size, 6, none⟩ = some (.slice p.ao p.m p.cap) ∧ w'.cell? ⟨wr.heap.size, 7, none⟩ = some (.int .i64 p.set) ∧ w'.cell? ⟨wr.heap.size, 8, none⟩ = some (.int .i64 p.clr) ∧ w'.cell? ⟨wr.heap.size, 9, none⟩ = some (.bool p.goes) ∧ w'.cell? ⟨wr.heap.size, 10, none⟩ = some (.string p.link)) (first | exact ⟨e0, e1, e2, d4, d5, d6, d7, d8, d9, d10⟩ | exact ⟨f0, f1, f2, y4, y5, y6, y7, y8, y9, y10⟩ | exact ⟨cell_below f0 (al_blw _ _), cell_below f1 (al_blw _ _), cell_below f2 (al_blw _ _), cell_below y4 (al_blw _ _), cell_below y5 (al_blw _ _), cell_below y6 (al_blw _ _), cell_below y7 (al_blw _ _), cell_below y8 (al_blw _ _), cell_below y9 (al_blw _ _), cell_below y10 (al_blw _ _)⟩ | exact ⟨g0, g1, g2', z4, z5, z6, z7, z8, z9, z10⟩) (first | (go_at_call 74; refine CG.out.mono ?_; rintro e w7 ⟨rfl, hb⟩; have HE7 : Hid (Elev w7 wr.heap.size 0 ⟨1, x, p⟩) := HS5.out.below hb; obtain ⟨-, -, -, -, y4, y5, y6, y7, y8, y9, y10⟩ := HE7.out; simp only [Nat.zero_add] at y4 y5 y6 y7 y8 y9 y10; have f0 := cell_below e0 hb; have f1 := cell_below e1 hb; have f2 := cell_below e2 hb; have HO7 : Hid (w7.ownsRow w4.heap.size 41 3 u10 ml (itCells made)) := own_under HO5.out hb; have hs7 : w4.heap.size ≤ w7.heap.size := Nat.le_trans hsz5 hb.size; have HB7 : Hid (Below wr.heap.size wr w7) := HW5.out.trans (hb.mono HW5.out.size); clear hb) | (refine step_append_lies _ rfl (.tmp 53) (.tmp 61) 23 rfl w4.heap.size 41 i0 (.agg #[.int .u8 0, .int .i64 0, .string ⟨#[]⟩]) 3 32 Tryz.underlying23 hi hz0 hz1 hz2 rfl (by decide) u10 ml (itCells made) rfl (HO7.out.alloc _) ⟨w7.heap.size, 0, none⟩ 1 1 (itCells [y]) rfl rfl (World.news_of_block (cs := (itCells [y]).toArray) (heap_alloc_new w7 _)) (itCells_one _) (by decide) (by unfold maxLen; omega) (by omega) (Nat.le_trans hs7 (al_blw w7 _).size) _ rfl ?_; intro g2 cap2 w8 hown hgrow hat hlt; have hE8 := (HE7.out.below (al_blw w7 (.cells #[.int .u8 y.c.toNat, .int .i64 y.m, .string y.l] 41))).same (hgrow.block _ (cell_lt (HE7.out.below (al_blw w7 (.cells #[.int .u8 y.c.toNat, .int .i64 y.m, .string y.l] 41))).c0) HNB.out); obtain ⟨-, -, -, -, z4, z5, z6, z7, z8, z9, z10⟩ := hE8; simp only [Nat.zero_add] at z4 z5 z6 z7 z8 z9 z10; have HFIN : Hid (AplI w4 (.slice (some ⟨g2, 0, none⟩) (ml + 1) cap2) (made ++ [y], at0 + 1) w8) := HI.out.push (HB7.out.trans ((al_blw w7 _).mono HB7.out.size)) (by rw [itCells_app, HMQ.out]; exact hown) hgrow HFN.out; have g0 := cell_below e0' (H4.out.trans (HFIN.out.blw.mono H4.out.size)); have g1 := cell_below e1' (H4.out.trans (HFIN.out.blw.mono H4.out.size)); have g2' := cell_below e2' (H4.out.trans (HFIN.out.blw.mono H4.out.size)); clear hown hgrow hat hlt))
        go_wp2
        go_roundw
        case rel => exact ⟨j + 1, by omega, by go_num, by rw [HMS.out]; go_num, by rw [HMS.out]; exact HFIN.out⟩
        case measure => simp [intOf]; omega
      · obtain ⟨kind, x, p⟩ := a
        simp only at hk
        subst hk
        have hat : at0 < n := hB1 (show ¬ (3 : Int) = 2 by decide)
        have hms : Ac.amk l (made, at0) ⟨3, x, p⟩ = (made, at0 + 1) := rfl
        rw [hms] at HMS hB2
        have HFIN : Hid (AplI w4 u10 (made, at0 + 1) (boxa ⟨3, x, p⟩ wr)) := ⟨by rw [HML.out]; exact HO5.out, HI.out.blw.trans (HW5.out.mono hsz4), HI.out.fit⟩
        clear hms hB1 hB2
        go_upto_region 17 with fail
        change Code.wp Tryz.prog _ _ _ (boxa ⟨3, x, p⟩ wr)
        generalize boxa ⟨3, x, p⟩ wr = W5 at *
        clear c0 c1 c2 c3 c4 c5 c6 c7 c8 c9 c10
        obtain ⟨d0, d1, d2, d3, d4, d5, d6, d7, d8, d9, d10⟩ := HS5.out
        simp only [Nat.zero_add] at d0 d1 d2 d3 d4 d5 d6 d7 d8 d9 d10
        go_wp2
        go_roundw
        case rel => exact ⟨j + 1, by omega, by go_num, by rw [HMS.out]; go_num, by rw [HMS.out]; exact HFIN.out⟩
        case measure => simp [intOf]; omega
    · have hjj : j = LL := by omega
      have hft : L.take j = L := List.take_of_length_le (by rw [HLE.out]; omega)
      rw [hft] at HI
      obtain ⟨a, c, hv, hd⟩ := own_doc HI.out.own HI.out.fit rfl
      rw [HR.out] at hv hd
      have HB : Hid (Below w.heap.size w wr) := H4.out.trans (HI.out.blw.mono H4.out.size)
      have HDD : Hid (Doc wr a R.length c R) := hd
      obtain ⟨rl, hrl⟩ : ∃ rl, R.length = rl := ⟨_, rfl⟩
      rw [hrl] at hv HDD
      have HRL : Hid (R.length = rl) := hrl
      subst hv hjj
      clear hft hd hrl
      go_wp2
      go_ret2
      exact ⟨⟨a, c, by rw [HRL.out]; rfl, by rw [HRL.out]; exact HDD.out⟩, HB.out⟩
end Go.Proofs.YtaigleblmbblcaaGreatDoor

/-
  The reference settles as the program does.
-/
namespace Go.Proofs.YtaigleblmbblcaaGreatDoor
open Go.RowKit

set_option maxRecDepth 100000 in
set_option maxHeartbeats 3200000 in
theorem settleR_any (w1 w : World) (tv pv : Value) (out : List PV) (put : List It) (cut : Nat) (hT : Tdy w1 tv pv out put cut w) (hp : put.length ≤ 100000) (ho : out.length ≤ 100000) (hc : cut ≤ 1000000) :
    Calls Tryz.prog 101 #[.pointer (some ⟨w1.heap.size + 1, 0, none⟩), .pointer (some ⟨w1.heap.size, 0, none⟩), .pointer (some ⟨w1.heap.size + 2, 0, none⟩)] w fun e w' => e = .returned (.tuple #[]) ∧ ∃ tv' out', Tdy w1 tv' (.slice none 0 0) out' [] 0 w' ∧ out'.map PV.pt = out.map PV.pt ++ Ac.flushP put cut ∧ out'.length ≤ out.length + 2 ∧ Kept w w' (w1.heap.size :: (w1.heap.size + 1) :: (w1.heap.size + 2) :: ob tv) := by
  obtain ⟨i0, hi, hz0, hz1, hz2⟩ := info_parts Tryz.infP
  obtain ⟨pao, pcap, hpv, hpd⟩ := own_doc hT.pown hT.pfit rfl
  obtain ⟨pl, hpl⟩ : ∃ pl, put.length = pl := ⟨_, rfl⟩
  have HT : Hid (Tdy w1 tv pv out put cut w) := hT
  have HPL : Hid (put.length = pl) := hpl
  have HPD : Hid (Doc w pao pl pcap put) := by rw [← hpl]; exact hpd
  rw [hpl] at hpv hp
  have HPV : Hid (pv = .slice pao pl pcap) := hpv
  have t0 : w.cell? ⟨w1.heap.size, 0, none⟩ = some tv := hT.tb.cell 0
  have p0 : w.cell? ⟨w1.heap.size + 1, 0, none⟩ = some (.slice pao pl pcap) := by rw [← hpv]; exact hT.pb.cell 0
  have k0 : w.cell? ⟨w1.heap.size + 2, 0, none⟩ = some (.int .i64 cut) := hT.cb.cell 0
  have tz := hT.tb.frozen 0
  have pz := hT.pb.frozen 0
  have kz := hT.cb.frozen 0
  obtain ⟨ol, hol⟩ : ∃ ol, out.length = ol := ⟨_, rfl⟩
  have HOL : Hid (out.length = ol) := hol
  rw [hol] at ho
  have HOW : Hid (w.ownsRow (w1.heap.size + 3) 97 7 tv ol (pvCells out)) := by have := hT.tide.own; rw [hol] at this; exact this
  have hsz : w1.heap.size + 3 ≤ w.heap.size := hT.cb.lt
  obtain ⟨tao, tcap, htv, -⟩ := own_row HOW.out
  clear hT hpl hol hpd hpv
  subst htv
  have HPUT : Hid (0 < pl → Pvt w ⟨2, 0, pao, pl, pcap, put, 0, 0, false, ⟨#[]⟩⟩ ∧ Far ⟨2, 0, pao, pl, pcap, put, 0, 0, false, ⟨#[]⟩⟩ (.slice tao ol tcap) ∧ High (w1.heap.size + 3) ⟨2, 0, pao, pl, pcap, put, 0, 0, false, ⟨#[]⟩⟩) := fun _ => by
    refine ⟨⟨HPD.out, Nat.zero_le _⟩, fun a _ ha e => ?_, fun a _ ha => ?_⟩
    · have e2 : pv.ownBlock = some a.block := by
        rw [HPV.out]
        change pao = some a at ha
        rw [ha]
        rfl
      exact HT.out.apart a.block e.symm e2
    · refine ownBlk_ge HT.out.pown a.block ?_
      rw [HPV.out]
      change pao = some a at ha
      rw [ha]
      rfl
  by_cases hp0 : pl = 0
  · have HFL : Hid (Ac.flushP put cut = if cut = 0 then [] else [Ac.cutP cut]) := by
      have : put = [] := List.length_eq_zero_iff.1 (HPL.out.trans hp0)
      show _ = _
      unfold Ac.flushP
      rw [this]
      rfl
    subst hp0
    by_cases hc0 : cut = 0
    · subst hc0
      have HS : Hid (Tdy w1 (.slice tao ol tcap) (.slice none 0 0) out [] 0 ((w.setCell ⟨w1.heap.size + 1, 0, none⟩ (.slice none 0 0)).setCell ⟨w1.heap.size + 2, 0, none⟩ (.int .i64 0))) := HT.out.settled HT.out.tide (Kept.refl _ _) HT.out.tb
      have HKE : Hid (Kept w ((w.setCell ⟨w1.heap.size + 1, 0, none⟩ (.slice none 0 0)).setCell ⟨w1.heap.size + 2, 0, none⟩ (.int .i64 0)) (w1.heap.size :: (w1.heap.size + 1) :: (w1.heap.size + 2) :: ob (.slice tao ol tcap))) := kept_settled (Kept.refl _ _)
      go_enter Tryz.func101, Tryz.ntmps101
      go_wp2
      go_end0
      exact ⟨rfl, _, out, HS.out, by rw [HFL.out]; simp, by omega, HKE.out⟩
    · have hc1 : 0 < cut := Nat.pos_of_ne_zero hc0
      go_enter Tryz.func101, Tryz.ntmps101
      go_wp2_with (at_builtin; refine wpList_append_lies _ rfl (.tmp 13) (.tmp 16) 28 rfl (w1.heap.size + 3) 97 i0 (.agg #[.int .i64 0, .int .i64 0, .slice none 0 0, .int .i64 0, .int .i64 0, .bool false, .string ⟨#[]⟩]) 7 80 Tryz.underlying28 hi hz0 hz1 hz2 rfl (by decide) _ ol (pvCells out) rfl ?c1 ⟨w.heap.size, 0, none⟩ 1 1 [.int .i64 3, .int .i64 cut, .slice none 0 0, .int .i64 0, .int .i64 0, .bool false, .string ⟨#[]⟩] rfl rfl ?c2 ?c3 (by decide) ?c4 ?c5 ?c6 _ rfl ?c7)
      case c1 => exact HOW.out.alloc _
      case c2 => exact World.news_of_block (cs := #[.int .i64 3, .int .i64 cut, .slice none 0 0, .int .i64 0, .int .i64 0, .bool false, .string ⟨#[]⟩]) (heap_alloc_new w _)
      case c3 => exact pvCells_oneCell [⟨3, cut, none, 0, 0, [], 0, 0, false, ⟨#[]⟩⟩]
      case c4 => unfold maxLen; omega
      case c5 => omega
      case c6 => first | omega | (simp; omega)
      case c7 =>
        intro g cap2 w3 hown hgrow hat hlt
        have hal : Below w.heap.size w (w.alloc (.cells #[.int .i64 3, .int .i64 cut, .slice none 0 0, .int .i64 0, .int .i64 0, .bool false, .string ⟨#[]⟩] 97)) := (Below.refl _ _).alloc (Nat.le_refl _) _
        obtain ⟨ht3, hk3⟩ := HT.out.tide.push (v := ⟨3, cut, none, 0, 0, [], 0, 0, false, ⟨#[]⟩⟩) ⟨doc_none w, Nat.zero_le _⟩ (far_zero rfl _) (high_zero rfl _) hal (by rw [HOL.out]; exact hown) hgrow (by rcases hat with h | h; exact .inl h; exact .inr (h.trans (World.size_alloc ..).symm))
        rw [HOL.out] at ht3
        have HK : Hid (Kept w w3 (w1.heap.size :: ob (.slice tao ol tcap))) := kept_cons hk3 _
        have hb3 : Blk w3 w1.heap.size [(.slice tao ol tcap)] 28 := hk3.blk HT.out.tb (fun hx => by have := ownBlk_ge HT.out.tide.own _ (ob_mem hx); omega)
        obtain ⟨ht4, hk4, hb4⟩ := ht3.var HK.out hb3
        have HS : Hid (Tdy w1 (.slice (some ⟨g, 0, none⟩) (ol + 1) cap2) (.slice none 0 0) (out ++ [⟨3, cut, none, 0, 0, [], 0, 0, false, ⟨#[]⟩⟩]) [] 0 (((w3.setCell ⟨w1.heap.size, 0, none⟩ (.slice (some ⟨g, 0, none⟩) (ol + 1) cap2)).setCell ⟨w1.heap.size + 1, 0, none⟩ (.slice none 0 0)).setCell ⟨w1.heap.size + 2, 0, none⟩ (.int .i64 0))) := HT.out.settled ht4 hk4 hb4
        have HKE : Hid (Kept w (((w3.setCell ⟨w1.heap.size, 0, none⟩ (.slice (some ⟨g, 0, none⟩) (ol + 1) cap2)).setCell ⟨w1.heap.size + 1, 0, none⟩ (.slice none 0 0)).setCell ⟨w1.heap.size + 2, 0, none⟩ (.int .i64 0)) (w1.heap.size :: (w1.heap.size + 1) :: (w1.heap.size + 2) :: ob (.slice tao ol tcap))) := kept_settled hk4
        have r0 : w3.cell? ⟨w1.heap.size, 0, none⟩ = some (.slice tao ol tcap) := hb3.cell 0
        have r1 := hb3.frozen 0
        have hlo : ∀ x ∈ w1.heap.size :: ob (.slice tao ol tcap), x = w1.heap.size ∨ w1.heap.size + 3 ≤ x := fun x hx => by
          rcases List.mem_cons.1 hx with rfl | hx
          · exact .inl rfl
          · exact .inr (ownBlk_ge HT.out.tide.own x (ob_mem hx))
        have hp3 : Blk w3 (w1.heap.size + 1) [pv] 22 := HK.out.blk HT.out.pb (fun hx => by have := hlo _ hx; omega)
        have hc3 : Blk w3 (w1.heap.size + 2) [.int .i64 cut] 3 := HK.out.blk HT.out.cb (fun hx => by have := hlo _ hx; omega)
        have u1 : w3.cell? ⟨w1.heap.size + 1, 0, none⟩ = some (.slice pao 0 pcap) := by rw [← HPV.out]; exact hp3.cell 0
        have u2 : w3.cell? ⟨w1.heap.size + 2, 0, none⟩ = some (.int .i64 cut) := hc3.cell 0
        have y1 := hp3.frozen 0
        have y2 := hc3.frozen 0
        clear ht3 hk3 hb3 ht4 hk4 hb4 hown hgrow hat hlt hal hp3 hc3 hlo
        have HFL2 : Hid ((out ++ [(⟨3, cut, none, 0, 0, [], 0, 0, false, ⟨#[]⟩⟩ : PV)]).map PV.pt = out.map PV.pt ++ Ac.flushP put cut) := by show _ = _; rw [HFL.out, if_neg hc0, List.map_append]; rfl
        have HLEN : Hid ((out ++ [(⟨3, cut, none, 0, 0, [], 0, 0, false, ⟨#[]⟩⟩ : PV)]).length ≤ out.length + 2) := by show _ ≤ _; simp
        go_wp2
        go_end0
        exact ⟨rfl, _, _, HS.out, HFL2.out, HLEN.out, HKE.out⟩
  · have hp1 : 0 < pl := Nat.pos_of_ne_zero hp0
    have hq1 : (0 : Int) < (pl : Int) := by omega
    obtain ⟨hv1, hv2, hv3⟩ := HPUT.out hp1
    have HV : Hid (Pvt w ⟨2, 0, pao, pl, pcap, put, 0, 0, false, ⟨#[]⟩⟩ ∧ Far ⟨2, 0, pao, pl, pcap, put, 0, 0, false, ⟨#[]⟩⟩ (.slice tao ol tcap) ∧ High (w1.heap.size + 3) ⟨2, 0, pao, pl, pcap, put, 0, 0, false, ⟨#[]⟩⟩) := ⟨hv1, hv2, hv3⟩
    clear hv1 hv2 hv3
    have HFL : Hid (Ac.flushP put cut = Ac.putP put :: (if cut = 0 then [] else [Ac.cutP cut])) := by
      have : put.isEmpty = false := by
        cases hq : put
        · have := HPL.out; rw [hq] at this; simp at this; omega
        · rfl
      show _ = _
      unfold Ac.flushP
      rw [this]
      rfl
    have HCU : Hid (cut ≤ 1000000) := hc
    go_enter Tryz.func101, Tryz.ntmps101
    go_wp2_with (at_builtin; refine wpList_append_lies _ rfl (.tmp 6) (.tmp 9) 28 rfl (w1.heap.size + 3) 97 i0 (.agg #[.int .i64 0, .int .i64 0, .slice none 0 0, .int .i64 0, .int .i64 0, .bool false, .string ⟨#[]⟩]) 7 80 Tryz.underlying28 hi hz0 hz1 hz2 rfl (by decide) _ ol (pvCells out) rfl ?c1 ⟨w.heap.size, 0, none⟩ 1 1 [.int .i64 2, .int .i64 0, .slice pao pl pcap, .int .i64 0, .int .i64 0, .bool false, .string ⟨#[]⟩] rfl rfl ?c2 ?c3 (by decide) ?c4 ?c5 ?c6 _ rfl ?c7)
    case c1 => exact HOW.out.alloc _
    case c2 => exact World.news_of_block (cs := #[.int .i64 2, .int .i64 0, .slice pao pl pcap, .int .i64 0, .int .i64 0, .bool false, .string ⟨#[]⟩]) (heap_alloc_new w _)
    case c3 => exact pvCells_oneCell [⟨2, 0, pao, pl, pcap, put, 0, 0, false, ⟨#[]⟩⟩]
    case c4 => unfold maxLen; omega
    case c5 => omega
    case c6 => first | omega | (simp; omega)
    case c7 =>
      intro g cap2 w3 hown hgrow hat hlt
      have hal : Below w.heap.size w (w.alloc (.cells #[.int .i64 2, .int .i64 0, .slice pao pl pcap, .int .i64 0, .int .i64 0, .bool false, .string ⟨#[]⟩] 97)) := (Below.refl _ _).alloc (Nat.le_refl _) _
      obtain ⟨ht3, hk3⟩ := HT.out.tide.push (v := ⟨2, 0, pao, pl, pcap, put, 0, 0, false, ⟨#[]⟩⟩) HV.out.1 HV.out.2.1 HV.out.2.2 hal (by rw [HOL.out]; exact hown) hgrow (by rcases hat with h | h; exact .inl h; exact .inr (h.trans (World.size_alloc ..).symm))
      rw [HOL.out] at ht3
      have HK : Hid (Kept w w3 (w1.heap.size :: ob (.slice tao ol tcap))) := kept_cons hk3 _
      have hb3 : Blk w3 w1.heap.size [(.slice tao ol tcap)] 28 := hk3.blk HT.out.tb (fun hx => by have := ownBlk_ge HT.out.tide.own _ (ob_mem hx); omega)
      obtain ⟨ht4, hk4, hb4⟩ := ht3.var HK.out hb3
      have r0 : w3.cell? ⟨w1.heap.size, 0, none⟩ = some (.slice tao ol tcap) := hb3.cell 0
      have r1 := hb3.frozen 0
      have hlo : ∀ x ∈ w1.heap.size :: ob (.slice tao ol tcap), x = w1.heap.size ∨ w1.heap.size + 3 ≤ x := fun x hx => by
        rcases List.mem_cons.1 hx with rfl | hx
        · exact .inl rfl
        · exact .inr (ownBlk_ge HT.out.tide.own x (ob_mem hx))
      have hp3 : Blk w3 (w1.heap.size + 1) [pv] 22 := HK.out.blk HT.out.pb (fun hx => by have := hlo _ hx; omega)
      have hc3 : Blk w3 (w1.heap.size + 2) [.int .i64 cut] 3 := HK.out.blk HT.out.cb (fun hx => by have := hlo _ hx; omega)
      have u1 : w3.cell? ⟨w1.heap.size + 1, 0, none⟩ = some (.slice pao pl pcap) := by rw [← HPV.out]; exact hp3.cell 0
      have u2 : w3.cell? ⟨w1.heap.size + 2, 0, none⟩ = some (.int .i64 cut) := hc3.cell 0
      have y1 := hp3.frozen 0
      have y2 := hc3.frozen 0
      have HT4 : Hid (Tide (w3.setCell ⟨w1.heap.size, 0, none⟩ (.slice (some ⟨g, 0, none⟩) (ol + 1) cap2)) (w1.heap.size + 3) (.slice (some ⟨g, 0, none⟩) (ol + 1) cap2) (out ++ [⟨2, 0, pao, pl, pcap, put, 0, 0, false, ⟨#[]⟩⟩])) := ht4
      have HK4 : Hid (Kept w (w3.setCell ⟨w1.heap.size, 0, none⟩ (.slice (some ⟨g, 0, none⟩) (ol + 1) cap2)) (w1.heap.size :: ob (.slice tao ol tcap))) := hk4
      have HB4 : Hid (Blk (w3.setCell ⟨w1.heap.size, 0, none⟩ (.slice (some ⟨g, 0, none⟩) (ol + 1) cap2)) w1.heap.size [(.slice (some ⟨g, 0, none⟩) (ol + 1) cap2)] 28) := hb4
      have HOL2 : Hid ((out ++ [(⟨2, 0, pao, pl, pcap, put, 0, 0, false, ⟨#[]⟩⟩ : PV)]).length = ol + 1) := by show _ = _; rw [List.length_append, HOL.out]; rfl
      have HG4 : Hid (Value.ownBlock (.slice (some ⟨g, 0, none⟩) (ol + 1) cap2) = Value.ownBlock (.slice tao ol tcap) ∨ ∀ k, Value.ownBlock (.slice (some ⟨g, 0, none⟩) (ol + 1) cap2) = some k → w.heap.size ≤ k) := by rcases hat with h | h; exact .inl h.symm; exact .inr (fun k hk => by simp [Value.ownBlock] at hk; omega)
      have HP4 : Hid (Blk (w3.setCell ⟨w1.heap.size, 0, none⟩ (.slice (some ⟨g, 0, none⟩) (ol + 1) cap2)) (w1.heap.size + 1) [.slice pao pl pcap] 22) := by have := hp3.other ⟨w1.heap.size, 0, none⟩ (.slice (some ⟨g, 0, none⟩) (ol + 1) cap2) (by simp); rw [HPV.out] at this; exact this
      have HC4 : Hid (Blk (w3.setCell ⟨w1.heap.size, 0, none⟩ (.slice (some ⟨g, 0, none⟩) (ol + 1) cap2)) (w1.heap.size + 2) [.int .i64 cut] 3) := hc3.other ⟨w1.heap.size, 0, none⟩ (.slice (some ⟨g, 0, none⟩) (ol + 1) cap2) (by simp)
      clear ht3 hk3 hb3 ht4 hk4 hb4 hown hgrow hat hlt hal hp3 hc3 hlo t0 p0 k0 tz pz kz
      go_upto_region 2 with fail
      change Code.wp Tryz.prog _ _ _ (w3.setCell ⟨w1.heap.size, 0, none⟩ (.slice (some ⟨g, 0, none⟩) (ol + 1) cap2))
      generalize (w3.setCell ⟨w1.heap.size, 0, none⟩ (.slice (some ⟨g, 0, none⟩) (ol + 1) cap2)) = W4 at *
      clear r0 r1 u1 u2 y1 y2
      have r0 : W4.cell? ⟨w1.heap.size, 0, none⟩ = some (.slice (some ⟨g, 0, none⟩) (ol + 1) cap2) := HB4.out.cell 0
      have r1 := HB4.out.frozen 0
      have u1 : W4.cell? ⟨w1.heap.size + 1, 0, none⟩ = some (.slice pao pl pcap) := HP4.out.cell 0
      have u2 : W4.cell? ⟨w1.heap.size + 2, 0, none⟩ = some (.int .i64 cut) := HC4.out.cell 0
      have y1 := HP4.out.frozen 0
      have y2 := HC4.out.frozen 0
      by_cases hc0 : cut = 0
      · subst hc0
        have HS : Hid (Tdy w1 (.slice (some ⟨g, 0, none⟩) (ol + 1) cap2) (.slice none 0 0) (out ++ [⟨2, 0, pao, pl, pcap, put, 0, 0, false, ⟨#[]⟩⟩]) [] 0 ((W4.setCell ⟨w1.heap.size + 1, 0, none⟩ (.slice none 0 0)).setCell ⟨w1.heap.size + 2, 0, none⟩ (.int .i64 0))) := HT.out.settled HT4.out HK4.out HB4.out
        have HKE : Hid (Kept w ((W4.setCell ⟨w1.heap.size + 1, 0, none⟩ (.slice none 0 0)).setCell ⟨w1.heap.size + 2, 0, none⟩ (.int .i64 0)) (w1.heap.size :: (w1.heap.size + 1) :: (w1.heap.size + 2) :: ob (.slice tao ol tcap))) := kept_settled HK4.out
        have HFL2 : Hid ((out ++ [(⟨2, 0, pao, pl, pcap, put, 0, 0, false, ⟨#[]⟩⟩ : PV)]).map PV.pt = out.map PV.pt ++ Ac.flushP put 0) := by show _ = _; rw [HFL.out, List.map_append]; rfl
        have HLEN : Hid ((out ++ [(⟨2, 0, pao, pl, pcap, put, 0, 0, false, ⟨#[]⟩⟩ : PV)]).length ≤ out.length + 2) := by show _ ≤ _; simp
        clear HT4 HK4 HB4
        go_wp2
        go_end0
        exact ⟨rfl, _, _, HS.out, HFL2.out, HLEN.out, HKE.out⟩
      · have hc1 : 0 < cut := Nat.pos_of_ne_zero hc0
        have HO4 : Hid (W4.ownsRow (w1.heap.size + 3) 97 7 (.slice (some ⟨g, 0, none⟩) (ol + 1) cap2) (ol + 1) (pvCells (out ++ [⟨2, 0, pao, pl, pcap, put, 0, 0, false, ⟨#[]⟩⟩]))) := by have := HT4.out.own; rw [HOL2.out] at this; exact this
        have hs4 : w1.heap.size + 3 ≤ W4.heap.size := Nat.le_trans hsz HK4.out.size
        go_wp2_with (at_builtin; refine wpList_append_lies _ rfl (.tmp 13) (.tmp 16) 28 rfl (w1.heap.size + 3) 97 i0 (.agg #[.int .i64 0, .int .i64 0, .slice none 0 0, .int .i64 0, .int .i64 0, .bool false, .string ⟨#[]⟩]) 7 80 Tryz.underlying28 hi hz0 hz1 hz2 rfl (by decide) _ (ol + 1) (pvCells (out ++ [⟨2, 0, pao, pl, pcap, put, 0, 0, false, ⟨#[]⟩⟩])) rfl ?e1 ⟨W4.heap.size, 0, none⟩ 1 1 [.int .i64 3, .int .i64 cut, .slice none 0 0, .int .i64 0, .int .i64 0, .bool false, .string ⟨#[]⟩] rfl rfl ?e2 ?e3 (by decide) ?e4 ?e5 ?e6 _ rfl ?e7)
        case e1 => exact HO4.out.alloc _
        case e2 => exact World.news_of_block (cs := #[.int .i64 3, .int .i64 cut, .slice none 0 0, .int .i64 0, .int .i64 0, .bool false, .string ⟨#[]⟩]) (heap_alloc_new W4 _)
        case e3 => exact pvCells_oneCell [⟨3, cut, none, 0, 0, [], 0, 0, false, ⟨#[]⟩⟩]
        case e4 => unfold maxLen; omega
        case e5 => omega
        case e6 => first | omega | (simp; omega) | (have := hs4; simp at this ⊢; omega)
        case e7 =>
          intro g5 cap5 w5 hown hgrow hat hlt
          have hal : Below W4.heap.size W4 (W4.alloc (.cells #[.int .i64 3, .int .i64 cut, .slice none 0 0, .int .i64 0, .int .i64 0, .bool false, .string ⟨#[]⟩] 97)) := (Below.refl _ _).alloc (Nat.le_refl _) _
          obtain ⟨ht5, hk5⟩ := HT4.out.push (v := ⟨3, cut, none, 0, 0, [], 0, 0, false, ⟨#[]⟩⟩) ⟨doc_none _, Nat.zero_le _⟩ (far_zero rfl _) (high_zero rfl _) hal (by rw [HOL2.out]; exact hown) hgrow (by rcases hat with h | h; exact .inl h; exact .inr (h.trans (by simp)))
          rw [HOL2.out] at ht5
          have HK5 : Kept W4 w5 (w1.heap.size :: ob (.slice (some ⟨g, 0, none⟩) (ol + 1) cap2)) := kept_cons hk5 _
          have hb5 : Blk w5 w1.heap.size [(.slice (some ⟨g, 0, none⟩) (ol + 1) cap2)] 28 := hk5.blk HB4.out (fun hx => by have := ownBlk_ge HO4.out _ (ob_mem hx); omega)
          have hp5 : Blk w5 (w1.heap.size + 1) [.slice pao pl pcap] 22 := hk5.blk HP4.out (fun hx => by have := ownBlk_ge HO4.out _ (ob_mem hx); omega)
          have hc5 : Blk w5 (w1.heap.size + 2) [.int .i64 cut] 3 := hk5.blk HC4.out (fun hx => by have := ownBlk_ge HO4.out _ (ob_mem hx); omega)
          obtain ⟨ht6, hk6, hb6⟩ := ht5.var HK5 hb5
          have HS : Hid (Tdy w1 (.slice (some ⟨g5, 0, none⟩) (ol + 1 + 1) cap5) (.slice none 0 0) ((out ++ [⟨2, 0, pao, pl, pcap, put, 0, 0, false, ⟨#[]⟩⟩]) ++ [⟨3, cut, none, 0, 0, [], 0, 0, false, ⟨#[]⟩⟩]) [] 0 (((w5.setCell ⟨w1.heap.size, 0, none⟩ (.slice (some ⟨g5, 0, none⟩) (ol + 1 + 1) cap5)).setCell ⟨w1.heap.size + 1, 0, none⟩ (.slice none 0 0)).setCell ⟨w1.heap.size + 2, 0, none⟩ (.int .i64 0))) := HT.out.settled2 HK4.out HG4.out ht6 hk6 hb6
          have HKE : Hid (Kept w (((w5.setCell ⟨w1.heap.size, 0, none⟩ (.slice (some ⟨g5, 0, none⟩) (ol + 1 + 1) cap5)).setCell ⟨w1.heap.size + 1, 0, none⟩ (.slice none 0 0)).setCell ⟨w1.heap.size + 2, 0, none⟩ (.int .i64 0)) (w1.heap.size :: (w1.heap.size + 1) :: (w1.heap.size + 2) :: ob (.slice tao ol tcap))) := kept_settled (kept_two HK4.out HG4.out hk6)
          have HFL2 : Hid (((out ++ [(⟨2, 0, pao, pl, pcap, put, 0, 0, false, ⟨#[]⟩⟩ : PV)]) ++ [(⟨3, cut, none, 0, 0, [], 0, 0, false, ⟨#[]⟩⟩ : PV)]).map PV.pt = out.map PV.pt ++ Ac.flushP put cut) := by show _ = _; rw [HFL.out, if_neg hc0, List.map_append, List.map_append, List.append_assoc]; rfl
          have HLEN : Hid (((out ++ [(⟨2, 0, pao, pl, pcap, put, 0, 0, false, ⟨#[]⟩⟩ : PV)]) ++ [(⟨3, cut, none, 0, 0, [], 0, 0, false, ⟨#[]⟩⟩ : PV)]).length ≤ out.length + 2) := by show _ ≤ _; simp
          have v0 : w5.cell? ⟨w1.heap.size, 0, none⟩ = some (.slice (some ⟨g, 0, none⟩) (ol + 1) cap2) := hb5.cell 0
          have v1 := hb5.frozen 0
          have x1 : w5.cell? ⟨w1.heap.size + 1, 0, none⟩ = some (.slice pao pl pcap) := hp5.cell 0
          have x2 : w5.cell? ⟨w1.heap.size + 2, 0, none⟩ = some (.int .i64 cut) := hc5.cell 0
          have z1 := hp5.frozen 0
          have z2 := hc5.frozen 0
          clear HT4 HK4 HB4 HK5 hb5 hp5 hc5 ht5 hk5 ht6 hk6 hb6 hown hgrow hat hlt hal HO4
          go_wp2
          go_end0
          exact ⟨rfl, _, _, HS.out, HFL2.out, HLEN.out, HKE.out⟩
end Go.Proofs.YtaigleblmbblcaaGreatDoor

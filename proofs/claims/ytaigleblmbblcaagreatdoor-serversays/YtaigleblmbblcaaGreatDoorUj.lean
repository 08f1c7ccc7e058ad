/-
  Package ot: joined: two operations as one.
-/
import Derived.Test.YtaigleblmbblcaaGreatDoorM9
import Derived.Test.YtaigleblmbblcaaGreatDoorUi
namespace Go.Proofs.YtaigleblmbblcaaGreatDoor
open Go.RowKit

/-- Where the loop of Join stands: the pair, what is made. -/
structure JoinW (w wr : World) (r s : RV) (x : Value) (ux : List PV) : Prop where
  pb : Blk wr w.heap.size (prC r s) 126
  hr : Ops w r.ao r.n r.cap r.vs
  hs : Ops w s.ao s.n s.cap s.vs
  mx : wr.ownsRow (w.heap.size + 1) 97 7 x ux.length (pvCells ux)
  pts : ∀ u ∈ ux, Pvt wr u
  far : ∀ u ∈ ux, Far u x
  off : ∀ u ∈ ux, ∀ a : Addr, u.m ≠ 0 → u.ao = some a → a.block ≠ w.heap.size
  blw : Below w.heap.size w wr
theorem JoinW.under {w wr wr' : World} {r s : RV} {x : Value} {ux : List PV} (h : JoinW w wr r s x ux) (hb : Below wr.heap.size wr wr') : JoinW w wr' r s x ux :=
  ⟨(hb.block _ h.pb.lt).trans h.pb, h.hr, h.hs, own_under h.mx hb, fun u hu => (h.pts u hu).below hb, h.far, h.off, h.blw.trans (hb.mono h.blw.size)⟩
theorem JoinW.pair {w wr wr' : World} {r s r' s' : RV} {x : Value} {ux : List PV} (h : JoinW w wr r s x ux) (hk : Kept wr wr' [w.heap.size]) (hb : Blk wr' w.heap.size (prC r' s') 126) (hr : Ops w r'.ao r'.n r'.cap r'.vs) (hs : Ops w s'.ao s'.n s'.cap s'.vs) : JoinW w wr' r' s' x ux :=
  ⟨hb, hr, hs, own_keeps h.mx hk (fun k hk e => by have := ownBlk_ge h.mx k e; rw [List.mem_singleton] at hk; omega), fun u hu => (h.pts u hu).kept hk (fun a hm ha hx => h.off u hu a hm ha (List.mem_singleton.1 hx)), h.far, h.off, h.blw.trans (hk.below h.blw.size (fun k hk => by rw [List.mem_singleton.1 hk]; exact Nat.le_refl _))⟩
theorem JoinW.grow {w wr w3 : World} {r s : RV} {x xv : Value} {ux us : List PV} {m : Nat} (h : JoinW w wr r s x ux) (hp : ∀ u ∈ us, Pvt wr u) (hf : ∀ u ∈ us, Far u x) (ho : ∀ u ∈ us, ∀ a : Addr, u.m ≠ 0 → u.ao = some a → a.block ≠ w.heap.size) (hm : (ux ++ us).length = m)
    (hown : w3.ownsRow (w.heap.size + 1) 97 7 xv m (pvCells ux ++ pvCells us)) (hg : wr.grownBy w3 x.ownBlock) (hat : ∀ k, xv.ownBlock = some k → x.ownBlock = some k ∨ k = wr.heap.size) : JoinW w w3 r s xv (ux ++ us) := by
  have hk := grown_kept hg
  have hlo := ob_lo h.mx
  have key : ∀ u, Pvt wr u → Far u x → Pvt w3 u ∧ Far u xv := fun u hu hfu => by
    refine ⟨hu.kept hk (fun a hm ha hx => hfu a hm ha (ob_mem hx).symm), fun a hm ha e => ?_⟩
    rcases hat a.block e.symm with e2 | e2
    · exact hfu a hm ha e2.symm
    · have := hu.lies hm ha
      omega
  refine ⟨hk.blk h.pb (fun hx => by have := hlo _ hx; omega), h.hr, h.hs, by rw [hm, pvCells_app]; exact hown, fun u hu => ?_, fun u hu => ?_, fun u hu => ?_, h.blw.trans (hk.below h.blw.size (fun k hk => by have := hlo k hk; omega))⟩
  · rcases List.mem_append.1 hu with hu | hu
    · exact (key u (h.pts u hu) (h.far u hu)).1
    · exact (key u (hp u hu) (hf u hu)).1
  · rcases List.mem_append.1 hu with hu | hu
    · exact (key u (h.pts u hu) (h.far u hu)).2
    · exact (key u (hp u hu) (hf u hu)).2
  · rcases List.mem_append.1 hu with hu | hu
    · exact h.off u hu
    · exact ho u hu
theorem JoinW.start (r s : RV) (w : World) (hr : Ops w r.ao r.n r.cap r.vs) (hs : Ops w s.ao s.n s.cap s.vs) : JoinW w (boxr r s w) r s (.slice none 0 0) [] :=
  ⟨Blk.new w _ _, hr, hs, World.ownsRow_nil _ _ _ _, fun u hu => absurd hu (by simp), fun u hu => absurd hu (by simp), fun u hu => absurd hu (by simp), (Below.refl _ _).alloc (Nat.le_refl _) _⟩
theorem JoinW.left {w wr : World} {r s : RV} {x : Value} {ux : List PV} (h : JoinW w wr r s x ux) : lenAt wr ⟨w.heap.size, 0, none⟩ + lenAt wr ⟨w.heap.size, 2, none⟩ = r.vs.length + s.vs.length := by
  have h0 : wr.cell? ⟨w.heap.size, 0, none⟩ = some (.slice r.ao r.n r.cap) := h.pb.cell 0
  have h2 : wr.cell? ⟨w.heap.size, 2, none⟩ = some (.slice s.ao s.n s.cap) := h.pb.cell 2
  unfold lenAt
  rw [h0, h2, h.hr.len, h.hs.len]
/-- What lies below lies neither in the pair nor in what is made. -/
theorem low_far {w wr : World} {x : Value} {n : Nat} {xs : List Value} {u : PV} (hx : wr.ownsRow (w.heap.size + 1) 97 7 x n xs) (hu : Pvt w u) : Far u x ∧ ∀ a : Addr, u.m ≠ 0 → u.ao = some a → a.block ≠ w.heap.size :=
  ⟨fun a hm ha e => by have h1 := hu.lies hm ha; have h2 := ownBlk_ge hx a.block e.symm; omega, fun a hm ha => by have h1 := hu.lies hm ha; omega⟩
theorem high_far {w wr : World} {x : Value} {n : Nat} {xs : List Value} {u : PV} (hx : wr.ownsRow (w.heap.size + 1) 97 7 x n xs) (hw : w.heap.size < wr.heap.size) (hu : u.m = 0 ∨ High wr.heap.size u) : Far u x ∧ ∀ a : Addr, u.m ≠ 0 → u.ao = some a → a.block ≠ w.heap.size := by
  rcases hu with h | h
  · exact ⟨far_zero h x, fun a hm => absurd h hm⟩
  · exact ⟨fun a hm ha e => by have h1 := h a hm ha; have h2 := (hx.lt a.block e.symm).2; omega, fun a hm ha => by have h1 := h a hm ha; omega⟩

set_option maxRecDepth 100000 in
set_option maxHeartbeats 12800000 in
theorem joined_any (ao ao' : Option Addr) (n cap n' cap' : Nat) (vs vs' : List PV) (w : World) (hO : Ops w ao n cap vs) (hO' : Ops w ao' n' cap' vs') (hR : Ac.Right (vs.map PV.pt)) (hR' : Ac.Right (vs'.map PV.pt)) (hnd : Ac.lv (vs.map PV.pt) = Ac.nd (vs'.map PV.pt)) :
    Calls Tryz.prog 102 #[.agg #[.slice ao n cap, .int .i64 0, .slice ao' n' cap', .int .i64 0]] w fun e w' => (∃ a0 n0 c0 u0, e = .returned (.slice a0 n0 c0) ∧ Ops w' a0 n0 c0 u0 ∧ Ac.join (Ac.acts (vs.map PV.pt)) (Ac.acts (vs'.map PV.pt)) = Ac.acts (u0.map PV.pt) ∧ (∀ v ∈ u0, Ac.err1 v.pt = 0) ∧ u0.length ≤ 80) ∧ Below w.heap.size w w' := by
  obtain ⟨i0, hi, hz0, hz1, hz2⟩ := info_parts Tryz.infP
  have HT0 : Hid (JoinW w (boxr ⟨ao, n, cap, vs, 0⟩ ⟨ao', n', cap', vs', 0⟩ w) ⟨ao, n, cap, vs, 0⟩ ⟨ao', n', cap', vs', 0⟩ (.slice none 0 0) []) := JoinW.start _ _ w hO hO'
  have HI0 : Hid (Ac.JoinI (vs.map PV.pt) (vs'.map PV.pt) (vs.map PV.pt) 0 (vs'.map PV.pt) 0 []) := Ac.JoinI.start hR hR' hnd
  have HF : Hid ((vs.map PV.pt).length + (vs'.map PV.pt).length ≤ 80) := by have := hR.few; have := hR'.few; show _ ≤ _; omega
  obtain ⟨A, hA⟩ : ∃ A, vs.map PV.pt = A := ⟨_, rfl⟩
  obtain ⟨B, hB⟩ : ∃ B, vs'.map PV.pt = B := ⟨_, rfl⟩
  have HI1 : Hid (Ac.JoinI A B (vs.map PV.pt) 0 (vs'.map PV.pt) 0 []) := by have := HI0.out; rw [hA, hB] at this; show Ac.JoinI A B (vs.map PV.pt) 0 (vs'.map PV.pt) 0 []; rw [hA, hB]; exact this
  rw [hA, hB] at HF ⊢
  clear HI0
  clear hO hO' hR hR' hnd hA hB
  go_enter Tryz.func102, Tryz.ntmps102
  go_wp2_with fail
  go_loopw [3] (fun x wr => ∃ r s ux, JoinW w wr r s x ux ∧ Ac.JoinI A B (r.vs.map PV.pt) r.g (s.vs.map PV.pt) s.g (ux.map PV.pt)) (fun _ wr => lenAt wr ⟨w.heap.size, 0, none⟩ + lenAt wr ⟨w.heap.size, 2, none⟩)
  case atStart => exact ⟨_, _, [], HT0.out, HI1.out⟩
  case round =>
    obtain ⟨r, s, ux, hT, hI⟩ := hrel
    have HT : Hid (JoinW w wr r s u3 ux) := hT
    have HI : Hid (Ac.JoinI A B (r.vs.map PV.pt) r.g (s.vs.map PV.pt) s.g (ux.map PV.pt)) := hI
    clear hT hI HT0 HI1
    obtain ⟨rvs, hrv⟩ : ∃ rvs, r.vs = rvs := ⟨_, rfl⟩
    cases rvs with
    | nil =>
      have C1 : Hid (Calls Tryz.prog 107 #[.pointer (some ⟨w.heap.size, 0, none⟩)] wr fun e w' => e = .returned (.bool false) ∧ w' = wr) := isLeft_any w.heap.size r s wr false (by have := HT.out.hr.len; rw [hrv] at this; simp at this; simp; omega) HT.out.pb
      have HD : Hid (Ac.join (Ac.acts A) (Ac.acts B) = Ac.acts (ux.map PV.pt)) := by have := HI.out; rw [hrv] at this; exact this.done
      obtain ⟨xa, xc, hx, hxr⟩ := own_row HT.out.mx
      have HXO : Hid (Ops wr xa ux.length xc ux) := ⟨hxr, HT.out.pts⟩
      obtain ⟨xl, hxl⟩ : ∃ xl, ux.length = xl := ⟨_, rfl⟩
      have HXL : Hid (ux.length = xl) := hxl
      rw [hxl] at hx
      clear hrv hxr hxl
      subst hx
      go_wp2_with fail
      refine C1.out.mono ?_
      rintro e w1 ⟨rfl, hw⟩
      obtain rfl := hw.symm
      go_wp2
      go_ret
      have hl1 := HI.out.lx
      have hf := HF.out
      rw [List.length_map] at hl1
      exact ⟨⟨xa, xl, xc, ux, rfl, by rw [← HXL.out]; exact HXO.out, HD.out, fun v hv => HI.out.okx _ (List.mem_map.2 ⟨v, hv, rfl⟩), by omega⟩, HT.out.blw⟩
    | cons v t =>
      obtain ⟨v', t', hsv⟩ : ∃ v' t', s.vs = v' :: t' := by
        cases hs : s.vs with
        | nil =>
          have := HI.out.left.2 (by rw [hs]; rfl)
          rw [hrv] at this
          cases this
        | cons v' t' => exact ⟨v', t', rfl⟩
      have HO1 : Hid (Ops w r.ao r.n r.cap (v :: t)) := by have := HT.out.hr; rw [hrv] at this; exact this
      have HO2 : Hid (Ops w s.ao s.n s.cap (v' :: t')) := by have := HT.out.hs; rw [hsv] at this; exact this
      have HI1 : Hid (Ac.JoinI A B (v.pt :: t.map PV.pt) r.g (v'.pt :: t'.map PV.pt) s.g (ux.map PV.pt)) := by have := HI.out; rw [hrv, hsv] at this; exact this
      have C1 : Hid (Calls Tryz.prog 107 #[.pointer (some ⟨w.heap.size, 0, none⟩)] wr fun e w' => e = .returned (.bool true) ∧ w' = wr) := isLeft_any w.heap.size r s wr true (by have := HT.out.hr.len; rw [hrv] at this; simp at this; simp; omega) HT.out.pb
      have EV : Hid (Ac.err1 v.pt = 0) := HI1.out.rp.ok _ (List.mem_cons_self ..)
      have EW : Hid (Ac.err1 v'.pt = 0) := HI1.out.rq.ok _ (List.mem_cons_self ..)
      have E1 : Hid (lgV v = (Ac.lg v.pt : Int)) := lg_lgV (HO1.out.pts v (List.mem_cons_self ..)) EV.out
      have E2 : Hid (lgV v' = (Ac.lg v'.pt : Int)) := lg_lgV (HO2.out.pts v' (List.mem_cons_self ..)) EW.out
      have hl1 : (r.g : Int) < lgV v ∧ lgV v ≤ 80 := by have h1 := HI1.out.rp.lt _ _ rfl; have h2 := (Ac.lg_bd EV.out).2; rw [E1.out]; omega
      have hl2 : (s.g : Int) < lgV v' ∧ lgV v' ≤ 80 := by have h1 := HI1.out.rq.lt _ _ rfl; have h2 := (Ac.lg_bd EW.out).2; rw [E2.out]; omega
      have C2 := isAt_any w.heap.size 0 r.ao r.n r.cap r.vs 3 wr (HT.out.pb.cell 0) (HT.out.hr.below HT.out.blw)
      have C2' := isAt_any w.heap.size 2 s.ao s.n s.cap s.vs 2 wr (HT.out.pb.cell 2) (HT.out.hs.below HT.out.blw)
      by_cases kv : v.kind = 3
      · have ha : atK r.vs 3 = true := by rw [hrv]; simp [atK, kv]
        rw [ha] at C2
        have C2 : Hid (Calls Tryz.prog 123 #[.pointer (some ⟨w.heap.size, 0, none⟩), .int .i64 3] wr fun e w' => e = .returned (.bool true) ∧ w' = wr) := C2
        clear C2' ha
        obtain ⟨q, hq⟩ : ∃ q : Nat, lgV v - r.g = q := ⟨(lgV v - r.g).toNat, by omega⟩
        have hq1 : 1 ≤ q := by omega
        have hqe : lgV v = ((r.g + q : Nat) : Int) := by omega
        have C3 : Hid (Calls Tryz.prog 109 #[.pointer (some ⟨w.heap.size, 0, none⟩)] wr fun e w' => e = .returned (.agg #[.int .i64 (pieceV v r.g q).kind, .int .i64 (pieceV v r.g q).n, .slice (pieceV v r.g q).ao (pieceV v r.g q).m (pieceV v r.g q).cap, .int .i64 (pieceV v r.g q).set, .int .i64 (pieceV v r.g q).clr, .bool (pieceV v r.g q).goes, .string (pieceV v r.g q).link]) ∧ Blk w' w.heap.size (prC (r.next v t q) s) 126 ∧ Kept wr w' [w.heap.size]) := takePart0_any w.heap.size r s v t q wr HT.out.pb (HO1.out.below HT.out.blw) (HO1.out.off (Nat.le_refl _)) hq1 hqe (by omega)
        have HPU : Hid (Pvt w (pieceV v r.g q)) := (HO1.out.pts v (List.mem_cons_self ..)).piece hq1 (fun k => by have h := hqe; unfold lgV at h; rw [if_pos k] at h; omega)
        have HNO : Hid (RV.ok w (r.next v t q)) := RV.next_ok HO1.out q
        have HIN : Hid (Ac.JoinI A B ((r.next v t q).vs.map PV.pt) (r.next v t q).g (s.vs.map PV.pt) s.g ((ux ++ [pieceV v r.g q]).map PV.pt)) := by
          have h := HI1.out.cutA kv
          have hE : r.g + q = Ac.lg v.pt := by have := E1.out; omega
          have hqq : Ac.lg v.pt - r.g = q := by omega
          rw [hqq] at h
          have hn := next_pt (r := r) (t := t) (HO1.out.pts v (List.mem_cons_self ..)) EV.out q
          show Ac.JoinI _ _ _ _ _ _ _
          rw [hn.1, hn.2, Ac.nxtP_end hE, Ac.nxtG_end hE, hsv]
          simp only [List.map_append, List.map_cons, List.map_nil, pieceV_pt]
          exact h
        have hml : ux.length ≤ 80 := by have h1 := HI.out.lx; have h3 := HF.out; rw [List.length_map] at h1; omega
        have HLES : Hid ((r.next v t q).vs.length < r.vs.length) := by
          have hE : ((r.g + q : Nat) : Int) = lgV v := hqe.symm
          show _ < _
          unfold RV.next
          rw [if_pos hE, hrv]
          simp
        clear hqe hq1 E1 E2 EV EW HI1 hrv hsv kv hl1 hl2
        generalize pieceV v r.g q = u at *
        generalize r.next v t q = nx at *
        go_wp2_with fail
        refine C1.out.mono ?_
        rintro e w1 ⟨rfl, hw⟩
        obtain rfl := hw.symm
        go_wp2_with fail
        refine C2.out.mono ?_
        rintro e w1 ⟨rfl, hw⟩
        obtain rfl := hw.symm
        go_wp2_with fail
        refine C3.out.mono ?_
        rintro e w2 ⟨rfl, hb2, hk2⟩
        have HT2 : Hid (JoinW w w2 nx s u3 ux) := HT.out.pair hk2 hb2 HNO.out HT.out.hs
        have HT3 : Hid (JoinW w (boxp u w2) nx s u3 ux) := HT2.out.under (boxp_below u w2)
        have HSO : Hid (Ops (boxp u w2) (some ⟨w2.heap.size, 0, none⟩) 1 1 [u]) := ops_one (HPU.out.below HT2.out.blw)
        clear hb2 hk2 C1 C2 C3
        obtain ⟨xl, hxl⟩ : ∃ xl, ux.length = xl := ⟨_, rfl⟩
        rw [hxl] at hml
        have HXL : Hid (ux.length = xl) := hxl
        clear hxl
        have HOX : Hid ((boxp u w2).ownsRow (w.heap.size + 1) 97 7 u3 xl (pvCells ux)) := by have := HT3.out.mx; rw [HXL.out] at this; exact this
        have hs3 : w.heap.size + 1 ≤ (boxp u w2).heap.size := HT3.out.pb.lt
        go_wp2_with (at_builtin; refine wpList_append_row (boxp u w2) rfl (.tmp 12) (.tmp 15) 28 rfl (w.heap.size + 1) 97 i0 (.agg #[.int .i64 0, .int .i64 0, .slice none 0 0, .int .i64 0, .int .i64 0, .bool false, .string ⟨#[]⟩]) 7 80 Tryz.underlying28 hi hz0 hz1 hz2 rfl (by decide) u3 xl (pvCells ux) rfl HOX.out (some ⟨w2.heap.size, 0, none⟩) 1 1 (pvCells [u]) rfl HSO.out.row (pvCells_oneCell _) (by unfold maxLen; omega) (by omega) hs3 ?_)
        intro xv w4 hown4 hg4 hat4
        have hlf := low_far HT3.out.mx HPU.out
        have HT5 : Hid (JoinW w w4 nx s xv (ux ++ [u])) := HT3.out.grow (us := [u]) (m := xl + 1) HSO.out.pts (fun z hz => by rw [List.mem_singleton.1 hz]; exact hlf.1) (fun z hz => by rw [List.mem_singleton.1 hz]; exact hlf.2) (by rw [List.length_append, HXL.out]; rfl) hown4 hg4 hat4
        clear hown4 hg4 hat4 hlf
        go_wp2
        go_roundw
        case rel => exact ⟨_, _, _, HT5.out, HIN.out⟩
        case measure => have h1 := HT.out.left; have h2 := HT5.out.left; have h3 := HLES.out; omega
      · have ha : atK r.vs 3 = false := by rw [hrv]; simp [atK, kv]
        rw [ha] at C2
        have C2 : Hid (Calls Tryz.prog 123 #[.pointer (some ⟨w.heap.size, 0, none⟩), .int .i64 3] wr fun e w' => e = .returned (.bool false) ∧ w' = wr) := C2
        clear ha
        by_cases kw : v'.kind = 2
        · have ha : atK s.vs 2 = true := by rw [hsv]; simp [atK, kw]
          rw [ha] at C2'
          have C2' : Hid (Calls Tryz.prog 123 #[.pointer (some ⟨w.heap.size, 2, none⟩), .int .i64 2] wr fun e w' => e = .returned (.bool true) ∧ w' = wr) := C2'
          clear ha
          obtain ⟨q, hq⟩ : ∃ q : Nat, lgV v' - s.g = q := ⟨(lgV v' - s.g).toNat, by omega⟩
          have hq1 : 1 ≤ q := by omega
          have hqe : lgV v' = ((s.g + q : Nat) : Int) := by omega
          have C3 : Hid (Calls Tryz.prog 109 #[.pointer (some ⟨w.heap.size, 2, none⟩)] wr fun e w' => e = .returned (.agg #[.int .i64 (pieceV v' s.g q).kind, .int .i64 (pieceV v' s.g q).n, .slice (pieceV v' s.g q).ao (pieceV v' s.g q).m (pieceV v' s.g q).cap, .int .i64 (pieceV v' s.g q).set, .int .i64 (pieceV v' s.g q).clr, .bool (pieceV v' s.g q).goes, .string (pieceV v' s.g q).link]) ∧ Blk w' w.heap.size (prC r (s.next v' t' q)) 126 ∧ Kept wr w' [w.heap.size]) := takePart2_any w.heap.size r s v' t' q wr HT.out.pb (HO2.out.below HT.out.blw) (HO2.out.off (Nat.le_refl _)) hq1 hqe (by omega)
          have HPU : Hid (Pvt w (pieceV v' s.g q)) := (HO2.out.pts v' (List.mem_cons_self ..)).piece hq1 (fun k => by have h := hqe; unfold lgV at h; rw [if_pos k] at h; omega)
          have HNO : Hid (RV.ok w (s.next v' t' q)) := RV.next_ok HO2.out q
          have HIN : Hid (Ac.JoinI A B (r.vs.map PV.pt) r.g ((s.next v' t' q).vs.map PV.pt) (s.next v' t' q).g ((ux ++ [pieceV v' s.g q]).map PV.pt)) := by
            have h := HI1.out.putB kv kw
            have hE : s.g + q = Ac.lg v'.pt := by have := E2.out; omega
            have hqq : Ac.lg v'.pt - s.g = q := by omega
            rw [hqq] at h
            have hn := next_pt (r := s) (t := t') (HO2.out.pts v' (List.mem_cons_self ..)) EW.out q
            show Ac.JoinI _ _ _ _ _ _ _
            rw [hn.1, hn.2, Ac.nxtP_end hE, Ac.nxtG_end hE, hrv]
            simp only [List.map_append, List.map_cons, List.map_nil, pieceV_pt]
            exact h
          have hml : ux.length ≤ 80 := by have h1 := HI.out.lx; have h3 := HF.out; rw [List.length_map] at h1; omega
          have HLES : Hid ((s.next v' t' q).vs.length < s.vs.length) := by
            have hE : ((s.g + q : Nat) : Int) = lgV v' := hqe.symm
            show _ < _
            unfold RV.next
            rw [if_pos hE, hsv]
            simp
          clear hqe hq1 E1 E2 EV EW HI1 hrv hsv kv kw hl1 hl2
          generalize pieceV v' s.g q = u at *
          generalize s.next v' t' q = nx at *
          go_wp2_with fail
          refine C1.out.mono ?_
          rintro e w1 ⟨rfl, hw⟩
          obtain rfl := hw.symm
          go_wp2_with fail
          refine C2.out.mono ?_
          rintro e w1 ⟨rfl, hw⟩
          obtain rfl := hw.symm
          go_wp2_with fail
          refine C2'.out.mono ?_
          rintro e w1 ⟨rfl, hw⟩
          obtain rfl := hw.symm
          go_wp2_with fail
          refine C3.out.mono ?_
          rintro e w2 ⟨rfl, hb2, hk2⟩
          have HT2 : Hid (JoinW w w2 r nx u3 ux) := HT.out.pair hk2 hb2 HT.out.hr HNO.out
          have HT3 : Hid (JoinW w (boxp u w2) r nx u3 ux) := HT2.out.under (boxp_below u w2)
          have HSO : Hid (Ops (boxp u w2) (some ⟨w2.heap.size, 0, none⟩) 1 1 [u]) := ops_one (HPU.out.below HT2.out.blw)
          clear hb2 hk2 C1 C2 C3
          obtain ⟨xl, hxl⟩ : ∃ xl, ux.length = xl := ⟨_, rfl⟩
          rw [hxl] at hml
          have HXL : Hid (ux.length = xl) := hxl
          clear hxl
          have HOX : Hid ((boxp u w2).ownsRow (w.heap.size + 1) 97 7 u3 xl (pvCells ux)) := by have := HT3.out.mx; rw [HXL.out] at this; exact this
          have hs3 : w.heap.size + 1 ≤ (boxp u w2).heap.size := HT3.out.pb.lt
          go_wp2_with (at_builtin; refine wpList_append_row (boxp u w2) rfl (.tmp 20) (.tmp 23) 28 rfl (w.heap.size + 1) 97 i0 (.agg #[.int .i64 0, .int .i64 0, .slice none 0 0, .int .i64 0, .int .i64 0, .bool false, .string ⟨#[]⟩]) 7 80 Tryz.underlying28 hi hz0 hz1 hz2 rfl (by decide) u3 xl (pvCells ux) rfl HOX.out (some ⟨w2.heap.size, 0, none⟩) 1 1 (pvCells [u]) rfl HSO.out.row (pvCells_oneCell _) (by unfold maxLen; omega) (by omega) hs3 ?_)
          intro xv w4 hown4 hg4 hat4
          have hlf := low_far HT3.out.mx HPU.out
          have HT5 : Hid (JoinW w w4 r nx xv (ux ++ [u])) := HT3.out.grow (us := [u]) (m := xl + 1) HSO.out.pts (fun z hz => by rw [List.mem_singleton.1 hz]; exact hlf.1) (fun z hz => by rw [List.mem_singleton.1 hz]; exact hlf.2) (by rw [List.length_append, HXL.out]; rfl) hown4 hg4 hat4
          clear hown4 hg4 hat4 hlf
          go_wp2
          go_roundw
          case rel => exact ⟨_, _, _, HT5.out, HIN.out⟩
          case measure => have h1 := HT.out.left; have h2 := HT5.out.left; have h3 := HLES.out; omega
        · have ha : atK s.vs 2 = false := by rw [hsv]; simp [atK, kw]
          rw [ha] at C2'
          have C2' : Hid (Calls Tryz.prog 123 #[.pointer (some ⟨w.heap.size, 2, none⟩), .int .i64 2] wr fun e w' => e = .returned (.bool false) ∧ w' = wr) := C2'
          clear ha
          obtain ⟨q, hmin⟩ : ∃ q : Nat, min (lgV v - r.g) (lgV v' - s.g) = q := ⟨(min (lgV v - r.g) (lgV v' - s.g)).toNat, by omega⟩
          have hq1 : 1 ≤ q := by omega
          have hqa : ((r.g + q : Nat) : Int) ≤ lgV v := by omega
          have hqb : ((s.g + q : Nat) : Int) ≤ lgV v' := by omega
          have C3 : Hid (Calls Tryz.prog 111 #[.pointer (some ⟨w.heap.size, 0, none⟩)] wr fun e w' => e = .returned (.agg #[.int .i64 (pieceV v r.g q).kind, .int .i64 (pieceV v r.g q).n, .slice (pieceV v r.g q).ao (pieceV v r.g q).m (pieceV v r.g q).cap, .int .i64 (pieceV v r.g q).set, .int .i64 (pieceV v r.g q).clr, .bool (pieceV v r.g q).goes, .string (pieceV v r.g q).link, .int .i64 (pieceV v' s.g q).kind, .int .i64 (pieceV v' s.g q).n, .slice (pieceV v' s.g q).ao (pieceV v' s.g q).m (pieceV v' s.g q).cap, .int .i64 (pieceV v' s.g q).set, .int .i64 (pieceV v' s.g q).clr, .bool (pieceV v' s.g q).goes, .string (pieceV v' s.g q).link]) ∧ Blk w' w.heap.size (prC (r.next v t q) (s.next v' t' q)) 126 ∧ Kept wr w' [w.heap.size]) := takeBoth_any w.heap.size r s v t v' t' q w wr HT.out.blw (Nat.le_refl _) HT.out.pb HO1.out HO2.out hq1 hqa hqb (by omega) (by omega) hmin
          have HPU : Hid (Pvt w (pieceV v r.g q)) := (HO1.out.pts v (List.mem_cons_self ..)).piece hq1 (fun k => by have h := hqa; unfold lgV at h; rw [if_pos k] at h; omega)
          have HPW : Hid (Pvt w (pieceV v' s.g q)) := (HO2.out.pts v' (List.mem_cons_self ..)).piece hq1 (fun k => absurd k kw)
          have hn1 := next_pt (r := r) (t := t) (HO1.out.pts v (List.mem_cons_self ..)) EV.out q
          have hn2 := next_pt (r := s) (t := t') (HO2.out.pts v' (List.mem_cons_self ..)) EW.out q
          have hqn : q = min (Ac.lg v.pt - r.g) (Ac.lg v'.pt - s.g) := by have h1 := E1.out; have h2 := E2.out; omega
          have HIN : Hid (∀ us : List PV, us.map PV.pt = Ac.oneX (pieceV v r.g q).pt (pieceV v' s.g q).pt → Ac.JoinI A B ((r.next v t q).vs.map PV.pt) (r.next v t q).g ((s.next v' t' q).vs.map PV.pt) (s.next v' t' q).g ((ux ++ us).map PV.pt)) := fun us hus => by
            have h := HI1.out.both kv kw hqn
            rw [hn1.1, hn1.2, hn2.1, hn2.2, List.map_append, hus, pieceV_pt, pieceV_pt]
            exact h
          have HLES : Hid ((r.next v t q).vs.length + (s.next v' t' q).vs.length < r.vs.length + s.vs.length) := by
            have h := Ac.nxt_less (p := v.pt) (q := v'.pt) (t := t.map PV.pt) (u := t'.map PV.pt) (g := r.g) (h := s.g) (n := q) (by have h1 := E1.out; have h2 := E2.out; omega)
            rw [← hn1.1, ← hn2.1] at h
            simp only [List.length_map] at h
            show _ < _
            rw [hrv, hsv]
            simp only [List.length_cons]
            omega
          have hml : ux.length ≤ 80 := by have h1 := HI.out.lx; have h3 := HF.out; rw [List.length_map] at h1; omega
          have EP : Ac.err1 (pieceV v r.g q).pt = 0 := by rw [pieceV_pt]; exact Ac.piece_err EV.out hq1 (by have := E1.out; omega)
          have EQ : Ac.err1 (pieceV v' s.g q).pt = 0 := by rw [pieceV_pt]; exact Ac.piece_err EW.out hq1 (by have := E2.out; omega)
          have hk1 : (pieceV v r.g q).kind = 1 ∨ (pieceV v r.g q).kind = 2 := by
            have e : (pieceV v r.g q).kind = v.kind := congrArg Ac.Pt.kind (pieceV_pt v r.g q) |>.trans (Ac.piece_kind ..)
            rw [e]
            rcases Ac.kind_of EV.out with h | h | h
            · exact .inl h
            · exact .inr h
            · exact absurd h kv
          have hk2 : (pieceV v' s.g q).kind = 1 ∨ (pieceV v' s.g q).kind = 3 := by
            have e : (pieceV v' s.g q).kind = v'.kind := congrArg Ac.Pt.kind (pieceV_pt v' s.g q) |>.trans (Ac.piece_kind ..)
            rw [e]
            rcases Ac.kind_of EW.out with h | h | h
            · exact .inl h
            · exact absurd h kw
            · exact .inr h
          have C4 : Hid (∀ w', Below w.heap.size w w' → Calls Tryz.prog 124 #[.agg #[.int .i64 (pieceV v r.g q).kind, .int .i64 (pieceV v r.g q).n, .slice (pieceV v r.g q).ao (pieceV v r.g q).m (pieceV v r.g q).cap, .int .i64 (pieceV v r.g q).set, .int .i64 (pieceV v r.g q).clr, .bool (pieceV v r.g q).goes, .string (pieceV v r.g q).link, .int .i64 (pieceV v' s.g q).kind, .int .i64 (pieceV v' s.g q).n, .slice (pieceV v' s.g q).ao (pieceV v' s.g q).m (pieceV v' s.g q).cap, .int .i64 (pieceV v' s.g q).set, .int .i64 (pieceV v' s.g q).clr, .bool (pieceV v' s.g q).goes, .string (pieceV v' s.g q).link]] w' fun e w'' => (∃ a0 n0 c0 us, e = .returned (.slice a0 n0 c0) ∧ Ops w'' a0 n0 c0 us ∧ us.map PV.pt = Ac.oneX (pieceV v r.g q).pt (pieceV v' s.g q).pt ∧ us.length ≤ 1 ∧ ∀ u ∈ us, u.m = 0 ∨ High w'.heap.size u) ∧ Below w'.heap.size w' w'') := fun w' hb => aft_any _ _ w' (HPU.out.below hb) (HPW.out.below hb) hk1 hk2 EP EQ
          have HNO : Hid (RV.ok w (r.next v t q)) := RV.next_ok HO1.out q
          have HNP : Hid (RV.ok w (s.next v' t' q)) := RV.next_ok HO2.out q
          clear hmin hq1 hqa hqb E1 E2 EV EW HI1 hrv hsv kv kw hl1 hl2 hk1 hk2 EP EQ hn1 hn2 hqn HPU HPW HO1 HO2
          generalize Ac.oneX (pieceV v r.g q).pt (pieceV v' s.g q).pt = OX at *
          generalize pieceV v r.g q = u at *
          generalize pieceV v' s.g q = u' at *
          generalize r.next v t q = nx at *
          generalize s.next v' t' q = nx' at *
          go_wp2_with fail
          refine C1.out.mono ?_
          rintro e w1 ⟨rfl, hw⟩
          obtain rfl := hw.symm
          go_wp2_with fail
          refine C2.out.mono ?_
          rintro e w1 ⟨rfl, hw⟩
          obtain rfl := hw.symm
          go_wp2_with fail
          refine C2'.out.mono ?_
          rintro e w1 ⟨rfl, hw⟩
          obtain rfl := hw.symm
          go_wp2_with fail
          refine C3.out.mono ?_
          rintro e w2 ⟨rfl, hb2, hk2⟩
          have HT2 : Hid (JoinW w w2 nx nx' u3 ux) := HT.out.pair hk2 hb2 HNO.out HNP.out
          clear hb2 hk2 C1 C2 C2' C3
          go_wp2_with fail
          refine (C4.out _ HT2.out.blw).mono ?_
          rintro e w3 ⟨⟨a0, n0, c0, us, rfl, o0, hpt, hl0, hfr⟩, hb3⟩
          have HT3 : Hid (JoinW w w3 nx nx' u3 ux) := HT2.out.under hb3
          have HSO : Hid (Ops w3 a0 n0 c0 us) := o0
          have HPT : Hid (us.map PV.pt = OX) := hpt
          have HFR : Hid (∀ u ∈ us, u.m = 0 ∨ High w2.heap.size u) := hfr
          have hn0 : n0 ≤ 1 := by have := o0.len; omega
          clear o0 hb3 C4 hpt hl0 hfr
          obtain ⟨xl, hxl⟩ : ∃ xl, ux.length = xl := ⟨_, rfl⟩
          rw [hxl] at hml
          have HXL : Hid (ux.length = xl) := hxl
          clear hxl
          have HOX : Hid (w3.ownsRow (w.heap.size + 1) 97 7 u3 xl (pvCells ux)) := by have := HT3.out.mx; rw [HXL.out] at this; exact this
          have hs3 : w.heap.size + 1 ≤ w3.heap.size := HT3.out.pb.lt
          go_wp2_with (at_builtin; refine wpList_append_row w3 rfl (.tmp 5) (.tmp 7) 28 rfl (w.heap.size + 1) 97 i0 (.agg #[.int .i64 0, .int .i64 0, .slice none 0 0, .int .i64 0, .int .i64 0, .bool false, .string ⟨#[]⟩]) 7 80 Tryz.underlying28 hi hz0 hz1 hz2 rfl (by decide) u3 xl (pvCells ux) rfl HOX.out a0 n0 c0 (pvCells us) rfl HSO.out.row (pvCells_oneCell _) (by unfold maxLen; omega) (by omega) hs3 ?_)
          intro xv w4 hown4 hg4 hat4
          have hlf : ∀ z ∈ us, Far z u3 ∧ ∀ a : Addr, z.m ≠ 0 → z.ao = some a → a.block ≠ w.heap.size := fun z hz => high_far HT2.out.mx HT2.out.pb.lt (HFR.out z hz)
          have HT5 : Hid (JoinW w w4 nx nx' xv (ux ++ us)) := HT3.out.grow (us := us) (m := xl + n0) HSO.out.pts (fun z hz => (hlf z hz).1) (fun z hz => (hlf z hz).2) (by rw [List.length_append, HXL.out, HSO.out.len]) hown4 hg4 hat4
          clear hown4 hg4 hat4 hlf
          go_wp2
          go_roundw
          case rel => exact ⟨_, _, _, HT5.out, HIN.out us HPT.out⟩
          case measure => have h1 := HT.out.left; have h2 := HT5.out.left; have h3 := HLES.out; omega
end Go.Proofs.YtaigleblmbblcaaGreatDoor

/-
  TokenSafe: of what is written of a document the tags are its own, in order, and the texts are its characters.
-/
import Derived.Test.YtdlacdoakkklaabDoorTn
import Derived.Test.YtdlacdoakkklaabDoorTs
import Derived.Test.YtdlacdoakkklaabDoorXq
import Derived.Test.YtdlacdoakkklaabDoorMay
import Derived.Lib.SlicesS
namespace Go.Proofs.YtdlacdoakkklaabDoor
open Go.RowKit

theorem good_of {l : List It} (h : Dc.check l = 0) : ∀ x ∈ l, Tk.Good x := by
  have h80 := Dc.check_ok h
  by_cases h0 : Dc.errs l = 0
  · intro x hx
    have he := errs_all h0 x hx
    unfold Dc.err at he
    by_cases h1 : (!Dc.ends x && !Dc.isChar x) = true
    · rw [if_pos h1] at he; cases he
    rw [if_neg h1] at he
    by_cases h2 : (!Dc.marks x) = true
    · rw [if_pos h2] at he; cases he
    rw [if_neg h2] at he
    by_cases h3 : (!Dc.link x) = true
    · rw [if_pos h3] at he; cases he
    have hm : Dc.marks x = true := by simpa using h2
    have hl : Dc.link x = true := by simpa using h3
    unfold Dc.marks at hm
    simp only [Bool.and_eq_true, decide_eq_true_eq] at hm
    unfold Dc.link at hl
    simp only [Bool.or_eq_true, Bool.and_eq_true] at hl
    exact ⟨hm.1, hm.2, hl.imp id (fun h => h.2)⟩
  · rw [Dc.check_errs (by omega) h0] at h
    exact absurd h h0
theorem page_few {l : List It} (h : Dc.check l = 0) : (Pg.page l).length ≤ 20000 := by
  have d := docu_of h
  have := Pg.page_len l (fun x hx => (d.fine x hx).short)
  have := d.few
  omega
/-- What the law's own check comes to. -/
theorem chk_page {l : List It} (h : Dc.check l = 0) : Tk.chk (Tk.toks (Pg.page l)) [] [] = some ([], Tk.chars l) := by
  obtain ⟨k, x, rfl, he⟩ := (docu_of h).last
  exact Tk.safe k x he (good_of h)
theorem chars_len {l : List It} (h : Dc.check l = 0) : (Tk.chars l).length ≤ 80 := by
  have := (docu_of h).few
  unfold Tk.chars
  rw [List.length_map]
  have := List.length_filter_le (fun x => !Dc.ends x) l
  omega
theorem byt_world (w : World) (s : ByteArray) (hs : s.size ≤ 20000) : Byt (Lib.bytesWorld w 5 s) (some ⟨w.heap.size, 0, none⟩) s.size (grownCap w s.size 0 5) s.data.toList := by
  have hS := SBuf.start w s
  have hc := grownCap_le_maxLen w s.size 0 5 (by unfold maxLen; omega)
  refine ⟨by simp, grownCap_ge w s.size 0 5, by unfold maxLen at hc; exact hc, fun _ => ⟨_, _, rfl, fun j u hu => ?_⟩⟩
  have hj : j < s.data.toList.length := by
    have := (List.getElem?_eq_some_iff.1 hu).1
    simpa using this
  rw [Nat.zero_add, hS.cell j hj, ← hu, List.getElem?_map, List.getElem?_eq_getElem hj]
  rfl
def sB (x : List UInt8) : Value := .string (B x)
theorem Tryd.infStr : (Tryd.prog.info? 9).map (fun i => (i.zero, i.size, i.bytes)) = some (some (.string ⟨#[]⟩), 1, 16) := by kernel_rfl
theorem own_str {w : World} {B0 : Nat} {v : Value} {o : List (List UInt8)} (h : w.ownsRow B0 9 1 v o.length (o.map sB)) (h0 : o ≠ []) : ∃ g c, v = .slice (some ⟨g, 0, none⟩) o.length c ∧ o.length ≤ c ∧ ∀ j (hj : j < o.length), w.cell? ⟨g, j, none⟩ = some (.string (B o[j])) := by
  rcases h.2 with ⟨_, hn⟩ | ⟨g, c, cur, hv, _, _, hc, _⟩
  · exact absurd (List.length_eq_zero_iff.1 hn) h0
  · refine ⟨g, c, hv, hc, fun j hj => ?_⟩
    have := h.cells (g := g) (by rw [hv]; rfl) j (sB o[j]) (by simp [List.getElem?_eq_getElem hj])
    have e : (⟨g, 0, none⟩ : Addr).add j = ⟨g, j, none⟩ := by unfold Addr.add; split <;> simp_all
    rw [e] at this
    exact this
theorem own_none {w : World} {B0 : Nat} {v : Value} (h : w.ownsRow B0 9 1 v 0 []) : ∃ a c, v = .slice a 0 c := by
  rcases h.2 with ⟨hv, _⟩ | ⟨g, c, cur, hv, _⟩
  · exact ⟨none, 0, hv⟩
  · exact ⟨_, c, hv⟩
theorem own_drop {w : World} {B0 g c n : Nat} {xs : List Value} (h : w.ownsRow B0 9 1 (.slice (some ⟨g, 0, none⟩) (n + 1) c) (n + 1) xs) : w.ownsRow B0 9 1 (.slice (some ⟨g, 0, none⟩) n c) n (xs.take n) := by
  have hl := h.1
  refine ⟨by rw [List.length_take]; omega, ?_⟩
  rcases h.2 with ⟨hv, _⟩ | ⟨g', c', cur, hv, hb, hh, h1, h2, h3, h4⟩
  · cases hv
  · cases hv
    refine .inr ⟨_, _, cur, rfl, hb, hh, by omega, h2, h3, ?_⟩
    rw [← h4, List.take_take]
    congr 1
    omega
def nmB : List ByteArray := [⟨#[112]⟩, ⟨#[104, 49]⟩, ⟨#[104, 50]⟩, ⟨#[108, 105]⟩, ⟨#[117, 108]⟩, ⟨#[97]⟩, ⟨#[98]⟩, ⟨#[105]⟩]
theorem nm_in (x : List UInt8) : Lib.containsS (nmB.take 8) (B x) = Tk.names.contains x := by
  have e : nmB.take 8 = Tk.names.map B := rfl
  rw [e]
  cases h : Tk.names.contains x
  · rw [Bool.eq_false_iff]
    intro hc
    obtain ⟨y, hy, hb⟩ := List.mem_map.1 ((Lib.containsS_iff _ _).1 hc)
    rw [B_inj hb] at hy
    rw [List.contains_eq_mem] at h
    simp [hy] at h
  · rw [Lib.containsS_iff]
    exact List.mem_map.2 ⟨x, by simpa using h, rfl⟩
theorem op_in (o : List (List UInt8)) (x : List UInt8) : Lib.containsS ((o.map B).take o.length) (B x) = o.contains x := by
  rw [List.take_of_length_le (by simp)]
  cases h : o.contains x
  · rw [Bool.eq_false_iff]
    intro hc
    obtain ⟨y, hy, hb⟩ := List.mem_map.1 ((Lib.containsS_iff _ _).1 hc)
    rw [B_inj hb] at hy
    rw [List.contains_eq_mem] at h
    simp [hy] at h
  · rw [Lib.containsS_iff]
    exact List.mem_map.2 ⟨x, by simpa using h, rfl⟩
/-- slices.Contains of what is open. -/
theorem cont_any (B0 : Nat) (v : Value) (o : List (List UInt8)) (x : List UInt8) (w : World) (h : w.ownsRow B0 9 1 v o.length (o.map sB)) (hl : o.length ≤ 100000) :
    Calls Tryd.prog 8 #[v, .string (B x)] w fun e w' => e = .returned (.bool (o.contains x)) ∧ w' = w := by
  by_cases h0 : o = []
  · subst h0
    obtain ⟨a, c, rfl⟩ := own_none h
    exact Tryd.slices_Contains_string_empty a c (B x) w
  · obtain ⟨g, c, rfl, _, hc⟩ := own_str h h0
    have := Tryd.slices_Contains_string g 0 o.length c (o.map B) (B x) w (by simp) (by omega) (fun j hj => by
      rw [Nat.zero_add]
      have hj' : j < o.length := by simpa using hj
      rw [hc j hj']
      simp [List.getD_eq_getElem?_getD, List.getElem?_eq_getElem hj'])
    rw [op_in] at this
    exact this
/-- What is known in a later world. -/
structure SAt (w : World) (ao : Option Addr) (n cap : Nat) (l : List It) (wr : World) : Prop where
  below : Below w.heap.size w wr
  doc : Doc wr ao n cap l
  tabs : Tabs wr
  env : Env wr wr.heap.size
theorem SAt.far {w : World} {ao : Option Addr} {n cap : Nat} {l : List It} {wr w2 : World} (h : SAt w ao n cap l wr) (hb : Below wr.heap.size wr w2) : SAt w ao n cap l w2 :=
  ⟨h.below.trans (hb.mono h.below.size), h.doc.below hb, h.tabs.below hb, h.env.top hb⟩

set_option maxRecDepth 100000 in
set_option maxHeartbeats 1600000 in
theorem tsafe_any (ao : Option Addr) (n cap : Nat) (l : List It) (w : World) (hD : Doc w ao n cap l) (hT : Tabs w) (hE : Env w w.heap.size) :
    Calls Tryd.prog 3 #[.slice ao n cap] w fun e w' => e = .returned (.bool true) ∧ Below w.heap.size w w' := by
  have CT : Hid (∀ w', Env w' w'.heap.size → Calls Tryd.prog 7 #[] w' fun e w2 => e = .returned (.bool true) ∧ Below w'.heap.size w' w2) := fun w' h => torn_any w' h
  have HP0 : Hid (SAt w ao n cap l w) := ⟨Below.refl _ _, hD, hT, hE⟩
  have C1 : Hid (Calls Tryd.prog 5 #[.slice ao n cap] w fun e w' => e = .returned (.tuple #[.string (B (Dc.page l)), .int .i64 (Dc.check l)]) ∧ Below w.heap.size w w') := page_any ao n cap l w hD hT
  have hpl : (Dc.page l).length ≤ 20000 := by
    unfold Dc.page
    split
    · exact page_few (by assumption)
    · simp
  clear hD hT hE
  obtain ⟨pg, hpg⟩ : ∃ pg, Dc.page l = pg := ⟨_, rfl⟩
  have HPG : Hid (Dc.page l = pg) := hpg
  rw [hpg] at C1 hpl
  clear hpg
  obtain ⟨ck, hck⟩ : ∃ ck, Dc.check l = ck := ⟨_, rfl⟩
  have HCK : Hid (Dc.check l = ck) := hck
  rw [hck] at C1
  clear hck
  have zp := B_size pg
  go_enter Tryd.func3, Tryd.ntmps3
  go_wp2_with fail
  refine C1.out.mono ?_
  rintro e w1 ⟨rfl, hb⟩
  have HP1 : Hid (SAt w ao n cap l w1) := HP0.out.far hb
  clear hb
  have hcv := Lib.run_convert_string_bytes (P := Tryd.prog) w1 9 30 5 (B pg) Tryd.underlying9 Tryd.underlying30 Tryd.underlying5
  have hby := byt_world w1 (B pg) (by rw [zp]; exact hpl)
  have hbw : Below w1.heap.size w1 (Lib.bytesWorld w1 5 (B pg)) := (SBuf.start w1 (B pg)).below
  have HP2 : Hid (SAt w ao n cap l (Lib.bytesWorld w1 5 (B pg))) := HP1.out.far hbw
  rw [zp] at hcv hby
  rw [B_data] at hby
  obtain ⟨T, hTT⟩ : ∃ T, Tk.toks pg = T := ⟨_, rfl⟩
  have HTT : Hid (Tk.toks pg = T) := hTT
  have hTl : T.length ≤ 20000 := by rw [← hTT]; have := Tk.toks_len pg; omega
  generalize Lib.bytesWorld w1 5 (B pg) = w2 at *
  generalize grownCap w1 pg.length 0 5 = cap2 at *
  have CP := tpage_ok _ pg.length cap2 pg w2 hby HP2.out.env hpl
  rw [hTT] at CP
  obtain ⟨nT, hnT⟩ : ∃ nT, T.length = nT := ⟨_, rfl⟩
  have HNT : Hid (T.length = nT) := hnT
  rw [hnT] at CP hTl
  have HCP : Hid (Calls Tryd.prog 6 #[.slice (some ⟨w1.heap.size, 0, none⟩) pg.length cap2] w2 fun e w' => (∃ ao' cap', e = .returned (.tuple #[.slice ao' nT cap', .int .i64 0]) ∧ Tks w' ao' nT cap' T) ∧ Below w2.heap.size w2 w') := CP
  clear CP hTT hnT hby hbw
  go_wp2_with fail
  refine HCP.out.mono ?_
  rintro e w3 ⟨⟨ao3, cap3, rfl, h3⟩, hb⟩
  have HP3 : Hid (SAt w ao n cap l w3) := HP2.out.far hb
  have H3 : Hid (Tks w3 ao3 nT cap3 T) := h3
  clear h3 hb HCP hcv
  go_wp2_with fail
  refine (CT.out w3 HP3.out.env).mono ?_
  rintro e w4 ⟨rfl, hb⟩
  have HP4 : Hid (SAt w ao n cap l w4) := HP3.out.far hb
  have H4 : Hid (Tks w4 ao3 nT cap3 T) := H3.out.below hb
  have hroom := H3.out.room
  have hbig := H3.out.big
  clear hb
  by_cases h0 : ck = 0
  · have HK0 : Hid (Dc.check l = 0) := HCK.out.trans h0
    subst h0
    have hfin := chk_page HK0.out
    have hfl := chars_len HK0.out
    have hpgl : Pg.page l = pg := by have := HPG.out; unfold Dc.page at this; rw [if_pos HK0.out] at this; exact this
    rw [hpgl, HTT.out] at hfin
    obtain ⟨fin, hfn⟩ : ∃ fin, Tk.chars l = fin := ⟨_, rfl⟩
    have HFN : Hid (Tk.chars l = fin) := hfn
    rw [hfn] at hfin hfl
    have HFIN : Hid (Tk.chk T [] [] = some ([], fin)) := hfin
    clear hfin hfn hpgl
    go_wp2
    obtain ⟨i0, hif, hz0, hz1, hz2⟩ := info_parts Tryd.infStr
    go_loopw [7, 8, 34] (fun v tx i wr => ∃ (k : Nat) (o : List (List UInt8)) (t : List UInt8), k ≤ nT ∧ i = .int .i64 k ∧ tx = .string (B t) ∧ wr.ownsRow w4.heap.size 9 1 v o.length (o.map sB) ∧ Tk.chk (T.drop k) o t = some ([], fin) ∧ Below w4.heap.size w4 wr ∧ o.length ≤ k) (fun _ _ i _ => nT - (intOf i).toNat)
    case atStart => exact ⟨0, [], [], Nat.zero_le _, rfl, rfl, World.ownsRow_nil _ _ _ _, HFIN.out, Below.refl _ _, Nat.le_refl _⟩
    case round =>
      obtain ⟨k, o, t, hk, rfl, rfl, ho, hchk, hbw, hok⟩ := hrel
      have HO : Hid (wr.ownsRow w4.heap.size 9 1 u7 o.length (o.map sB)) := ho
      have HBW : Hid (Below w4.heap.size w4 wr) := hbw
      have htl : t.length ≤ 80 := Nat.le_trans (Tk.chk_grows _ _ _ _ _ hchk) hfl
      have zt := B_size t
      clear ho hbw
      by_cases hlt : k < nT
      · have hkl : k < T.length := by rw [HNT.out]; exact hlt
        obtain ⟨b3, off3, rfl, hcl⟩ := H4.out.tok (by omega)
        obtain ⟨q0, q1, q2, q3⟩ := hcl k hkl
        have t0 := cell_under q0 HBW.out
        have t1 := cell_under q1 HBW.out
        have t2 := cell_under q2 HBW.out
        have t3 := cell_under q3 HBW.out
        rw [List.drop_eq_getElem_cons hkl] at hchk
        clear hcl q0 q1 q2 q3
        generalize T[k] = x at *
        clear hkl
        obtain ⟨kk, kn, kt, kh⟩ := x
        simp only at t0 t1 t2 t3
        have hb1 : Below wr.heap.size wr (wr.alloc (.cells (tkC ⟨kk, kn, kt, kh⟩).toArray 34)) := (Below.refl _ _).alloc (Nat.le_refl _) _
        have HB1 : Hid (Below wr.heap.size wr (wr.alloc (.cells (tkC ⟨kk, kn, kt, kh⟩).toArray 34))) := hb1
        have HBK : Hid (Blk (wr.alloc (.cells (tkC ⟨kk, kn, kt, kh⟩).toArray 34)) wr.heap.size (tkC ⟨kk, kn, kt, kh⟩) 34) := Blk.new wr (tkC ⟨kk, kn, kt, kh⟩) 34
        clear hb1
        rw [Tk.chk] at hchk
        simp only at hchk
        by_cases h1 : kk = 1
        · subst h1
          rw [if_pos (by rfl)] at hchk
          have HCH : Hid (Tk.chk (T.drop (k + 1)) o (t ++ kt) = some ([], fin)) := hchk
          have htk : (t ++ kt).length ≤ 80 := Nat.le_trans (Tk.chk_grows _ _ _ _ _ hchk) hfl
          rw [List.length_append] at htk
          have zk := B_size kt
          have HO1 : Hid ((wr.alloc (.cells (tkC ⟨1, kn, kt, kh⟩).toArray 34)).ownsRow w4.heap.size 9 1 u7 o.length (o.map sB)) := own_under HO.out HB1.out
          have HBW1 : Hid (Below w4.heap.size w4 (wr.alloc (.cells (tkC ⟨1, kn, kt, kh⟩).toArray 34))) := HBW.out.trans (HB1.out.mono HBW.out.size)
          clear hchk
          go_wp2
          go_roundw
          case rel => exact ⟨k + 1, o, t ++ kt, by omega, by go_num, by rw [← B_cat], HO1.out, HCH.out, HBW1.out, by omega⟩
          case measure => simp [intOf]; omega
        · rw [if_neg (by simpa using h1)] at hchk
          by_cases h2 : kk = 2
          · subst h2
            rw [if_pos (by rfl)] at hchk
            by_cases hop : Tk.okOpen o ⟨2, kn, kt, kh⟩ = true
            · rw [if_pos hop] at hchk
              have HCH : Hid (Tk.chk (T.drop (k + 1)) (o ++ [kn]) t = some ([], fin)) := hchk
              clear hchk
              unfold Tk.okOpen at hop
              simp only [Bool.and_eq_true] at hop
              obtain ⟨⟨⟨g1, g2⟩, g3⟩, g4⟩ := hop
              have G4 : Hid ((!o.contains kn) = true) := g4
              have zn := B_size kn
              have hbl2 : Below wr.heap.size wr ((wr.alloc (.cells (tkC ⟨2, kn, kt, kh⟩).toArray 34)).alloc (.cells #[.string ⟨#[112]⟩, .string ⟨#[104, 49]⟩, .string ⟨#[104, 50]⟩, .string ⟨#[108, 105]⟩, .string ⟨#[117, 108]⟩, .string ⟨#[97]⟩, .string ⟨#[98]⟩, .string ⟨#[105]⟩] 9)) := HB1.out.trans (((Below.refl _ _).alloc (Nat.le_refl _) _).mono HB1.out.size)
              have HB3 : Hid (Below w4.heap.size w4 ((wr.alloc (.cells (tkC ⟨2, kn, kt, kh⟩).toArray 34)).alloc (.cells #[.string ⟨#[112]⟩, .string ⟨#[104, 49]⟩, .string ⟨#[104, 50]⟩, .string ⟨#[108, 105]⟩, .string ⟨#[117, 108]⟩, .string ⟨#[97]⟩, .string ⟨#[98]⟩, .string ⟨#[105]⟩] 9))) := HBW.out.trans (hbl2.mono HBW.out.size)
              have HO3 : Hid (((wr.alloc (.cells (tkC ⟨2, kn, kt, kh⟩).toArray 34)).alloc (.cells #[.string ⟨#[112]⟩, .string ⟨#[104, 49]⟩, .string ⟨#[104, 50]⟩, .string ⟨#[108, 105]⟩, .string ⟨#[117, 108]⟩, .string ⟨#[97]⟩, .string ⟨#[98]⟩, .string ⟨#[105]⟩] 9)).ownsRow w4.heap.size 9 1 u7 o.length (o.map sB)) := own_under HO.out hbl2
              have C8 : Hid (Calls Tryd.prog 8 #[.slice (some ⟨wr.heap.size + 1, 0, none⟩) 8 8, .string (B kn)] ((wr.alloc (.cells (tkC ⟨2, kn, kt, kh⟩).toArray 34)).alloc (.cells #[.string ⟨#[112]⟩, .string ⟨#[104, 49]⟩, .string ⟨#[104, 50]⟩, .string ⟨#[108, 105]⟩, .string ⟨#[117, 108]⟩, .string ⟨#[97]⟩, .string ⟨#[98]⟩, .string ⟨#[105]⟩] 9)) fun e w' => e = .returned (.bool true) ∧ w' = ((wr.alloc (.cells (tkC ⟨2, kn, kt, kh⟩).toArray 34)).alloc (.cells #[.string ⟨#[112]⟩, .string ⟨#[104, 49]⟩, .string ⟨#[104, 50]⟩, .string ⟨#[108, 105]⟩, .string ⟨#[117, 108]⟩, .string ⟨#[97]⟩, .string ⟨#[98]⟩, .string ⟨#[105]⟩] 9))) := by
                have hk := Blk.newAt (wr.alloc (.cells (tkC ⟨2, kn, kt, kh⟩).toArray 34)) (wr.heap.size + 1) [.string ⟨#[112]⟩, .string ⟨#[104, 49]⟩, .string ⟨#[104, 50]⟩, .string ⟨#[108, 105]⟩, .string ⟨#[117, 108]⟩, .string ⟨#[97]⟩, .string ⟨#[98]⟩, .string ⟨#[105]⟩] 9 (by simp)
                have := Tryd.slices_Contains_string (wr.heap.size + 1) 0 8 8 nmB (B kn) ((wr.alloc (.cells (tkC ⟨2, kn, kt, kh⟩).toArray 34)).alloc (.cells #[.string ⟨#[112]⟩, .string ⟨#[104, 49]⟩, .string ⟨#[104, 50]⟩, .string ⟨#[108, 105]⟩, .string ⟨#[117, 108]⟩, .string ⟨#[97]⟩, .string ⟨#[98]⟩, .string ⟨#[105]⟩] 9)) (by decide) (by decide) (fun j hj => by
                  rw [Nat.zero_add]
                  have hj8 : j < 8 := hj
                  have e := hk.cell j
                  have : j = 0 ∨ j = 1 ∨ j = 2 ∨ j = 3 ∨ j = 4 ∨ j = 5 ∨ j = 6 ∨ j = 7 := by omega
                  rcases this with rfl | rfl | rfl | rfl | rfl | rfl | rfl | rfl <;> exact e)
                rw [nm_in, g1] at this
                exact this
              have d1 : ((wr.alloc (.cells (tkC ⟨2, kn, kt, kh⟩).toArray 34)).alloc (.cells #[.string ⟨#[112]⟩, .string ⟨#[104, 49]⟩, .string ⟨#[104, 50]⟩, .string ⟨#[108, 105]⟩, .string ⟨#[117, 108]⟩, .string ⟨#[97]⟩, .string ⟨#[98]⟩, .string ⟨#[105]⟩] 9)).cell? ⟨wr.heap.size, 1, none⟩ = some (.string (B kn)) := (HBK.out.alloc _).cell 1
              have d3 : ((wr.alloc (.cells (tkC ⟨2, kn, kt, kh⟩).toArray 34)).alloc (.cells #[.string ⟨#[112]⟩, .string ⟨#[104, 49]⟩, .string ⟨#[104, 50]⟩, .string ⟨#[108, 105]⟩, .string ⟨#[117, 108]⟩, .string ⟨#[97]⟩, .string ⟨#[98]⟩, .string ⟨#[105]⟩] 9)).cell? ⟨wr.heap.size, 3, none⟩ = some (.string (B kh)) := (HBK.out.alloc _).cell 3
              cases hkh : kh.isEmpty
              · have e2 : (B kh).toList.isEmpty = false := by rw [toList_B]; exact hkh
                have e1 : ((B kn).toList == [97]) = true := by rw [toList_B]; rw [hkh] at g2; simpa using g2
                have hmay : Lk.may kh = true := by rw [hkh] at g3; simpa using g3
                have hkl : kh.length ≤ 24 := by
                  unfold Lk.may at hmay
                  simp only [Bool.and_eq_true, decide_eq_true_eq] at hmay
                  exact hmay.1.1.2
                have C10 : Hid (Calls Tryd.prog 9 #[.string (B kh)] ((wr.alloc (.cells (tkC ⟨2, kn, kt, kh⟩).toArray 34)).alloc (.cells #[.string ⟨#[112]⟩, .string ⟨#[104, 49]⟩, .string ⟨#[104, 50]⟩, .string ⟨#[108, 105]⟩, .string ⟨#[117, 108]⟩, .string ⟨#[97]⟩, .string ⟨#[98]⟩, .string ⟨#[105]⟩] 9)) fun e w' => e = .returned (.bool true) ∧ Below ((wr.alloc (.cells (tkC ⟨2, kn, kt, kh⟩).toArray 34)).alloc (.cells #[.string ⟨#[112]⟩, .string ⟨#[104, 49]⟩, .string ⟨#[104, 50]⟩, .string ⟨#[108, 105]⟩, .string ⟨#[117, 108]⟩, .string ⟨#[97]⟩, .string ⟨#[98]⟩, .string ⟨#[105]⟩] 9)).heap.size ((wr.alloc (.cells (tkC ⟨2, kn, kt, kh⟩).toArray 34)).alloc (.cells #[.string ⟨#[112]⟩, .string ⟨#[104, 49]⟩, .string ⟨#[104, 50]⟩, .string ⟨#[108, 105]⟩, .string ⟨#[117, 108]⟩, .string ⟨#[97]⟩, .string ⟨#[98]⟩, .string ⟨#[105]⟩] 9)) w') := by
                  have := may_any (B kh) ((wr.alloc (.cells (tkC ⟨2, kn, kt, kh⟩).toArray 34)).alloc (.cells #[.string ⟨#[112]⟩, .string ⟨#[104, 49]⟩, .string ⟨#[104, 50]⟩, .string ⟨#[108, 105]⟩, .string ⟨#[117, 108]⟩, .string ⟨#[97]⟩, .string ⟨#[98]⟩, .string ⟨#[105]⟩] 9)) (by rw [B_size]; omega) ((HP4.out.far HB3.out).tabs.sch)
                  rw [B_data, hmay] at this
                  exact this
                clear hkh g1 g2 g3 g4 hmay hbl2
                go_wp2_with fail
                refine C8.out.mono ?_
                rintro e wx ⟨rfl, hw⟩
                rw [hw]
                clear hw wx
                go_wp2_with fail
                refine C10.out.mono ?_
                rintro e w5 ⟨rfl, hb⟩
                have HO5 : Hid (w5.ownsRow w4.heap.size 9 1 u7 o.length (o.map sB)) := own_under HO3.out hb
                have HB5 : Hid (Below w4.heap.size w4 w5) := HB3.out.trans (hb.mono HB3.out.size)
                have n1 : w5.cell? ⟨wr.heap.size, 1, none⟩ = some (.string (B kn)) := cell_under (((HBK.out.alloc _).cell 1 : ((wr.alloc (.cells (tkC ⟨2, kn, kt, kh⟩).toArray 34)).alloc (.cells #[.string ⟨#[112]⟩, .string ⟨#[104, 49]⟩, .string ⟨#[104, 50]⟩, .string ⟨#[108, 105]⟩, .string ⟨#[117, 108]⟩, .string ⟨#[97]⟩, .string ⟨#[98]⟩, .string ⟨#[105]⟩] 9)).cell? ⟨wr.heap.size, 1, none⟩ = _)) hb
                clear hb
                have C9 : Hid (Calls Tryd.prog 8 #[u7, .string (B kn)] w5 fun e w' => e = .returned (.bool false) ∧ w' = w5) := by
                  have := cont_any w4.heap.size u7 o kn w5 HO5.out (by omega)
                  rw [show o.contains kn = false by simpa using G4.out] at this
                  exact this
                go_wp2_with fail
                refine C9.out.mono ?_
                rintro e wx ⟨rfl, hw⟩
                rw [hw]
                clear hw wx
                go_wp2_with (at_builtin; refine wpList_append_lies _ rfl (.tmp 79) (.tmp 82) 32 rfl w4.heap.size 9 i0 (.string ⟨#[]⟩) 1 16 Tryd.underlying32 hif hz0 hz1 hz2 rfl (by decide) u7 o.length (o.map sB) rfl ?c1 ⟨w5.heap.size, 0, none⟩ 1 1 [.string (B kn)] rfl rfl ?c2 ?c3 (by decide) ?c4 ?c5 ?c6 _ rfl ?c7)
                case c1 => exact World.ownsRow.alloc HO5.out _
                case c2 => first | exact fun _ _ h => h | exact World.news_of_block (cs := #[.string (B kn)]) (heap_alloc_new w5 _)
                case c3 => intro u hu; simp at hu; subst hu; rfl
                case c4 => unfold maxLen; omega
                case c5 => omega
                case c6 =>
                  have := HB5.out.size
                  first | omega | (simp at *; omega)
                case c7 =>
                  intro g cap5 w6 hown hgrow _ _
                  have hb2 : Below w4.heap.size w5 w6 := ((Below.refl w5.heap.size w5).alloc (Nat.le_refl _) (.cells #[.string (B kn)] 9)).mono HB5.out.size |>.grown hgrow (by have := HB5.out.size; simp at *; omega) (fun k hk => ownBlk_ge HO5.out k hk)
                  have HO4 : Hid (w6.ownsRow w4.heap.size 9 1 (.slice (some ⟨g, 0, none⟩) (o.length + 1) cap5) (o.length + 1) (o.map sB ++ [.string (B kn)])) := hown
                  have HB4 : Hid (Below w4.heap.size w4 w6) := HB5.out.trans hb2
                  clear hown hgrow hb2
                  go_wp2
                  go_roundw
                  case rel => exact ⟨k + 1, o ++ [kn], t, by omega, by go_num, rfl, by rw [List.length_append, List.map_append]; exact HO4.out, HCH.out, HB4.out, by rw [List.length_append]; simp; omega⟩
                  case measure => simp [intOf]; omega
              · have e2 : (B kh).toList.isEmpty = true := by rw [toList_B]; exact hkh
                have e1 : ((B kn).toList == [97]) = false := by rw [toList_B]; rw [hkh] at g2; simpa using g2
                clear hkh g1 g2 g3 g4 hbl2
                go_wp2_with fail
                refine C8.out.mono ?_
                rintro e wx ⟨rfl, hw⟩
                rw [hw]
                clear hw wx
                have C9 : Hid (Calls Tryd.prog 8 #[u7, .string (B kn)] ((wr.alloc (.cells (tkC ⟨2, kn, kt, kh⟩).toArray 34)).alloc (.cells #[.string ⟨#[112]⟩, .string ⟨#[104, 49]⟩, .string ⟨#[104, 50]⟩, .string ⟨#[108, 105]⟩, .string ⟨#[117, 108]⟩, .string ⟨#[97]⟩, .string ⟨#[98]⟩, .string ⟨#[105]⟩] 9)) fun e w' => e = .returned (.bool false) ∧ w' = ((wr.alloc (.cells (tkC ⟨2, kn, kt, kh⟩).toArray 34)).alloc (.cells #[.string ⟨#[112]⟩, .string ⟨#[104, 49]⟩, .string ⟨#[104, 50]⟩, .string ⟨#[108, 105]⟩, .string ⟨#[117, 108]⟩, .string ⟨#[97]⟩, .string ⟨#[98]⟩, .string ⟨#[105]⟩] 9))) := by
                  have := cont_any w4.heap.size u7 o kn ((wr.alloc (.cells (tkC ⟨2, kn, kt, kh⟩).toArray 34)).alloc (.cells #[.string ⟨#[112]⟩, .string ⟨#[104, 49]⟩, .string ⟨#[104, 50]⟩, .string ⟨#[108, 105]⟩, .string ⟨#[117, 108]⟩, .string ⟨#[97]⟩, .string ⟨#[98]⟩, .string ⟨#[105]⟩] 9)) HO3.out (by omega)
                  rw [show o.contains kn = false by simpa using G4.out] at this
                  exact this
                go_wp2_with fail
                refine C9.out.mono ?_
                rintro e wx ⟨rfl, hw⟩
                rw [hw]
                clear hw wx
                go_wp2_with (at_builtin; refine wpList_append_lies _ rfl (.tmp 79) (.tmp 82) 32 rfl w4.heap.size 9 i0 (.string ⟨#[]⟩) 1 16 Tryd.underlying32 hif hz0 hz1 hz2 rfl (by decide) u7 o.length (o.map sB) rfl ?c1 ⟨wr.heap.size + 1 + 1, 0, none⟩ 1 1 [.string (B kn)] rfl rfl ?c2 ?c3 (by decide) ?c4 ?c5 ?c6 _ rfl ?c7)
                case c1 => exact World.ownsRow.alloc HO3.out _
                case c2 => first | exact fun _ _ h => h | exact World.news_of_block (cs := #[.string (B kn)]) (by have h := heap_alloc_new ((wr.alloc (.cells (tkC ⟨2, kn, kt, kh⟩).toArray 34)).alloc (.cells #[.string ⟨#[112]⟩, .string ⟨#[104, 49]⟩, .string ⟨#[104, 50]⟩, .string ⟨#[108, 105]⟩, .string ⟨#[117, 108]⟩, .string ⟨#[97]⟩, .string ⟨#[98]⟩, .string ⟨#[105]⟩] 9)) (.cells #[.string (B kn)] 9); rw [World.size_alloc, World.size_alloc] at h; exact h)
                case c3 => intro u hu; simp at hu; subst hu; rfl
                case c4 => unfold maxLen; omega
                case c5 => omega
                case c6 =>
                  have := HB3.out.size
                  first | omega | (simp at *; omega)
                case c7 =>
                  intro g cap5 w6 hown hgrow _ _
                  have hb2 : Below w4.heap.size ((wr.alloc (.cells (tkC ⟨2, kn, kt, kh⟩).toArray 34)).alloc (.cells #[.string ⟨#[112]⟩, .string ⟨#[104, 49]⟩, .string ⟨#[104, 50]⟩, .string ⟨#[108, 105]⟩, .string ⟨#[117, 108]⟩, .string ⟨#[97]⟩, .string ⟨#[98]⟩, .string ⟨#[105]⟩] 9)) w6 := ((Below.refl ((wr.alloc (.cells (tkC ⟨2, kn, kt, kh⟩).toArray 34)).alloc (.cells #[.string ⟨#[112]⟩, .string ⟨#[104, 49]⟩, .string ⟨#[104, 50]⟩, .string ⟨#[108, 105]⟩, .string ⟨#[117, 108]⟩, .string ⟨#[97]⟩, .string ⟨#[98]⟩, .string ⟨#[105]⟩] 9)).heap.size ((wr.alloc (.cells (tkC ⟨2, kn, kt, kh⟩).toArray 34)).alloc (.cells #[.string ⟨#[112]⟩, .string ⟨#[104, 49]⟩, .string ⟨#[104, 50]⟩, .string ⟨#[108, 105]⟩, .string ⟨#[117, 108]⟩, .string ⟨#[97]⟩, .string ⟨#[98]⟩, .string ⟨#[105]⟩] 9))).alloc (Nat.le_refl _) (.cells #[.string (B kn)] 9)).mono HB3.out.size |>.grown hgrow (by have := HB3.out.size; simp at *; omega) (fun k hk => ownBlk_ge HO3.out k hk)
                  have HO4 : Hid (w6.ownsRow w4.heap.size 9 1 (.slice (some ⟨g, 0, none⟩) (o.length + 1) cap5) (o.length + 1) (o.map sB ++ [.string (B kn)])) := hown
                  have HB4 : Hid (Below w4.heap.size w4 w6) := HB3.out.trans hb2
                  clear hown hgrow hb2
                  go_wp2
                  go_roundw
                  case rel => exact ⟨k + 1, o ++ [kn], t, by omega, by go_num, rfl, by rw [List.length_append, List.map_append]; exact HO4.out, HCH.out, HB4.out, by rw [List.length_append]; simp; omega⟩
                  case measure => simp [intOf]; omega
            · rw [if_neg hop] at hchk
              cases hchk
          · rw [if_neg (by simpa using h2)] at hchk
            by_cases h3 : kk = 3
            · subst h3
              rw [if_pos (by rfl)] at hchk
              by_cases hla : (o.getLast? == some kn) = true
              · rw [if_pos hla] at hchk
                have HCH : Hid (Tk.chk (T.drop (k + 1)) o.dropLast t = some ([], fin)) := hchk
                clear hchk
                have hla' : o.getLast? = some kn := by simpa using hla
                have hne : o ≠ [] := by intro e; rw [e] at hla'; cases hla'
                obtain ⟨m, hm⟩ : ∃ m, o.length = m + 1 := ⟨o.length - 1, by have := List.length_pos_iff.2 hne; omega⟩
                obtain ⟨g, c, hv, hgc, hcell⟩ := own_str HO.out hne
                have hlast := hcell m (by omega)
                have hom : o[m]'(by omega) = kn := by
                  rw [List.getLast?_eq_getElem?, show o.length - 1 = m by omega, List.getElem?_eq_getElem (by omega)] at hla'
                  exact Option.some.inj hla'
                rw [hom] at hlast
                rw [hm] at hv hgc
                have HO' : Hid (wr.ownsRow w4.heap.size 9 1 (.slice (some ⟨g, 0, none⟩) (m + 1) c) (m + 1) (o.map sB)) := by have := HO.out; rw [hm, hv] at this; exact this
                have HD : Hid ((o.map sB).take m = o.dropLast.map sB) := by
                  show _ = _
                  rw [List.dropLast_eq_take, show o.length - 1 = m by omega, List.map_take]
                have HDL : Hid (o.dropLast.length = m) := by show _ = _; rw [List.length_dropLast]; omega
                have HO2 : Hid ((wr.alloc (.cells (tkC ⟨3, kn, kt, kh⟩).toArray 34)).ownsRow w4.heap.size 9 1 (.slice (some ⟨g, 0, none⟩) m c) m ((o.map sB).take m)) := own_under (own_drop HO'.out) HB1.out
                have hglt : g < wr.heap.size := World.block_lt_of_cell? _ _ hlast
                have hlast' : (wr.alloc (.cells #[.int .i64 3, .string (B kn), .string (B kt), .string (B kh)] 34)).cell? ⟨g, m, none⟩ = some (.string (B kn)) := cell_under hlast HB1.out
                subst hv
                have hmk : m + 1 ≤ k := by rw [← hm]; exact hok
                have HBW1 : Hid (Below w4.heap.size w4 (wr.alloc (.cells (tkC ⟨3, kn, kt, kh⟩).toArray 34))) := HBW.out.trans (HB1.out.mono HBW.out.size)
                clear hcell hla hla' hom hne hok hm HO
                have f1 : ((m : Int) + 1 == 0) = false := by rw [beq_eq_false_iff_ne]; omega
                have f2 : (m : Int) < (m : Int) + 1 := by omega
                have f3 : (m : Int) < ((m + 1 : Nat) : Int) := by omega
                have f4 : (0 : Int) ≤ (m : Int) := by omega
                have f5 : IntKind.i64.wrap ((m : Int) + 1 - 1) = (m : Int) := by rw [show (m : Int) + 1 - 1 = (m : Int) by omega]; exact IntWalk.i64_in _ ⟨by omega, by omega⟩
                have f6 : IntKind.i64.wrap (m : Int) = (m : Int) := IntWalk.i64_in _ ⟨by omega, by omega⟩
                have f7 : ((m : Int)).toNat = m := by omega
                go_wp2
                go_quiet (fail)
                go_wp2
                go_roundw
                case rel => exact ⟨k + 1, o.dropLast, t, by omega, by go_num, rfl, by rw [HDL.out, ← HD.out]; exact HO2.out, HCH.out, ⟨HBW1.out.os, HBW1.out.tape, HBW1.out.output, HBW1.out.size, HBW1.out.block⟩, by rw [HDL.out]; omega⟩
                case measure => simp [intOf]; omega
              · rw [if_neg hla] at hchk
                cases hchk
            · rw [if_neg (by simpa using h3)] at hchk
              cases hchk
      · have hkk : T.drop k = [] := List.drop_eq_nil_of_le (by rw [HNT.out]; omega)
        rw [hkk, Tk.chk] at hchk
        obtain ⟨ho0, ht0⟩ : o = [] ∧ t = fin := by
          have := Option.some.inj hchk
          exact ⟨congrArg Prod.fst this, congrArg Prod.snd this⟩
        subst ho0
        subst ht0
        obtain ⟨a7, c7, hv7⟩ := own_none HO.out
        subst hv7
        have HP5 : Hid (SAt w ao n cap l wr) := HP4.out.far HBW.out
        have hpn : Dc.plain l = l.map It.c := by unfold Dc.plain; rw [if_pos HK0.out]
        have CPl := plain_any ao n cap l wr HP5.out.doc HP5.out.tabs.sch
        rw [HK0.out, hpn] at CPl
        obtain ⟨pl, hpl2⟩ : ∃ pl, l.map It.c = pl := ⟨_, rfl⟩
        have hrep : Lib.replaceAll pl [10] [] = t := by rw [Tk.repl_nl, ← hpl2, Tk.chars_eq]; exact HFN.out
        have hplen : pl.length ≤ 80 := by rw [← hpl2, List.length_map]; exact (docu_of HK0.out).few
        rw [hpl2] at CPl
        have HCPl : Hid (Calls Tryd.prog 10 #[.slice ao n cap] wr fun e w' => e = .returned (.tuple #[.string (B pl), .int .i64 0]) ∧ Below wr.heap.size wr w') := CPl
        have HREP : Hid (Lib.replaceAll pl [10] [] = t) := hrep
        clear hchk hkk CPl hpn hpl2 hrep
        go_wp2_with fail
        refine HCPl.out.mono ?_
        rintro e w5 ⟨rfl, hb⟩
        have HP6 : Hid (SAt w ao n cap l w5) := HP5.out.far hb
        clear hb HCPl
        obtain ⟨mm, hmm⟩ := HP6.out.env.mx
        have CR := Tryd.strings_ReplaceAll (B pl) ⟨#[10]⟩ ⟨#[]⟩ mm w5 (by rw [B_size]; omega) hmm (by decide) (by rw [show (ByteArray.mk #[]).size = 0 from rfl, B_size]; omega)
        change Calls Tryd.prog 11 _ w5 fun e w' => e = .returned (.string (B (Lib.replaceAll pl [10] []))) ∧ Below w5.heap.size w5 w' at CR
        rw [HREP.out] at CR
        have HCR : Hid (Calls Tryd.prog 11 #[.string (B pl), .string ⟨#[10]⟩, .string ⟨#[]⟩] w5 fun e w' => e = .returned (.string (B t)) ∧ Below w5.heap.size w5 w') := CR
        clear CR hmm
        go_wp2_with fail
        refine HCR.out.mono ?_
        rintro e w6 ⟨rfl, hb⟩
        have HP7 : Hid (SAt w ao n cap l w6) := HP6.out.far hb
        clear hb
        go_wp2
        go_ret
        exact ⟨rfl, HP7.out.below⟩
  · have hck0 : (ck != 0) = true := by simpa using h0
    have hck1 : (ck == 0) = false := by simpa using h0
    go_wp2_with fail
    refine (CT.out w4 HP4.out.env).mono ?_
    rintro e w5 ⟨rfl, hb⟩
    have HP5 : Hid (SAt w ao n cap l w5) := HP4.out.far hb
    clear hb
    go_wp2
    go_ret
    exact ⟨rfl, HP5.out.below⟩
end Go.Proofs.YtdlacdoakkklaabDoor

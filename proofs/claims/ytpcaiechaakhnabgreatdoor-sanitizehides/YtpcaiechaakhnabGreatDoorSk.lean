/-
  SanitizeBack: what is made of a page is a document; what is written of a document is read as itself.
-/
import Derived.Test.YtpcaiechaakhnabGreatDoorSi
import Derived.Test.YtpcaiechaakhnabGreatDoorTsb
namespace Go.Proofs.YtpcaiechaakhnabGreatDoor
open Go.RowKit

theorem vis_of {x : It} (h : Dc.isChar x = true) : Sn.vis x.c := by
  unfold Dc.isChar at h
  simp only [Bool.and_eq_true, decide_eq_true_eq] at h
  refine ⟨?_, ?_⟩
  · rw [UInt8.le_iff_toNat_le]; show 32 ≤ x.c.toNat; omega
  · rw [UInt8.le_iff_toNat_le]; show x.c.toNat ≤ 126; omega
theorem char_of {x : It} (h : Sn.vis x.c) : Dc.isChar x = true := by
  obtain ⟨h1, h2⟩ := h
  rw [UInt8.le_iff_toNat_le] at h1 h2
  have h3 : 32 ≤ x.c.toNat := h1
  have h4 : x.c.toNat ≤ 126 := h2
  unfold Dc.isChar
  simp only [Bool.and_eq_true, decide_eq_true_eq]
  omega
theorem empty_B' {s : ByteArray} (h : s.toList.isEmpty = true) : s = B [] := by
  rw [Lib.toList_data] at h
  obtain ⟨d⟩ := s
  have : d.toList = [] := by simpa using h
  have hd : d = #[] := by simpa using this
  rw [hd]
  rfl
theorem err_nice {x : It} (he : Dc.err x = 0) : Sn.Nice x := by
  unfold Dc.err at he
  by_cases h1 : (!Dc.ends x && !Dc.isChar x) = true
  · rw [if_pos h1] at he; cases he
  rw [if_neg h1] at he
  by_cases h2 : (!Dc.marks x) = true
  · rw [if_pos h2] at he; cases he
  rw [if_neg h2] at he
  by_cases h3 : (!Dc.link x) = true
  · rw [if_pos h3] at he; cases he
  have hm : Dc.marks x = true := by simpa using h2
  have hl : Dc.link x = true := by simpa using h3
  unfold Dc.marks at hm
  simp only [Bool.and_eq_true, decide_eq_true_eq] at hm
  unfold Dc.link at hl
  simp only [Bool.or_eq_true, Bool.and_eq_true] at hl
  refine ⟨⟨hm.1, hm.2, hl.imp id (fun h => h.2)⟩, fun hend => ?_, fun hend => ?_⟩
  · rcases hl with h | h
    · exact empty_B' h
    · rw [hend] at h; simp at h
  · rw [hend] at h1
    exact vis_of (by simpa using h1)
theorem nice_err {x : It} (h : Sn.Nice x) : Dc.err x = 0 := by
  obtain ⟨⟨h0, h3, hl⟩, he, hc⟩ := h
  have hm : Dc.marks x = true := by unfold Dc.marks; simp [h0, h3]
  have h1 : (!Dc.ends x && !Dc.isChar x) = false := by
    cases hx : Dc.ends x
    · rw [char_of (hc hx)]; rfl
    · rfl
  have h2 : Dc.link x = true := by
    unfold Dc.link
    cases hx : Dc.ends x
    · rcases hl with h | h
      · rw [h]; rfl
      · rw [h]; simp
    · rw [he hx]
      have : (B []).toList.isEmpty = true := Sn.empty_B
      rw [this]; rfl
  unfold Dc.err
  rw [h1, hm, h2]
  rfl
theorem errs_zero : ∀ {l : List It}, (∀ x ∈ l, Dc.err x = 0) → Dc.errs l = 0
  | [], _ => rfl
  | x :: t, h => by
    rw [Dc.errs, if_pos (h x (List.mem_cons_self ..))]
    exact errs_zero fun y hy => h y (List.mem_cons_of_mem _ hy)
theorem read_check {ts : List Tk} {d : List It} (h : Sn.read ts = some d) : Dc.check d = 0 := by
  obtain ⟨hN, h80, k, x, hk, he⟩ := Sn.read_doc h
  subst hk
  have h0 : Dc.errs (k ++ [x]) = 0 := errs_zero fun y hy => nice_err (hN y hy)
  rw [Dc.check_last (k := k.length) (by omega) h0 (by simp) (by simp)]
  have : (k ++ [x])[k.length]'(by simp) = x := by simp
  rw [this, he]
  rfl
theorem check_errs0 {d : List It} (h : Dc.check d = 0) : Dc.errs d = 0 := by
  have h80 := Dc.check_ok h
  by_cases h0 : Dc.errs d = 0
  · exact h0
  · rw [Dc.check_errs (by omega) h0] at h; exact absurd h h0
theorem read_back {d : List It} (h : Dc.check d = 0) : Sn.read (Tk.toks (Pg.page d)) = some d := by
  have hN : ∀ x ∈ d, Sn.Nice x := fun x hx => err_nice (errs_all (check_errs0 h) x hx)
  have hf := (docu_of h).few
  obtain ⟨k, x, rfl, he⟩ := (docu_of h).last
  exact Sn.read_page k x he hN hf
theorem page_eq {d : List It} (h : Dc.check d = 0) : Dc.page d = Pg.page d := by unfold Dc.page; rw [if_pos h]

/-- What a law has been called with, later. -/
structure Bk (w : World) (a1 : Option Addr) (n1 c1 : Nat) (l : List UInt8) (a2 : Option Addr) (n2 c2 : Nat) (d : List It) (wr : World) : Prop where
  below : Below w.heap.size w wr
  byt : Byt wr a1 n1 c1 l
  doc : Doc wr a2 n2 c2 d
  tz : Tz wr
theorem Bk.far {w : World} {a1 : Option Addr} {n1 c1 : Nat} {l : List UInt8} {a2 : Option Addr} {n2 c2 : Nat} {d : List It} {wr w' : World} (h : Bk w a1 n1 c1 l a2 n2 c2 d wr) (hb : Below wr.heap.size wr w') : Bk w a1 n1 c1 l a2 n2 c2 d w' :=
  ⟨h.below.trans (hb.mono h.below.size), h.byt.below hb, h.doc.below hb, h.tz.below hb⟩

/-- sanitize.Page of the bytes of a text, and the conversion. -/
structure Cv (w : World) (pg : List UInt8) (w2 : World) (cap : Nat) : Prop where
  run : (convert 9 22 (.string (B pg))).run Tryz.prog w = .ok (.slice (some ⟨w.heap.size, 0, none⟩) pg.length cap) w2
  below : Below w.heap.size w w2
  byt : Byt w2 (some ⟨w.heap.size, 0, none⟩) pg.length cap pg
theorem cv_of (w : World) (pg : List UInt8) (h : pg.length ≤ 20000) : ∃ w2 cap, Cv w pg w2 cap := by
  have zp := B_size pg
  have hcv := Lib.run_convert_string_bytes (P := Tryz.prog) w 9 22 5 (B pg) Tryz.underlying9 Tryz.underlying22 Tryz.underlying5
  have hby := byt_world w (B pg) (by rw [zp]; exact h)
  have hbw : Below w.heap.size w (Lib.bytesWorld w 5 (B pg)) := (SBuf.start w (B pg)).below
  rw [zp] at hcv hby
  rw [B_data] at hby
  exact ⟨_, _, hcv, hbw, hby⟩
theorem zread (w : World) (ao : Option Addr) (n cap : Nat) (l : List UInt8) (hB : Byt w ao n cap l) (hT : Tz w) (d : List It) (hn : n ≤ 20000) (hr : Sn.read (Tk.toks l) = some d) : Calls Tryz.prog 12 #[.slice ao n cap] w fun e w' => (∃ ao' cap', e = .returned (.tuple #[.slice ao' d.length cap', .int .i64 0]) ∧ Doc w' ao' d.length cap' d) ∧ Below w.heap.size w w' := by
  have := zpage_ok ao n cap l w hB hT.env hT.zt hn
  rw [hr] at this
  exact this
theorem zread_none (w : World) (ao : Option Addr) (n cap : Nat) (l : List UInt8) (hB : Byt w ao n cap l) (hT : Tz w) (hr : n ≤ 20000 → Sn.read (Tk.toks l) = none) : Calls Tryz.prog 12 #[.slice ao n cap] w fun e w' => e = .returned (.tuple #[.slice none 0 0, .int .i64 2]) ∧ Below w.heap.size w w' := by
  by_cases hn : n ≤ 20000
  · have := zpage_ok ao n cap l w hB hT.env hT.zt hn
    rw [hr hn] at this
    exact this
  · exact (zpage_many ao n cap w (by omega)).mono fun e w' h => ⟨h.1, by rw [h.2]; exact Below.refl _ _⟩

set_option maxRecDepth 100000 in
set_option maxHeartbeats 3200000 in
theorem back_ok_none (a1 a2 : Option Addr) (n1 c1 n2 c2 : Nat) (l : List UInt8) (d : List It) (w : World) (hB : Byt w a1 n1 c1 l) (hD : Doc w a2 n2 c2 d) (hT : Tz w) (hc : Dc.check d = 0) (hN : n1 ≤ 20000 → Sn.read (Tk.toks l) = none) :
    Calls Tryz.prog 5 #[.slice a1 n1 c1, .slice a2 n2 c2] w fun e w' => e = .returned (.bool true) ∧ Below w.heap.size w w' := by
  have H0 : Hid (Bk w a1 n1 c1 l a2 n2 c2 d w) := ⟨Below.refl _ _, hB, hD, hT⟩
  have hcap1 := hB.room
  have hbig1 := hB.big
  have hcap2 := hD.room
  have hbig2 := hD.big
  have C1 : Hid (Calls Tryz.prog 16 #[.slice a2 n2 c2] w fun e w' => e = .returned (.tuple #[.string (B (Pg.page d)), .int .i64 0]) ∧ Below w.heap.size w w') := by
    have := page_any a2 n2 c2 d w hD hT.tabs
    rw [page_eq hc, hc] at this
    exact this
  have HS : Hid ((Pg.page d).length ≤ 20000) := page_few hc
  have HRB : Hid (Sn.read (Tk.toks (Pg.page d)) = some d) := read_back hc
  clear hc
  have HN : Hid (n1 ≤ 20000 → Sn.read (Tk.toks l) = none) := hN
  clear hN
  clear hB hD hT
  go_enter Tryz.func5, Tryz.ntmps5
  go_wp2_with fail
  refine C1.out.mono ?_
  rintro e w1 ⟨rfl, hb⟩
  have H1 : Hid (Bk w a1 n1 c1 l a2 n2 c2 d w1) := H0.out.far hb
  clear hb C1
  obtain ⟨w2, cap2, hV⟩ := cv_of w1 (Pg.page d) HS.out
  have hcv := hV.run
  have H2 : Hid (Bk w a1 n1 c1 l a2 n2 c2 d w2) := H1.out.far hV.below
  have hP2 : Byt w2 (some ⟨w1.heap.size, 0, none⟩) (Pg.page d).length cap2 (Pg.page d) := hV.byt
  have CZ : Hid (Calls Tryz.prog 12 #[.slice (some ⟨w1.heap.size, 0, none⟩) (Pg.page d).length cap2] w2 fun e w' => (∃ ao' cap', e = .returned (.tuple #[.slice ao' d.length cap', .int .i64 0]) ∧ Doc w' ao' d.length cap' d) ∧ Below w2.heap.size w2 w') := zread w2 _ _ cap2 _ hP2 H2.out.tz d HS.out HRB.out
  clear hV hP2 H1
  go_wp2_with fail
  refine CZ.out.mono ?_
  rintro e w3 ⟨⟨ao3, cap3, rfl, hD3⟩, hb⟩
  have H3 : Hid (Bk w a1 n1 c1 l a2 n2 c2 d w3) := H2.out.far hb
  have D3 : Hid (Doc w3 ao3 d.length cap3 d) := hD3
  clear hD3 hb hcv CZ H2
  go_wp2_with fail
  refine (same_any ao3 a2 d.length cap3 n2 c2 d d w3 D3.out H3.out.doc).mono ?_
  rintro e wx ⟨rfl, m, rfl⟩
  rw [dsame_self]
  have H1 : Hid (Bk w a1 n1 c1 l a2 n2 c2 d (w3.drewN m)) := H3.out.far (Go.below_drewN (Below.refl _ _) m)
  clear H3 D3
  generalize w3.drewN m = w1 at *
  go_wp2_with fail
  refine (zread_none _ a1 n1 c1 l H1.out.byt H1.out.tz HN.out).mono ?_
  rintro e w4 ⟨rfl, hb⟩
  have H4 : Hid (Bk w a1 n1 c1 l a2 n2 c2 d w4) := H1.out.far hb
  clear hb H1
  go_wp2_with fail
  refine (paged_any w4 H4.out.tz).mono ?_
  rintro e w5 ⟨rfl, hb⟩
  have H5 : Hid (Bk w a1 n1 c1 l a2 n2 c2 d w5) := H4.out.far hb
  clear hb H4
  go_wp2_with fail
  refine (paged_any w5 H5.out.tz).mono ?_
  rintro e w6 ⟨rfl, hb⟩
  have H6 : Hid (Bk w a1 n1 c1 l a2 n2 c2 d w6) := H5.out.far hb
  clear hb H5
  go_wp2
  go_ret
  exact ⟨rfl, H6.out.below⟩

set_option maxRecDepth 100000 in
set_option maxHeartbeats 3200000 in
theorem back_ok_some (a1 a2 : Option Addr) (n1 c1 n2 c2 : Nat) (l : List UInt8) (d : List It) (w : World) (hB : Byt w a1 n1 c1 l) (hD : Doc w a2 n2 c2 d) (hT : Tz w) (hc : Dc.check d = 0) (c : List It) (hn1 : n1 ≤ 20000) (hR : Sn.read (Tk.toks l) = some c) :
    Calls Tryz.prog 5 #[.slice a1 n1 c1, .slice a2 n2 c2] w fun e w' => e = .returned (.bool true) ∧ Below w.heap.size w w' := by
  have H0 : Hid (Bk w a1 n1 c1 l a2 n2 c2 d w) := ⟨Below.refl _ _, hB, hD, hT⟩
  have hcap1 := hB.room
  have hbig1 := hB.big
  have hcap2 := hD.room
  have hbig2 := hD.big
  have C1 : Hid (Calls Tryz.prog 16 #[.slice a2 n2 c2] w fun e w' => e = .returned (.tuple #[.string (B (Pg.page d)), .int .i64 0]) ∧ Below w.heap.size w w') := by
    have := page_any a2 n2 c2 d w hD hT.tabs
    rw [page_eq hc, hc] at this
    exact this
  have HS : Hid ((Pg.page d).length ≤ 20000) := page_few hc
  have HRB : Hid (Sn.read (Tk.toks (Pg.page d)) = some d) := read_back hc
  clear hc
  have HR : Hid (Sn.read (Tk.toks l) = some c) := hR
  have HCK : Hid (Dc.check c = 0) := read_check hR
  have HSC : Hid ((Pg.page c).length ≤ 20000) := page_few (read_check hR)
  have HRC : Hid (Sn.read (Tk.toks (Pg.page c)) = some c) := read_back (read_check hR)
  clear hR
  clear hB hD hT
  go_enter Tryz.func5, Tryz.ntmps5
  go_wp2_with fail
  refine C1.out.mono ?_
  rintro e w1 ⟨rfl, hb⟩
  have H1 : Hid (Bk w a1 n1 c1 l a2 n2 c2 d w1) := H0.out.far hb
  clear hb C1
  obtain ⟨w2, cap2, hV⟩ := cv_of w1 (Pg.page d) HS.out
  have hcv := hV.run
  have H2 : Hid (Bk w a1 n1 c1 l a2 n2 c2 d w2) := H1.out.far hV.below
  have hP2 : Byt w2 (some ⟨w1.heap.size, 0, none⟩) (Pg.page d).length cap2 (Pg.page d) := hV.byt
  have CZ : Hid (Calls Tryz.prog 12 #[.slice (some ⟨w1.heap.size, 0, none⟩) (Pg.page d).length cap2] w2 fun e w' => (∃ ao' cap', e = .returned (.tuple #[.slice ao' d.length cap', .int .i64 0]) ∧ Doc w' ao' d.length cap' d) ∧ Below w2.heap.size w2 w') := zread w2 _ _ cap2 _ hP2 H2.out.tz d HS.out HRB.out
  clear hV hP2 H1
  go_wp2_with fail
  refine CZ.out.mono ?_
  rintro e w3 ⟨⟨ao3, cap3, rfl, hD3⟩, hb⟩
  have H3 : Hid (Bk w a1 n1 c1 l a2 n2 c2 d w3) := H2.out.far hb
  have D3 : Hid (Doc w3 ao3 d.length cap3 d) := hD3
  clear hD3 hb hcv CZ H2
  go_wp2_with fail
  refine (same_any ao3 a2 d.length cap3 n2 c2 d d w3 D3.out H3.out.doc).mono ?_
  rintro e wx ⟨rfl, m, rfl⟩
  rw [dsame_self]
  have H1 : Hid (Bk w a1 n1 c1 l a2 n2 c2 d (w3.drewN m)) := H3.out.far (Go.below_drewN (Below.refl _ _) m)
  clear H3 D3
  generalize w3.drewN m = w1 at *
  go_wp2_with fail
  refine (zread _ a1 n1 c1 l H1.out.byt H1.out.tz c hn1 HR.out).mono ?_
  rintro e w4 ⟨⟨ao4, cap4, rfl, hD4⟩, hb⟩
  have H4 : Hid (Bk w a1 n1 c1 l a2 n2 c2 d w4) := H1.out.far hb
  have D4 : Hid (Doc w4 ao4 c.length cap4 c) := hD4
  clear hb H1 hD4
  go_wp2_with fail
  refine (paged_any w4 H4.out.tz).mono ?_
  rintro e w5 ⟨rfl, hb⟩
  have H5 : Hid (Bk w a1 n1 c1 l a2 n2 c2 d w5) := H4.out.far hb
  have D5 : Hid (Doc w5 ao4 c.length cap4 c) := D4.out.below hb
  clear hb H4 D4
  have CP : Hid (Calls Tryz.prog 16 #[.slice ao4 c.length cap4] w5 fun e w' => e = .returned (.tuple #[.string (B (Pg.page c)), .int .i64 0]) ∧ Below w5.heap.size w5 w') := by
    have := page_any ao4 c.length cap4 c w5 D5.out H5.out.tz.tabs
    rw [page_eq HCK.out, HCK.out] at this
    exact this
  go_wp2_with fail
  refine CP.out.mono ?_
  rintro e w6 ⟨rfl, hb⟩
  have H6 : Hid (Bk w a1 n1 c1 l a2 n2 c2 d w6) := H5.out.far hb
  have D6 : Hid (Doc w6 ao4 c.length cap4 c) := D5.out.below hb
  clear hb H5 D5 CP
  obtain ⟨w7, cap7, hV⟩ := cv_of w6 (Pg.page c) HSC.out
  have hcv := hV.run
  have H7 : Hid (Bk w a1 n1 c1 l a2 n2 c2 d w7) := H6.out.far hV.below
  have D7 : Hid (Doc w7 ao4 c.length cap4 c) := D6.out.below hV.below
  have hP7 : Byt w7 (some ⟨w6.heap.size, 0, none⟩) (Pg.page c).length cap7 (Pg.page c) := hV.byt
  have CZ : Hid (Calls Tryz.prog 12 #[.slice (some ⟨w6.heap.size, 0, none⟩) (Pg.page c).length cap7] w7 fun e w' => (∃ ao' cap', e = .returned (.tuple #[.slice ao' c.length cap', .int .i64 0]) ∧ Doc w' ao' c.length cap' c) ∧ Below w7.heap.size w7 w') := zread w7 _ _ cap7 _ hP7 H7.out.tz c HSC.out HRC.out
  clear hV hP7 H6 D6
  go_wp2_with fail
  refine CZ.out.mono ?_
  rintro e w8 ⟨⟨ao8, cap8, rfl, hD8⟩, hb⟩
  have H8 : Hid (Bk w a1 n1 c1 l a2 n2 c2 d w8) := H7.out.far hb
  have D8 : Hid (Doc w8 ao4 c.length cap4 c) := D7.out.below hb
  have E8 : Hid (Doc w8 ao8 c.length cap8 c) := hD8
  have CK : Hid (Calls Tryz.prog 18 #[.slice ao4 c.length cap4] w8 fun e w' => e = .returned (.int .i64 0) ∧ Below w8.heap.size w8 w') := by
    have := check_any ao4 c.length cap4 c w8 D8.out H8.out.tz.tabs.sch
    rw [HCK.out] at this
    exact this
  clear hb hD8 H7 D7 hcv CZ
  go_wp2_with fail
  refine CK.out.mono ?_
  rintro e w9 ⟨rfl, hb⟩
  have H9 : Hid (Bk w a1 n1 c1 l a2 n2 c2 d w9) := H8.out.far hb
  have D9 : Hid (Doc w9 ao4 c.length cap4 c) := D8.out.below hb
  have E9 : Hid (Doc w9 ao8 c.length cap8 c) := E8.out.below hb
  clear hb CK H8 D8 E8
  go_wp2_with fail
  refine (same_any ao8 ao4 c.length cap8 c.length cap4 c c w9 E9.out D9.out).mono ?_
  rintro e wy ⟨rfl, m9, rfl⟩
  rw [dsame_self]
  have HE : Hid (Below w.heap.size w (w9.drewN m9)) := Go.below_drewN H9.out.below m9
  clear H9 D9 E9
  generalize w9.drewN m9 = we at *
  go_wp2
  go_ret
  exact ⟨rfl, HE.out⟩

set_option maxRecDepth 100000 in
set_option maxHeartbeats 3200000 in
theorem back_no_none (a1 a2 : Option Addr) (n1 c1 n2 c2 : Nat) (l : List UInt8) (d : List It) (w : World) (hB : Byt w a1 n1 c1 l) (hD : Doc w a2 n2 c2 d) (hT : Tz w) (hc : ¬ Dc.check d = 0) (hN : n1 ≤ 20000 → Sn.read (Tk.toks l) = none) :
    Calls Tryz.prog 5 #[.slice a1 n1 c1, .slice a2 n2 c2] w fun e w' => e = .returned (.bool true) ∧ Below w.heap.size w w' := by
  have H0 : Hid (Bk w a1 n1 c1 l a2 n2 c2 d w) := ⟨Below.refl _ _, hB, hD, hT⟩
  have hcap1 := hB.room
  have hbig1 := hB.big
  have hcap2 := hD.room
  have hbig2 := hD.big
  have hcb : (Dc.check d == 0) = false := by simpa using hc
  have C1 : Hid (Calls Tryz.prog 16 #[.slice a2 n2 c2] w fun e w' => e = .returned (.tuple #[.string (B (Dc.page d)), .int .i64 (Dc.check d)]) ∧ Below w.heap.size w w') := page_any a2 n2 c2 d w hD hT.tabs
  clear hc
  generalize Dc.check d = ck at *
  generalize B (Dc.page d) = bp at *
  have HN : Hid (n1 ≤ 20000 → Sn.read (Tk.toks l) = none) := hN
  clear hN
  clear hB hD hT
  go_enter Tryz.func5, Tryz.ntmps5
  go_wp2_with fail
  refine C1.out.mono ?_
  rintro e w1 ⟨rfl, hb⟩
  have H1 : Hid (Bk w a1 n1 c1 l a2 n2 c2 d w1) := H0.out.far hb
  clear hb C1
  obtain ⟨wa, hwa⟩ : ∃ wa, w1 = wa := ⟨_, rfl⟩
  subst hwa
  go_wp2_with fail
  refine (zread_none _ a1 n1 c1 l H1.out.byt H1.out.tz HN.out).mono ?_
  rintro e w4 ⟨rfl, hb⟩
  have H4 : Hid (Bk w a1 n1 c1 l a2 n2 c2 d w4) := H1.out.far hb
  clear hb H1
  go_wp2_with fail
  refine (paged_any w4 H4.out.tz).mono ?_
  rintro e w5 ⟨rfl, hb⟩
  have H5 : Hid (Bk w a1 n1 c1 l a2 n2 c2 d w5) := H4.out.far hb
  clear hb H4
  go_wp2_with fail
  refine (paged_any w5 H5.out.tz).mono ?_
  rintro e w6 ⟨rfl, hb⟩
  have H6 : Hid (Bk w a1 n1 c1 l a2 n2 c2 d w6) := H5.out.far hb
  clear hb H5
  go_wp2
  go_ret
  exact ⟨rfl, H6.out.below⟩

set_option maxRecDepth 100000 in
set_option maxHeartbeats 3200000 in
theorem back_no_some (a1 a2 : Option Addr) (n1 c1 n2 c2 : Nat) (l : List UInt8) (d : List It) (w : World) (hB : Byt w a1 n1 c1 l) (hD : Doc w a2 n2 c2 d) (hT : Tz w) (hc : ¬ Dc.check d = 0) (c : List It) (hn1 : n1 ≤ 20000) (hR : Sn.read (Tk.toks l) = some c) :
    Calls Tryz.prog 5 #[.slice a1 n1 c1, .slice a2 n2 c2] w fun e w' => e = .returned (.bool true) ∧ Below w.heap.size w w' := by
  have H0 : Hid (Bk w a1 n1 c1 l a2 n2 c2 d w) := ⟨Below.refl _ _, hB, hD, hT⟩
  have hcap1 := hB.room
  have hbig1 := hB.big
  have hcap2 := hD.room
  have hbig2 := hD.big
  have hcb : (Dc.check d == 0) = false := by simpa using hc
  have C1 : Hid (Calls Tryz.prog 16 #[.slice a2 n2 c2] w fun e w' => e = .returned (.tuple #[.string (B (Dc.page d)), .int .i64 (Dc.check d)]) ∧ Below w.heap.size w w') := page_any a2 n2 c2 d w hD hT.tabs
  clear hc
  generalize Dc.check d = ck at *
  generalize B (Dc.page d) = bp at *
  have HR : Hid (Sn.read (Tk.toks l) = some c) := hR
  have HCK : Hid (Dc.check c = 0) := read_check hR
  have HSC : Hid ((Pg.page c).length ≤ 20000) := page_few (read_check hR)
  have HRC : Hid (Sn.read (Tk.toks (Pg.page c)) = some c) := read_back (read_check hR)
  clear hR
  clear hB hD hT
  go_enter Tryz.func5, Tryz.ntmps5
  go_wp2_with fail
  refine C1.out.mono ?_
  rintro e w1 ⟨rfl, hb⟩
  have H1 : Hid (Bk w a1 n1 c1 l a2 n2 c2 d w1) := H0.out.far hb
  clear hb C1
  obtain ⟨wa, hwa⟩ : ∃ wa, w1 = wa := ⟨_, rfl⟩
  subst hwa
  go_wp2_with fail
  refine (zread _ a1 n1 c1 l H1.out.byt H1.out.tz c hn1 HR.out).mono ?_
  rintro e w4 ⟨⟨ao4, cap4, rfl, hD4⟩, hb⟩
  have H4 : Hid (Bk w a1 n1 c1 l a2 n2 c2 d w4) := H1.out.far hb
  have D4 : Hid (Doc w4 ao4 c.length cap4 c) := hD4
  clear hb H1 hD4
  go_wp2_with fail
  refine (paged_any w4 H4.out.tz).mono ?_
  rintro e w5 ⟨rfl, hb⟩
  have H5 : Hid (Bk w a1 n1 c1 l a2 n2 c2 d w5) := H4.out.far hb
  have D5 : Hid (Doc w5 ao4 c.length cap4 c) := D4.out.below hb
  clear hb H4 D4
  have CP : Hid (Calls Tryz.prog 16 #[.slice ao4 c.length cap4] w5 fun e w' => e = .returned (.tuple #[.string (B (Pg.page c)), .int .i64 0]) ∧ Below w5.heap.size w5 w') := by
    have := page_any ao4 c.length cap4 c w5 D5.out H5.out.tz.tabs
    rw [page_eq HCK.out, HCK.out] at this
    exact this
  go_wp2_with fail
  refine CP.out.mono ?_
  rintro e w6 ⟨rfl, hb⟩
  have H6 : Hid (Bk w a1 n1 c1 l a2 n2 c2 d w6) := H5.out.far hb
  have D6 : Hid (Doc w6 ao4 c.length cap4 c) := D5.out.below hb
  clear hb H5 D5 CP
  obtain ⟨w7, cap7, hV⟩ := cv_of w6 (Pg.page c) HSC.out
  have hcv := hV.run
  have H7 : Hid (Bk w a1 n1 c1 l a2 n2 c2 d w7) := H6.out.far hV.below
  have D7 : Hid (Doc w7 ao4 c.length cap4 c) := D6.out.below hV.below
  have hP7 : Byt w7 (some ⟨w6.heap.size, 0, none⟩) (Pg.page c).length cap7 (Pg.page c) := hV.byt
  have CZ : Hid (Calls Tryz.prog 12 #[.slice (some ⟨w6.heap.size, 0, none⟩) (Pg.page c).length cap7] w7 fun e w' => (∃ ao' cap', e = .returned (.tuple #[.slice ao' c.length cap', .int .i64 0]) ∧ Doc w' ao' c.length cap' c) ∧ Below w7.heap.size w7 w') := zread w7 _ _ cap7 _ hP7 H7.out.tz c HSC.out HRC.out
  clear hV hP7 H6 D6
  go_wp2_with fail
  refine CZ.out.mono ?_
  rintro e w8 ⟨⟨ao8, cap8, rfl, hD8⟩, hb⟩
  have H8 : Hid (Bk w a1 n1 c1 l a2 n2 c2 d w8) := H7.out.far hb
  have D8 : Hid (Doc w8 ao4 c.length cap4 c) := D7.out.below hb
  have E8 : Hid (Doc w8 ao8 c.length cap8 c) := hD8
  have CK : Hid (Calls Tryz.prog 18 #[.slice ao4 c.length cap4] w8 fun e w' => e = .returned (.int .i64 0) ∧ Below w8.heap.size w8 w') := by
    have := check_any ao4 c.length cap4 c w8 D8.out H8.out.tz.tabs.sch
    rw [HCK.out] at this
    exact this
  clear hb hD8 H7 D7 hcv CZ
  go_wp2_with fail
  refine CK.out.mono ?_
  rintro e w9 ⟨rfl, hb⟩
  have H9 : Hid (Bk w a1 n1 c1 l a2 n2 c2 d w9) := H8.out.far hb
  have D9 : Hid (Doc w9 ao4 c.length cap4 c) := D8.out.below hb
  have E9 : Hid (Doc w9 ao8 c.length cap8 c) := E8.out.below hb
  clear hb CK H8 D8 E8
  go_wp2_with fail
  refine (same_any ao8 ao4 c.length cap8 c.length cap4 c c w9 E9.out D9.out).mono ?_
  rintro e wy ⟨rfl, m9, rfl⟩
  rw [dsame_self]
  have HE : Hid (Below w.heap.size w (w9.drewN m9)) := Go.below_drewN H9.out.below m9
  clear H9 D9 E9
  generalize w9.drewN m9 = we at *
  go_wp2
  go_ret
  exact ⟨rfl, HE.out⟩

theorem back_any (a1 a2 : Option Addr) (n1 c1 n2 c2 : Nat) (l : List UInt8) (d : List It) (w : World) (hB : Byt w a1 n1 c1 l) (hD : Doc w a2 n2 c2 d) (hT : Tz w) :
    Calls Tryz.prog 5 #[.slice a1 n1 c1, .slice a2 n2 c2] w fun e w' => e = .returned (.bool true) ∧ Below w.heap.size w w' := by
  by_cases hn : n1 ≤ 20000
  · cases hr : Sn.read (Tk.toks l) with
    | none =>
      by_cases hc : Dc.check d = 0
      · exact back_ok_none a1 a2 n1 c1 n2 c2 l d w hB hD hT hc (fun _ => hr)
      · exact back_no_none a1 a2 n1 c1 n2 c2 l d w hB hD hT hc (fun _ => hr)
    | some c =>
      by_cases hc : Dc.check d = 0
      · exact back_ok_some a1 a2 n1 c1 n2 c2 l d w hB hD hT hc c hn hr
      · exact back_no_some a1 a2 n1 c1 n2 c2 l d w hB hD hT hc c hn hr
  · by_cases hc : Dc.check d = 0
    · exact back_ok_none a1 a2 n1 c1 n2 c2 l d w hB hD hT hc (fun h => absurd h hn)
    · exact back_no_none a1 a2 n1 c1 n2 c2 l d w hB hD hT hc (fun h => absurd h hn)
end Go.Proofs.YtpcaiechaakhnabGreatDoor

/-
  Texts of this proof, one behind the other.
-/
import Derived.Test.YtpcaiechaakhnabGreatDoorM9
import Derived.Test.YtpcaiechaakhnabGreatDoorM8
import Derived.Test.YtpcaiechaakhnabGreatDoorM6
import Derived.Test.YtpcaiechaakhnabGreatDoorM4
import Derived.Test.YtpcaiechaakhnabGreatDoorM5

/-
  token.Page: a page is taken apart into what chapter 5 says.
-/
namespace Go.Proofs.YtpcaiechaakhnabGreatDoor
open Go.RowKit

theorem first_text (c : UInt8) (t : List UInt8) (h : c ≠ 60) : Tk.first c t = ([Tk.txt (Esc.rd ((c :: t).takeWhile (Tk.not 60)))], (c :: t).dropWhile (Tk.not 60)) := by
  have h1 : (c == 60) = false := by simpa using h
  have h2 : Tk.not 60 c = true := by unfold Tk.not; simpa using h
  unfold Tk.first
  rw [h1, if_neg Bool.false_ne_true, List.takeWhile_cons, List.dropWhile_cons, h2, if_pos rfl, if_pos rfl]
theorem after_60 (t : List UInt8) : Tk.after [62] (60 :: t) = Tk.after [62] t := by
  rw [Tk.after]
  simp [List.isPrefixOf]
theorem pre4 (t : List UInt8) : ([60, 33, 45, 45] : List UInt8).isPrefixOf (60 :: t) = ([33, 45, 45] : List UInt8).isPrefixOf t := by simp [List.isPrefixOf]
theorem pre2 (x d : UInt8) (u : List UInt8) : ([60, x] : List UInt8).isPrefixOf (60 :: d :: u) = (x == d) := by simp [List.isPrefixOf]
theorem lbh1 (d : UInt8) (u : List UInt8) : lbh [60] (60 :: d :: u) = Tk.letter d := by simp [lbh, List.isPrefixOf]
theorem lbh2 (e : UInt8) (v : List UInt8) : lbh [60, 47] (60 :: 47 :: e :: v) = Tk.letter e := by simp [lbh, List.isPrefixOf]
theorem lbh2_no (d : UInt8) (u : List UInt8) (h : d ≠ 47) : lbh [60, 47] (60 :: d :: u) = false := by
  unfold lbh
  rw [pre2]
  have : ((47 : UInt8) == d) = false := by simpa using (fun e => h e.symm)
  rw [this]
  rfl

theorem token_any (b : Nat) (c : UInt8) (t : List UInt8) (w : World) (hR : Rd w b (c :: t)) (hE : Env w b) (hl : t.length ≤ 19999) :
    Calls Tryz.prog 21 #[.pointer (some ⟨b, 0, none⟩)] w fun e w' => ∃ k whole rest, e = .returned (.tuple #[tkA k, .bool whole]) ∧ Tk.first c t = (if whole then [k] else [], rest) ∧ Rd w' b rest ∧ Kept w w' [b] := by
  by_cases h60 : c = 60
  · subst h60
    have hf : Tk.first 60 t = Tk.angle t := rfl
    rw [hf]
    by_cases h1 : ([33, 45, 45] : List UInt8).isPrefixOf t = true
    · have ha : Tk.angle t = ([Tk.oth], (Tk.after [45, 45, 62] (t.drop 3)).getD []) := by unfold Tk.angle; rw [if_pos h1]
      refine (token_comment b t w hR hE hl ((pre4 t).trans h1)).mono ?_
      rintro e w' ⟨rfl, h2, h3⟩
      exact ⟨_, true, _, rfl, ha, h2, h3⟩
    · have h1' : ([60, 33, 45, 45] : List UInt8).isPrefixOf (60 :: t) = false := (pre4 t).trans (Bool.eq_false_iff.2 h1)
      cases t with
      | nil =>
        refine (token_angle b [] w hR hE h1' rfl rfl rfl rfl).mono ?_
        rintro e w' ⟨rfl, h2, h3⟩
        exact ⟨_, true, _, rfl, rfl, h2, h3⟩
      | cons d u =>
        rw [Tk.angle_cons, if_neg h1]
        by_cases h33 : d = 33
        · subst h33
          refine (token_bang b (33 :: u) w hR hE hl h1' (by rw [pre2]; rfl)).mono ?_
          rintro e w' ⟨rfl, h2, h3⟩
          rw [after_60] at h2
          exact ⟨_, true, _, rfl, rfl, h2, h3⟩
        · have e33 : ((33 : UInt8) == d) = false := by simpa using (fun e => h33 e.symm)
          have f33 : (d == 33) = false := by simpa using h33
          by_cases h63 : d = 63
          · subst h63
            refine (token_quest b (63 :: u) w hR hE hl h1' ((pre2 33 63 u).trans rfl) ((pre2 63 63 u).trans rfl)).mono ?_
            rintro e w' ⟨rfl, h2, h3⟩
            rw [after_60] at h2
            exact ⟨_, true, _, rfl, rfl, h2, h3⟩
          · have e63 : ((63 : UInt8) == d) = false := by simpa using (fun e => h63 e.symm)
            have f63 : (d == 63) = false := by simpa using h63
            have g1 : ([60, 33] : List UInt8).isPrefixOf (60 :: d :: u) = false := (pre2 33 d u).trans e33
            have g2 : ([60, 63] : List UInt8).isPrefixOf (60 :: d :: u) = false := (pre2 63 d u).trans e63
            rw [f33, f63, Bool.or_self, if_neg Bool.false_ne_true]
            by_cases h47 : d = 47
            · subst h47
              have g3 : lbh [60] (60 :: 47 :: u) = false := (lbh1 47 u).trans rfl
              rw [if_pos (by rfl)]
              cases u with
              | nil =>
                refine (token_angle b [47] w hR hE h1' g1 g2 g3 rfl).mono ?_
                rintro e w' ⟨rfl, h2, h3⟩
                exact ⟨_, true, _, rfl, rfl, h2, h3⟩
              | cons x v =>
                rw [Tk.shutAt]
                cases hx : Tk.letter x
                · rw [if_neg Bool.false_ne_true]
                  refine (token_angle b (47 :: x :: v) w hR hE h1' g1 g2 g3 ((lbh2 x v).trans hx)).mono ?_
                  rintro e w' ⟨rfl, h2, h3⟩
                  exact ⟨_, true, _, rfl, rfl, h2, h3⟩
                · rw [if_pos rfl]
                  exact token_shut b (47 :: x :: v) w hR hE hl h1' g1 g2 g3 ((lbh2 x v).trans hx)
            · have e47 : (d == 47) = false := by simpa using h47
              rw [e47, if_neg Bool.false_ne_true]
              cases hx : Tk.letter d
              · rw [if_neg Bool.false_ne_true]
                refine (token_angle b (d :: u) w hR hE h1' g1 g2 ((lbh1 d u).trans hx) (lbh2_no d u h47)).mono ?_
                rintro e w' ⟨rfl, h2, h3⟩
                exact ⟨_, true, _, rfl, rfl, h2, h3⟩
              · rw [if_pos rfl]
                exact token_open b (d :: u) w hR hE hl h1' g1 g2 ((lbh1 d u).trans hx)
  · have hne : ((c.toNat : Int) != 60) = true := by
      rw [bne_iff_ne]
      intro e
      exact h60 (UInt8.toNat_inj.1 (by show c.toNat = 60; omega))
    refine (token_text b c t w hR hE hl hne).mono ?_
    rintro e w' ⟨rfl, h2, h3⟩
    exact ⟨_, true, _, rfl, first_text c t h60, h2, h3⟩

theorem Tryz.infoTk : (Tryz.prog.info? 30).map (fun i => (i.zero, i.size, i.bytes)) = some (some (tkA tk0), 4, 56) := by kernel_rfl

set_option maxRecDepth 100000 in
set_option maxHeartbeats 800000 in
theorem tpage_many (ao : Option Addr) (n cap : Nat) (w : World) (hn : 20000 < n) :
    Calls Tryz.prog 8 #[.slice ao n cap] w fun e w' => e = .returned (.tuple #[.slice none 0 0, .int .i64 2]) ∧ w' = w := by
  go_enter Tryz.func8, Tryz.ntmps8
  go_wp2
  go_ret2
  exact ⟨rfl, rfl⟩

/-- A page at work: what is taken apart, what is left. -/
structure PageAt (w : World) (b n : Nat) (l : List UInt8) (v : Value) (wr : World) (pre : List Tk) (r : List UInt8) : Prop where
  rest : Rd wr b r
  go : pre ++ Tk.toks r = Tk.toks l
  own : wr.ownsRow (b + 1) 30 4 v pre.length (tkCells pre)
  below : Below b w wr
  env : Env wr b
  len : pre.length + r.length ≤ n

set_option maxRecDepth 100000 in
set_option maxHeartbeats 800000 in
theorem tpage_ok (ao : Option Addr) (n cap : Nat) (l : List UInt8) (w : World) (hB : Byt w ao n cap l) (hE : Env w w.heap.size) (hn : n ≤ 20000) :
    Calls Tryz.prog 8 #[.slice ao n cap] w fun e w' => (∃ ao' cap', e = .returned (.tuple #[.slice ao' (Tk.toks l).length cap', .int .i64 0]) ∧ Tks w' ao' (Tk.toks l).length cap' (Tk.toks l)) ∧ Below w.heap.size w w' := by
  have hcv := conv_byt hB
  have hll := hB.bytes
  have hcap := hB.room
  have hbig := hB.big
  obtain ⟨i0, hi, hz0, hz1, hz2⟩ := info_parts Tryz.infoTk
  have hbw : Below w.heap.size w (w.alloc (.cells #[.string (B l)] 50)) := (Below.refl _ _).alloc (Nat.le_refl _) _
  have P0 : Hid (PageAt w w.heap.size n l (.slice none 0 0) (w.alloc (.cells #[.string (B l)] 50)) [] l) :=
    ⟨Blk.new w [.string (B l)] 50, rfl, World.ownsRow_nil _ _ _ _, hbw, hE.below hbw, by simp; omega⟩
  clear hB hE hbw
  obtain ⟨T, hT⟩ : ∃ T, Tk.toks l = T := ⟨_, rfl⟩
  have HT : Hid (Tk.toks l = T) := hT
  rw [hT]
  clear hT
  go_enter Tryz.func8, Tryz.ntmps8
  go_wp2
  go_loopw [5] (fun v wr => ∃ pre r, PageAt w w.heap.size n l v wr pre r) (fun _ wr => left w.heap.size wr)
  case atStart => exact ⟨_, _, P0.out⟩
  case round =>
    obtain ⟨pre, r, hP⟩ := hrel
    have HP : Hid (PageAt w w.heap.size n l u5 wr pre r) := hP
    have r0 := hP.rest.cell
    have hlen := hP.len
    have hLeft : Hid (left w.heap.size wr = r.length) := left_of hP.rest
    clear hP hcv
    cases r with
    | nil =>
      have e0 : (B []).toList.isEmpty = true := by rw [toList_B]; rfl
      have hpre : pre = T := by have := HP.out.go; rw [Tk.toks_nil, List.append_nil] at this; exact this.trans HT.out
      obtain ⟨ao', cap', hv, hrow⟩ := own_row HP.out.own
      subst hpre
      rw [hv]
      have HR : Hid (Row wr ao' pre.length cap' 4 (tkCells pre)) := hrow
      have HB : Hid (Below w.heap.size w wr) := HP.out.below
      clear hrow HP hv
      go_wp2
      go_ret2
      exact ⟨⟨ao', cap', rfl, HR.out⟩, HB.out⟩
    | cons c t =>
      have e0 : (B (c :: t)).toList.isEmpty = false := by rw [toList_B]; rfl
      simp only [List.length_cons] at hlen
      have hsz : w.heap.size < wr.heap.size := HP.out.rest.lt
      go_wp2_with fail
      refine (token_any w.heap.size c t wr HP.out.rest HP.out.env (by omega)).mono ?_
      rintro e w2 ⟨k, whole, rest, rfl, hf, hR, hK⟩
      have hrl : rest.length ≤ t.length := by have := Tk.first_len c t; rw [hf] at this; exact this
      have hgo : (pre ++ if whole then [k] else []) ++ Tk.toks rest = Tk.toks l := by
        rw [← HP.out.go, Tk.toks_cons, hf, List.append_assoc]
      have HGo : Hid ((pre ++ if whole then [k] else []) ++ Tk.toks rest = Tk.toks l) := hgo
      have HR : Hid (Rd w2 w.heap.size rest) := hR
      have HO : Hid (w2.ownsRow (w.heap.size + 1) 30 4 u5 pre.length (tkCells pre)) := own_kept HP.out.own hK (Nat.lt_succ_self _)
      have HB : Hid (Below w.heap.size w w2) := HP.out.below.trans (hK.below (by omega) (fun x hx => by rw [List.mem_singleton.1 hx]; exact Nat.le_refl _))
      have HE : Hid (Env w2 w.heap.size) := HP.out.env.kept hK (Nat.le_refl _)
      have hsz2 : w.heap.size < w2.heap.size := hR.lt
      clear hf hgo hR hK HP
      obtain ⟨kk, kn, kt, kh⟩ := k
      unfold tkA
      simp only
      cases whole
      · have hb1 : Below w2.heap.size w2 (w2.alloc (.cells #[.int .i64 kk, .string (B kn), .string (B kt), .string (B kh)] 30)) := (Below.refl _ _).alloc (Nat.le_refl _) _
        have R2 : Hid (Rd (w2.alloc (.cells #[.int .i64 kk, .string (B kn), .string (B kt), .string (B kh)] 30)) w.heap.size rest) := HR.out.far hb1
        have P2 : Hid (PageAt w w.heap.size n l u5 (w2.alloc (.cells #[.int .i64 kk, .string (B kn), .string (B kt), .string (B kh)] 30)) pre rest) :=
          ⟨R2.out, by have := HGo.out; simpa using this, own_under HO.out hb1, HB.out.trans (hb1.mono (by omega)), HE.out.below hb1, by omega⟩
        clear hb1
        go_wp2
        go_roundw
        case rel => exact ⟨_, _, P2.out⟩
        case measure =>
          rw [left_of R2.out, hLeft.out]
          simp only [List.length_cons]
          omega
      · go_wp2_with (at_builtin; refine wpList_append_lies _ rfl (.tmp 22) (.tmp 24) 23 rfl (w.heap.size + 1) 30 i0 (tkA tk0) 4 56 Tryz.underlying23 hi hz0 hz1 hz2 rfl (by decide) u5 pre.length (tkCells pre) rfl ?c1 ⟨w2.heap.size + 1, 0, none⟩ 1 1 (tkC ⟨kk, kn, kt, kh⟩) rfl rfl ?c2 ?c3 (by decide) ?c4 ?c5 ?c6 _ rfl ?c7)
        case c1 => exact (HO.out.alloc _).alloc _
        case c2 => exact fun _ _ h => h
        case c3 => rw [← tkCells_one]; exact tkCells_oneCell _
        case c4 => unfold maxLen; omega
        case c5 => omega
        case c6 => omega
        case c7 =>
          intro g cap2 w3 hown hgrow _ _
          have hb1 : Below w2.heap.size w2 ((w2.alloc (.cells #[.int .i64 kk, .string (B kn), .string (B kt), .string (B kh)] 30)).alloc (.cells #[.int .i64 kk, .string (B kn), .string (B kt), .string (B kh)] 30)) := ((Below.refl _ _).alloc (Nat.le_refl _) _).alloc (by simp) _
          have hb2 : Below (w.heap.size + 1) w2 w3 := (hb1.mono (by omega)).grown hgrow (by simp; omega) (fun k hk => ownBlk_ge HO.out k hk)
          have R3 : Hid (Rd w3 w.heap.size rest) := (hb2.block _ (Nat.lt_succ_self _)).trans HR.out
          have E3 : Hid (Env w3 w.heap.size) := ⟨HE.out.pairs.below hb2 (Nat.lt_succ_of_lt HE.out.low.1), by obtain ⟨m, hm⟩ := HE.out.mx; exact ⟨m, (World.cell?_of_block (w := w2) (hb2.block _ (Nat.lt_succ_of_lt HE.out.low.2))).trans hm⟩, HE.out.low, Nat.le_trans HE.out.size hb2.size⟩
          have P3 : Hid (PageAt w w.heap.size n l (.slice (some ⟨g, 0, none⟩) (pre.length + 1) cap2) w3 (pre ++ [⟨kk, kn, kt, kh⟩]) rest) :=
            ⟨R3.out, HGo.out, by rw [List.length_append, tkCells_app, tkCells_one]; exact hown, HB.out.trans (hb2.mono (Nat.le_succ _)), E3.out, by simp; omega⟩
          clear hb1 hb2 hown hgrow
          go_wp2
          go_roundw
          case rel => exact ⟨_, _, P3.out⟩
          case measure =>
            rw [left_of R3.out, hLeft.out]
            simp only [List.length_cons]
            omega
end Go.Proofs.YtpcaiechaakhnabGreatDoor

/-
  sanitize.Page: whatever a page is, what is made of it is what chapter 6 says.
-/
namespace Go.Proofs.YtpcaiechaakhnabGreatDoor
open Go.RowKit

/-- What sanitize.Page comes to. -/
def Made1 (r : Option (List It)) (e : Ending) (w' : World) : Prop :=
  match r with
  | some d => ∃ ao cap, e = .returned (.tuple #[.slice ao d.length cap, .int .i64 0]) ∧ Doc w' ao d.length cap d
  | none => e = .returned (.tuple #[.slice none 0 0, .int .i64 2])

set_option maxRecDepth 100000 in
set_option maxHeartbeats 800000 in
theorem zpage_many (ao : Option Addr) (n cap : Nat) (w : World) (hn : 20000 < n) :
    Calls Tryz.prog 12 #[.slice ao n cap] w fun e w' => e = .returned (.tuple #[.slice none 0 0, .int .i64 2]) ∧ w' = w := by
  have CT : Hid (Calls Tryz.prog 8 #[.slice ao n cap] w fun e w' => e = .returned (.tuple #[.slice none 0 0, .int .i64 2]) ∧ w' = w) := tpage_many ao n cap w hn
  go_enter Tryz.func12, Tryz.ntmps12
  go_wp2_with fail
  refine CT.out.mono ?_
  rintro e w1 ⟨rfl, rfl⟩
  go_wp2
  go_ret2
  exact ⟨rfl, rfl⟩

theorem drop_cons {ts : List Tk} {k : Nat} (h : k < ts.length) : ts.drop k = ts[k] :: ts.drop (k + 1) := List.drop_eq_getElem_cons h
/-- A page whose tokens are being taken. -/
structure Zat (w1 : World) (b : Nat) (ts : List Tk) (k : Nat) (s : Sn.S) (v : Value) (wr : World) : Prop where
  go : Sn.run s (ts.drop k) = Sn.run Sn.s0 ts
  wk : Wk wr b s v
  below : Below b w1 wr
  few : s.d.length ≤ 80
  lim : Lim k s

theorem fit_nice {x : It} (h : Sn.Nice x) : x.l.size ≤ 9223372036854775807 := by
  have h1 := h.1
  have hl := len_list x.l
  rcases h1.2.2 with h2 | h2
  · rw [Lib.toList_data] at h2
    have : x.l.data.toList = [] := by simpa using h2
    rw [this] at hl
    simp at hl
    omega
  · by_cases h3 : 24 < x.l.data.toList.length
    · rw [may_len _ (.inr h3)] at h2
      cases h2
    · omega
theorem made_doc {ts : List Tk} {d : List It} {w : World} {b : Nat} {v : Value} (hr : Sn.read ts = some d) (ho : w.ownsRow (b + 1) 39 3 v d.length (itCells d)) : ∃ ao cap, v = .slice ao d.length cap ∧ Doc w ao d.length cap d := by
  obtain ⟨hN, h80, k, x, hk, _⟩ := Sn.read_doc hr
  have hne : d.length ≠ 0 := by rw [hk]; simp
  rcases ho.2 with ⟨hv, h0⟩ | ⟨g, cap, cur, rfl, hg, hh, h1, h2, h3, h4⟩
  · exact absurd h0 hne
  · unfold maxLen at h2
    exact ⟨_, cap, rfl, fun y hy => fit_nice (hN y hy), rfl, h1, by omega, fun _ => ⟨g, 0, rfl, own_at ho⟩⟩

theorem run_end {ts : List Tk} {k : Nat} {s : Sn.S} (h : Sn.run s (ts.drop k) = Sn.run Sn.s0 ts) (hk : ts.length ≤ k) : Sn.read ts = Sn.fin s := by
  rw [List.drop_eq_nil_of_le hk] at h
  unfold Sn.read
  rw [← h]
  rfl
theorem run_more {ts : List Tk} {k : Nat} {s : Sn.S} (h : Sn.run s (ts.drop k) = Sn.run Sn.s0 ts) (hk : k < ts.length) (h80 : 80 < (Sn.step s ts[k]).d.length) : Sn.read ts = none := by
  rw [drop_cons hk, Sn.run, if_pos h80] at h
  unfold Sn.read
  rw [← h]
  rfl
theorem run_on {ts : List Tk} {k : Nat} {s : Sn.S} (h : Sn.run s (ts.drop k) = Sn.run Sn.s0 ts) (hk : k < ts.length) (h80 : ¬ 80 < (Sn.step s ts[k]).d.length) : Sn.run (Sn.step s ts[k]) (ts.drop (k + 1)) = Sn.run Sn.s0 ts := by
  rw [drop_cons hk, Sn.run, if_neg h80] at h
  exact h
theorem fin_many {s : Sn.S} (h : 80 < (Sn.shut s).d.length) : Sn.fin s = none := by
  unfold Sn.fin Sn.all
  have : (Sn.shut s).d.isEmpty = false := by
    cases hd : (Sn.shut s).d with
    | nil => rw [hd] at h; simp at h
    | cons _ _ => rfl
  rw [this, if_neg Bool.false_ne_true, if_pos h]
theorem fin_some {s : Sn.S} (h0 : (Sn.shut s).d.length ≠ 0) (h : ¬ 80 < (Sn.shut s).d.length) : Sn.fin s = some (Sn.shut s).d := by
  unfold Sn.fin Sn.all
  have : (Sn.shut s).d.isEmpty = false := by
    cases hd : (Sn.shut s).d with
    | nil => rw [hd] at h0; simp at h0
    | cons _ _ => rfl
  rw [this, if_neg Bool.false_ne_true, if_neg h]
theorem fin_none {s : Sn.S} (h0 : (Sn.shut s).d.length = 0) : Sn.fin s = some ((Sn.shut s).plus (Sn.endOf 0)).d := by
  have hd : (Sn.shut s).d = [] := List.length_eq_zero_iff.1 h0
  unfold Sn.fin Sn.all Sn.S.plus
  rw [hd]
  rfl

set_option maxRecDepth 100000 in
set_option maxHeartbeats 6400000 in
theorem zpage_ok (ao : Option Addr) (n cap : Nat) (l : List UInt8) (w : World) (hB : Byt w ao n cap l) (hE : Env w w.heap.size) (hZ : Zt w w.heap.size) (hn : n ≤ 20000) :
    Calls Tryz.prog 12 #[.slice ao n cap] w fun e w' => Made1 (Sn.read (Tk.toks l)) e w' ∧ Below w.heap.size w w' := by
  have hll := hB.bytes
  have CT : Hid (Calls Tryz.prog 8 #[.slice ao n cap] w fun e w' => (∃ ao' cap', e = .returned (.tuple #[.slice ao' (Tk.toks l).length cap', .int .i64 0]) ∧ Tks w' ao' (Tk.toks l).length cap' (Tk.toks l)) ∧ Below w.heap.size w w') := tpage_ok ao n cap l w hB hE hn
  have HF : Hid (∀ t ∈ Tk.toks l, Tk.Fits 20000 t) := fun t ht => Tk.toks_fits Esc.rd_len 20000 l (by omega) t ht
  have hct : (Tk.toks l).length ≤ 20000 := Nat.le_trans (Tk.toks_count _ l (Nat.le_refl _)) (by omega)
  have HZ : Hid (Zt w w.heap.size) := hZ
  clear hB hE hZ hll
  generalize Tk.toks l = ts at *
  obtain ⟨m, hm⟩ : ∃ m, ts.length = m := ⟨_, rfl⟩
  have HM : Hid (ts.length = m) := hm
  rw [hm] at hct CT
  clear hm
  go_enter Tryz.func12, Tryz.ntmps12
  go_wp2_with fail
  refine CT.out.mono ?_
  rintro e w1 ⟨⟨ao', cap', rfl, hT⟩, hb⟩
  have HT : Hid (Tks w1 ao' m cap' ts) := hT
  have HB1 : Hid (Below w.heap.size w w1) := hb
  have hcap := hT.room
  have hbig := hT.big
  have hb2 : Below w1.heap.size w1 (w1.alloc (.cells (zcells (.slice none 0 0) Sn.s0).toArray 58)) := (Below.refl _ _).alloc (Nat.le_refl _) _
  have HZ1 : Hid (Zt w1 w1.heap.size) := ⟨(HZ.out.below hb).bn, (HZ.out.below hb).hn, (HZ.out.below hb).sch, Nat.lt_of_lt_of_le HZ.out.b1 hb.size, Nat.lt_of_lt_of_le HZ.out.b2 hb.size, Nat.lt_of_lt_of_le HZ.out.b3 hb.size⟩
  have H0 : Hid (Zat w1 w1.heap.size ts 0 Sn.s0 (.slice none 0 0) (w1.alloc (.cells (zcells (.slice none 0 0) Sn.s0).toArray 58))) :=
    ⟨rfl, ⟨Blk.new w1 (zcells (.slice none 0 0) Sn.s0) _, World.ownsRow_nil _ _ _ _⟩, hb2, Nat.zero_le _, ⟨Int.le_refl _, Int.le_refl _, Int.le_refl _, Int.le_refl _⟩⟩
  clear hT hb hb2 CT HZ
  go_wp2
  go_loopw [19] (fun i wr => ∃ k s v, i = .int .i64 (k : Nat) ∧ k ≤ m ∧ Zat w1 w1.heap.size ts k s v wr) (fun i _ => m - (intOf i).toNat)
  case atStart => exact ⟨0, _, _, rfl, Nat.zero_le _, H0.out⟩
  case round =>
    obtain ⟨k, s, v, rfl, hk, hz⟩ := hrel
    have HZA : Hid (Zat w1 w1.heap.size ts k s v wr) := hz
    have HZW : Hid (Zt wr w1.heap.size) := HZ1.out.below hz.below
    clear hz H0
    by_cases hkl : k < m
    · have hkt : k < ts.length := by rw [HM.out]; exact hkl
      obtain ⟨tb, off, rfl, hc⟩ := HT.out.tok (by omega)
      obtain ⟨q0, q1, q2, q3⟩ := hc k hkt
      have hlt : tb < w1.heap.size := World.block_lt_of_cell? _ _ q0
      have up : ∀ j u, w1.cell? ⟨tb, j, none⟩ = some u → wr.cell? ⟨tb, j, none⟩ = some u := fun j u h => (World.cell?_of_block (w := w1) (HZA.out.below.block tb hlt)).trans h
      have r0 := up _ _ q0
      have r1 := up _ _ q1
      have r2 := up _ _ q2
      have r3 := up _ _ q3
      obtain ⟨t, ht⟩ : ∃ t, ts[k] = t := ⟨_, rfl⟩
      rw [ht] at r0 r1 r2 r3
      have HTE : Hid (ts[k] = t) := ht
      have HFT : Hid (Tk.Fits 20000 t) := by rw [← ht]; exact HF.out _ (List.getElem_mem hkt)
      clear hc q0 q1 q2 q3 up ht
      have hb3 : Below wr.heap.size wr (wr.alloc (.cells #[.int .i64 t.kind, .string (B t.name), .string (B t.text), .string (B t.href)] 30)) := (Below.refl _ _).alloc (Nat.le_refl _) _
      have CTK : Hid (Calls Tryz.prog 31 #[.pointer (some ⟨w1.heap.size, 0, none⟩), .agg #[.int .i64 t.kind, .string (B t.name), .string (B t.text), .string (B t.href)]] (wr.alloc (.cells #[.int .i64 t.kind, .string (B t.name), .string (B t.text), .string (B t.href)] 30)) fun e w' => e = .returned (.tuple #[]) ∧ PutTo wr w1.heap.size v w' (Sn.step s t)) :=
        (ztake_any w1.heap.size s v t _ (HZA.out.wk.under hb3) (HZW.out.under hb3 (Nat.le_of_lt HZA.out.wk.big)) HZA.out.few (HZA.out.lim.mono (by omega)) HFT.out).mono fun e w2 h => ⟨h.1, PutTo.pre hb3 h.2⟩
      clear hb3 HFT
      go_wp2_with fail
      refine CTK.out.mono ?_
      rintro e w2 ⟨rfl, hP⟩
      obtain ⟨⟨v1, hW1, hv1⟩, hK1⟩ := hP
      obtain ⟨ao2, cap2, rfl, -⟩ := own_row hW1.own
      have d0 : w2.cell? ⟨w1.heap.size, 0, none⟩ = some (.slice ao2 (Sn.step s t).d.length cap2) := hW1.blk.cell 0
      have HW1 : Hid (Wk w2 w1.heap.size (Sn.step s t) (.slice ao2 (Sn.step s t).d.length cap2)) := hW1
      have HB2 : Hid (Below w1.heap.size w1 w2) := HZA.out.below.trans (HZA.out.wk.blw hK1)
      have HBW : Hid (Below w.heap.size w w2) := HB1.out.trans (HB2.out.mono HB1.out.size)
      clear hW1 hv1 hK1 r0 r1 r2 r3 CTK
      obtain ⟨N, hN⟩ : ∃ N, (Sn.step s t).d.length = N := ⟨_, rfl⟩
      have HN : Hid ((Sn.step s t).d.length = N) := hN
      rw [hN] at d0
      clear hN
      by_cases h80 : 80 < N
      · have CM : Hid (Calls Tryz.prog 32 #[.pointer (some ⟨w1.heap.size, 0, none⟩)] w2 fun e w' => e = .returned (.bool true) ∧ w' = w2) := by have := tooMany_any w1.heap.size N cap2 ao2 w2 d0; rw [decide_eq_true h80] at this; exact this
        clear d0
        go_wp2_with fail
        refine CM.out.mono ?_
        rintro e w3 ⟨rfl, rfl⟩
        go_wp2
        go_ret2
        refine ⟨?_, HBW.out⟩
        rw [run_more HZA.out.go hkt (by rw [HTE.out, HN.out]; exact h80)]
        exact rfl
      · have CM : Hid (Calls Tryz.prog 32 #[.pointer (some ⟨w1.heap.size, 0, none⟩)] w2 fun e w' => e = .returned (.bool false) ∧ w' = w2) := by have := tooMany_any w1.heap.size N cap2 ao2 w2 d0; rw [decide_eq_false h80] at this; exact this
        have HZN : Hid (Zat w1 w1.heap.size ts (k + 1) (Sn.step s t) (.slice ao2 (Sn.step s t).d.length cap2) w2) :=
          ⟨by have := run_on HZA.out.go hkt (by rw [HTE.out, HN.out]; exact h80); rw [HTE.out] at this; exact this, HW1.out, HB2.out, by rw [HN.out]; omega, lim_step HZA.out.lim t⟩
        clear d0
        go_wp2_with fail
        refine CM.out.mono ?_
        rintro e w3 ⟨rfl, rfl⟩
        go_wp2
        go_roundw
        case rel => exact ⟨k + 1, _, _, by go_num, by omega, HZN.out⟩
        case measure => simp [intOf]; omega
    · obtain rfl : k = m := by omega
      have HR : Hid (Sn.read ts = Sn.fin s) := run_end HZA.out.go (by rw [HM.out]; exact Nat.le_refl _)
      go_wp2_with fail
      refine (endBlock_any w1.heap.size s v wr HZA.out.wk (by have := HZA.out.few; omega)).mono ?_
      rintro e w2 ⟨rfl, ⟨v1, hW1, hv1⟩, hK1⟩
      obtain ⟨ao2, cap2, rfl, -⟩ := own_row hW1.own
      have d0 : w2.cell? ⟨w1.heap.size, 0, none⟩ = some (.slice ao2 (Sn.shut s).d.length cap2) := hW1.blk.cell 0
      have HW1 : Hid (Wk w2 w1.heap.size (Sn.shut s) (.slice ao2 (Sn.shut s).d.length cap2)) := hW1
      have HB2 : Hid (Below w1.heap.size w1 w2) := HZA.out.below.trans (HZA.out.wk.blw hK1)
      have HBW : Hid (Below w.heap.size w w2) := HB1.out.trans (HB2.out.mono HB1.out.size)
      clear hW1 hv1 hK1
      obtain ⟨N, hN⟩ : ∃ N, (Sn.shut s).d.length = N := ⟨_, rfl⟩
      have HN : Hid ((Sn.shut s).d.length = N) := hN
      rw [hN] at d0 HW1
      clear hN
      by_cases h0 : N = 0
      · have hl0 : (Sn.shut s).d.length = 0 := HN.out.trans h0
        have HRS : Hid (Sn.read ts = some ((Sn.shut s).plus (Sn.endOf 0)).d) := HR.out.trans (fin_none hl0)
        have CP : Hid (Calls Tryz.prog 34 #[.pointer (some ⟨w1.heap.size, 0, none⟩), .int .u8 10, .int .i64 0, .string ⟨#[]⟩] w2 fun e w3 => e = .returned (.tuple #[]) ∧ PutTo w2 w1.heap.size (.slice ao2 N cap2) w3 ((Sn.shut s).plus (Sn.endOf 0))) := put_any w1.heap.size (Sn.shut s) _ (Sn.endOf 0) w2 HW1.out (by rw [hl0]; decide)
        have hlen : ((Sn.shut s).plus (Sn.endOf 0)).d.length = 1 := by unfold Sn.S.plus; simp [hl0]
        have HLen : Hid (((Sn.shut s).plus (Sn.endOf 0)).d.length = 1) := hlen
        subst h0
        clear hl0 hlen
        go_wp2_with fail
        refine CP.out.mono ?_
        rintro e w3 ⟨rfl, ⟨v2, hW2, hv2⟩, hK2⟩
        have ho := hW2.own
        obtain ⟨ao3, cap3, rfl, hDD⟩ := made_doc HRS.out ho
        have d3 : w3.cell? ⟨w1.heap.size, 0, none⟩ = some (.slice ao3 ((Sn.shut s).plus (Sn.endOf 0)).d.length cap3) := hW2.blk.cell 0
        rw [HLen.out] at d3
        have HD : Hid (Doc w3 ao3 ((Sn.shut s).plus (Sn.endOf 0)).d.length cap3 ((Sn.shut s).plus (Sn.endOf 0)).d) := hDD
        have HB3 : Hid (Below w.heap.size w w3) := HBW.out.trans ((HW1.out.blw hK2).mono HB1.out.size)
        have CM : Hid (Calls Tryz.prog 32 #[.pointer (some ⟨w1.heap.size, 0, none⟩)] w3 fun e w' => e = .returned (.bool false) ∧ w' = w3) := tooMany_any w1.heap.size 1 cap3 ao3 w3 d3
        clear ho hW2 hv2 hK2 hDD d0
        go_wp2_with fail
        refine CM.out.mono ?_
        rintro e w4 ⟨rfl, rfl⟩
        go_wp2
        go_ret2
        refine ⟨?_, HB3.out⟩
        rw [HRS.out]
        exact ⟨ao3, cap3, by rw [HLen.out]; rfl, HD.out⟩
      · by_cases h80 : 80 < N
        · have CM : Hid (Calls Tryz.prog 32 #[.pointer (some ⟨w1.heap.size, 0, none⟩)] w2 fun e w' => e = .returned (.bool true) ∧ w' = w2) := by have := tooMany_any w1.heap.size N cap2 ao2 w2 d0; rw [decide_eq_true h80] at this; exact this
          go_wp2_with fail
          refine CM.out.mono ?_
          rintro e w3 ⟨rfl, rfl⟩
          go_wp2
          go_ret2
          refine ⟨?_, HBW.out⟩
          rw [HR.out, fin_many (by rw [HN.out]; exact h80)]
          exact rfl
        · have CM : Hid (Calls Tryz.prog 32 #[.pointer (some ⟨w1.heap.size, 0, none⟩)] w2 fun e w' => e = .returned (.bool false) ∧ w' = w2) := by have := tooMany_any w1.heap.size N cap2 ao2 w2 d0; rw [decide_eq_false h80] at this; exact this
          have HRS : Hid (Sn.read ts = some (Sn.shut s).d) := HR.out.trans (fin_some (by rw [HN.out]; exact h0) (by rw [HN.out]; exact h80))
          go_wp2_with fail
          refine CM.out.mono ?_
          rintro e w3 ⟨rfl, rfl⟩
          go_wp2
          go_ret2
          refine ⟨?_, HBW.out⟩
          rw [HRS.out]
          have ho := HW1.out.own
          obtain ⟨ao3, cap3, he, hDD⟩ := made_doc HRS.out ho
          rw [HN.out] at he
          simp only [Value.slice.injEq, true_and] at he
          obtain ⟨rfl, rfl⟩ := he
          exact ⟨ao2, cap2, by rw [HN.out]; rfl, hDD⟩
end Go.Proofs.YtpcaiechaakhnabGreatDoor

/-
  escape.appendWritten: onto a slice of bytes that the call's caller owns, the way in which one byte is written is appended; the variable 'pairs' holding what its initialiser lays.
-/
namespace Go.Proofs.YtpcaiechaakhnabGreatDoor
open Go.RowKit

/-- What appendWritten comes to. -/
def AwPost (B n : Nat) (xs : List Value) (c : UInt8) (W0 : World) (e : Ending) (w' : World) : Prop :=
  ∃ v', e = .returned v' ∧ Lib.OwnBuf B 5 v' (n + (Esc.enc1 c).length) (xs ++ (Esc.enc1 c).map b8) W0 w'

set_option maxRecDepth 100000 in
set_option maxHeartbeats 800000 in
theorem aw_38 (B n : Nat) (v : Value) (xs : List Value) (W0 w : World) (hp : Pairs w) (hb : Lib.OwnBuf B 5 v n xs W0 w) (hn : n + 6 ≤ 140737488355328) :
    Calls Tryz.prog 115 #[v, .int .u8 38] w (AwPost B n xs 38 W0) := by
  obtain ⟨t, fr, hg⟩ := hp
  have Hg : Hid (w.heap[7]? = some (.cells pcells t fr)) := hg
  clear hg
  obtain ⟨i5, hi, hz0, hz1, hz2⟩ := info_parts Tryz.info5w
  have i0 := idx0
  go_enter Tryz.func115, Tryz.ntmps115
  go_wp2_with (refine wpList_load_row rfl 176 _ rfl 7 rfl t _ fr _ Hg.out Tryz.underlying176 rfl sz40 ?_)
  refine wp_loop_rounds 5 ?_
  rw [rounds_succ]
  go_wp2_with (at_builtin; refine Lib.wpList_append_text rfl (.tmp 15) (.tmp 17) 22 9 rfl B 5 i5 Tryz.underlying22 Tryz.underlying9 hi hz0 hz1 hz2 v n xs rfl W0 (hb.alloc _) ⟨#[38, 97, 109, 112, 59]⟩ rfl ?_ ?_)
  · show n + 5 ≤ _; omega
  · intro v' w1 hb1
    go_wp2
    go_ret
    exact ⟨v', rfl, hb1⟩

set_option maxRecDepth 100000 in
set_option maxHeartbeats 800000 in
theorem aw_60 (B n : Nat) (v : Value) (xs : List Value) (W0 w : World) (hp : Pairs w) (hb : Lib.OwnBuf B 5 v n xs W0 w) (hn : n + 6 ≤ 140737488355328) :
    Calls Tryz.prog 115 #[v, .int .u8 60] w (AwPost B n xs 60 W0) := by
  obtain ⟨t, fr, hg⟩ := hp
  have Hg : Hid (w.heap[7]? = some (.cells pcells t fr)) := hg
  clear hg
  obtain ⟨i5, hi, hz0, hz1, hz2⟩ := info_parts Tryz.info5w
  have i0 := idx0
  have i1 := idx1
  have i2 := idx2
  have i3 := idx3
  go_enter Tryz.func115, Tryz.ntmps115
  go_wp2_with (refine wpList_load_row rfl 176 _ rfl 7 rfl t _ fr _ Hg.out Tryz.underlying176 rfl sz40 ?_)
  refine wp_loop_rounds 5 ?_
  rw [rounds_succ]
  go_wp2
  rw [rounds_succ]
  go_wp2_with (at_builtin; refine Lib.wpList_append_text rfl (.tmp 15) (.tmp 17) 22 9 rfl B 5 i5 Tryz.underlying22 Tryz.underlying9 hi hz0 hz1 hz2 v n xs rfl W0 ((hb.alloc _).alloc _) ⟨#[38, 108, 116, 59]⟩ rfl ?_ ?_)
  · show n + 4 ≤ _; omega
  · intro v' w1 hb1
    go_wp2
    go_ret
    exact ⟨v', rfl, hb1⟩

set_option maxRecDepth 100000 in
set_option maxHeartbeats 800000 in
theorem aw_62 (B n : Nat) (v : Value) (xs : List Value) (W0 w : World) (hp : Pairs w) (hb : Lib.OwnBuf B 5 v n xs W0 w) (hn : n + 6 ≤ 140737488355328) :
    Calls Tryz.prog 115 #[v, .int .u8 62] w (AwPost B n xs 62 W0) := by
  obtain ⟨t, fr, hg⟩ := hp
  have Hg : Hid (w.heap[7]? = some (.cells pcells t fr)) := hg
  clear hg
  obtain ⟨i5, hi, hz0, hz1, hz2⟩ := info_parts Tryz.info5w
  have i0 := idx0
  have i1 := idx1
  have i2 := idx2
  have i3 := idx3
  go_enter Tryz.func115, Tryz.ntmps115
  go_wp2_with (refine wpList_load_row rfl 176 _ rfl 7 rfl t _ fr _ Hg.out Tryz.underlying176 rfl sz40 ?_)
  refine wp_loop_rounds 5 ?_
  rw [rounds_succ]
  go_wp2
  rw [rounds_succ]
  go_wp2
  rw [rounds_succ]
  go_wp2_with (at_builtin; refine Lib.wpList_append_text rfl (.tmp 15) (.tmp 17) 22 9 rfl B 5 i5 Tryz.underlying22 Tryz.underlying9 hi hz0 hz1 hz2 v n xs rfl W0 (((hb.alloc _).alloc _).alloc _) ⟨#[38, 103, 116, 59]⟩ rfl ?_ ?_)
  · show n + 4 ≤ _; omega
  · intro v' w1 hb1
    go_wp2
    go_ret
    exact ⟨v', rfl, hb1⟩

set_option maxRecDepth 100000 in
set_option maxHeartbeats 800000 in
theorem aw_34 (B n : Nat) (v : Value) (xs : List Value) (W0 w : World) (hp : Pairs w) (hb : Lib.OwnBuf B 5 v n xs W0 w) (hn : n + 6 ≤ 140737488355328) :
    Calls Tryz.prog 115 #[v, .int .u8 34] w (AwPost B n xs 34 W0) := by
  obtain ⟨t, fr, hg⟩ := hp
  have Hg : Hid (w.heap[7]? = some (.cells pcells t fr)) := hg
  clear hg
  obtain ⟨i5, hi, hz0, hz1, hz2⟩ := info_parts Tryz.info5w
  have i0 := idx0
  have i1 := idx1
  have i2 := idx2
  have i3 := idx3
  go_enter Tryz.func115, Tryz.ntmps115
  go_wp2_with (refine wpList_load_row rfl 176 _ rfl 7 rfl t _ fr _ Hg.out Tryz.underlying176 rfl sz40 ?_)
  refine wp_loop_rounds 5 ?_
  rw [rounds_succ]
  go_wp2
  rw [rounds_succ]
  go_wp2
  rw [rounds_succ]
  go_wp2
  rw [rounds_succ]
  go_wp2_with (at_builtin; refine Lib.wpList_append_text rfl (.tmp 15) (.tmp 17) 22 9 rfl B 5 i5 Tryz.underlying22 Tryz.underlying9 hi hz0 hz1 hz2 v n xs rfl W0 ((((hb.alloc _).alloc _).alloc _).alloc _) ⟨#[38, 113, 117, 111, 116, 59]⟩ rfl ?_ ?_)
  · show n + 6 ≤ _; omega
  · intro v' w1 hb1
    go_wp2
    go_ret
    exact ⟨v', rfl, hb1⟩

set_option maxRecDepth 100000 in
set_option maxHeartbeats 1600000 in
theorem aw_plain (B n : Nat) (v : Value) (xs : List Value) (W0 w : World) (c : UInt8) (h1 : c ≠ 38) (h2 : c ≠ 60) (h3 : c ≠ 62) (h4 : c ≠ 34) (hp : Pairs w) (hb : Lib.OwnBuf B 5 v n xs W0 w) (hn : n + 6 ≤ 140737488355328) :
    Calls Tryz.prog 115 #[v, .int .u8 c.toNat] w (AwPost B n xs c W0) := by
  have he : Esc.enc1 c = [c] := by simp [Esc.enc1, h1, h2, h3, h4]
  have hne : ∀ k : UInt8, c ≠ k → ((k.toNat : Int) == (c.toNat : Int)) = false := fun k hk => beq_eq_false_iff_ne.2 (fun e => hk (UInt8.toNat_inj.1 (by omega)))
  have q1 : ((38 : Int) == (c.toNat : Int)) = false := hne 38 h1
  have q2 : ((60 : Int) == (c.toNat : Int)) = false := hne 60 h2
  have q3 : ((62 : Int) == (c.toNat : Int)) = false := hne 62 h3
  have q4 : ((34 : Int) == (c.toNat : Int)) = false := hne 34 h4
  clear h1 h2 h3 h4 hne
  have HE : Hid (Esc.enc1 c = [c]) := he
  clear he
  obtain ⟨t, fr, hg⟩ := hp
  have Hg : Hid (w.heap[7]? = some (.cells pcells t fr)) := hg
  clear hg
  obtain ⟨i5, hi, hz0, hz1, hz2⟩ := info_parts Tryz.info5w
  have i0 := idx0
  have i1 := idx1
  have i2 := idx2
  have i3 := idx3
  go_enter Tryz.func115, Tryz.ntmps115
  go_wp2_with (refine wpList_load_row rfl 176 _ rfl 7 rfl t _ fr _ Hg.out Tryz.underlying176 rfl sz40 ?_)
  refine wp_loop_rounds 5 ?_
  rw [rounds_succ]
  go_wp2
  rw [rounds_succ]
  go_wp2
  rw [rounds_succ]
  go_wp2
  rw [rounds_succ]
  go_wp2
  rw [rounds_succ]
  go_wp2_with (at_builtin; refine Lib.wpList_append_byte rfl (.tmp 20) (.tmp 22) 22 rfl B 5 i5 Tryz.underlying22 hi hz0 hz1 hz2 v n xs rfl W0 _ c.toNat ((((hb.alloc _).alloc _).alloc _).alloc _) ?_ ?_ ?_)
  · simp [Act.eval, go_sem]
  · omega
  · intro v' w1 hb1
    go_wp2
    go_ret
    exact ⟨v', rfl, by rw [HE.out]; exact hb1⟩

theorem aw_any (B n : Nat) (v : Value) (xs : List Value) (W0 w : World) (c : UInt8) (hp : Pairs w) (hb : Lib.OwnBuf B 5 v n xs W0 w) (hn : n + 6 ≤ 140737488355328) :
    Calls Tryz.prog 115 #[v, .int .u8 c.toNat] w (AwPost B n xs c W0) := by
  by_cases h1 : c = 38
  · subst h1; exact aw_38 B n v xs W0 w hp hb hn
  by_cases h2 : c = 60
  · subst h2; exact aw_60 B n v xs W0 w hp hb hn
  by_cases h3 : c = 62
  · subst h3; exact aw_62 B n v xs W0 w hp hb hn
  by_cases h4 : c = 34
  · subst h4; exact aw_34 B n v xs W0 w hp hb hn
  exact aw_plain B n v xs W0 w c h1 h2 h3 h4 hp hb hn
end Go.Proofs.YtpcaiechaakhnabGreatDoor

/-
  escape.Write: what it comes to at every text, the variable 'pairs' holding what its initialiser lays.
-/
namespace Go.Proofs.YtpcaiechaakhnabGreatDoor
open Go.RowKit

set_option maxHeartbeats 400000 in
theorem write_many (s : ByteArray) (w : World) (hs : s.size ≤ maxLen) (h : 20000 < s.size) :
    Calls Tryz.prog 99 #[.string s] w fun e w' => e = .returned (.tuple #[.string ⟨#[]⟩, .int .i64 2]) ∧ w' = w := by
  unfold maxLen at hs
  go_enter Tryz.func99, Tryz.ntmps99
  go_wp2
  go_ret2
  exact ⟨rfl, rfl⟩

set_option maxRecDepth 100000 in
set_option maxHeartbeats 1600000 in
theorem write_ok (s : ByteArray) (w : World) (hp : Pairs w) (hs : s.size ≤ 20000) :
    Calls Tryz.prog 99 #[.string s] w fun e w' => e = .returned (.tuple #[.string ⟨(Esc.wr s.data.toList).toArray⟩, .int .i64 0]) ∧ Below w.heap.size w w' := by
  have HP : Hid (Pairs w) := hp
  have hpos := hp.pos
  clear hp
  obtain ⟨i5, hi, hz0, hz1, hz2⟩ := info_parts Tryz.info5w
  go_enter Tryz.func99, Tryz.ntmps99
  go_wp2_with (at_make; refine wpList_make_own _ rfl _ _ 22 rfl w.heap.size 5 i5 (.int .u8 0) 1 Tryz.underlying22 hi hz0 hz1 _ _ _ s.size rfl rfl (by omega) ?_ ?_ ?_ ?_)
  · rw [hz2]; omega
  · unfold maxLen; omega
  · exact Nat.le_refl _
  intro w1 hown hgrow
  have hob := own_make hown hgrow
  have HO : Hid (Lib.OwnBuf w.heap.size 5 (.slice (some ⟨w.heap.size, 0, none⟩) 0 s.size) 0 [] w w1) := hob
  clear hown hgrow hob
  go_wp2
  go_loopw [4, 5] (fun v i wr => ∃ k : Nat, k ≤ s.size ∧ i = .int .i64 k ∧ Lib.OwnBuf w.heap.size 5 v (Esc.wr (s.data.toList.take k)).length ((Esc.wr (s.data.toList.take k)).map b8) w wr) (fun _ i _ => s.size - (intOf i).toNat)
  case atStart => exact ⟨0, Nat.zero_le _, rfl, by simpa [Esc.wr] using HO.out⟩
  case round =>
    obtain ⟨k, hk, rfl, hob⟩ := hrel
    have HR : Hid (Lib.OwnBuf w.heap.size 5 u4 (Esc.wr (s.data.toList.take k)).length ((Esc.wr (s.data.toList.take k)).map b8) w wr) := hob
    clear hob
    by_cases hlt : k < s.size
    · go_wp2_with fail
      refine (aw_any w.heap.size _ _ _ w _ s[k] (HP.out.below HR.out.2.1 hpos) HR.out ?_).mono ?_
      · have := (Esc.wr_len (s.data.toList.take k)).2
        have h2 : (s.data.toList.take k).length ≤ k := List.length_take_le _ _
        omega
      rintro e w2 ⟨v', rfl, hb2⟩
      have HB : Hid (Lib.OwnBuf w.heap.size 5 v' (Esc.wr (s.data.toList.take (k + 1))).length ((Esc.wr (s.data.toList.take (k + 1))).map b8) w w2) := by
        rw [take_snoc s k hlt, Esc.wr_append, Esc.wr_one, List.length_append, List.map_append]; exact hb2
      clear hb2
      go_wp2
      go_roundw
      case rel => exact ⟨k + 1, by omega, by go_num, HB.out⟩
      case measure => simp [intOf]; omega
    · have hkk : s.data.toList.take k = s.data.toList := List.take_of_length_le (by simp; omega)
      have hcv := conv_esc HR.out
      rw [hkk] at hcv
      go_wp2
      go_ret2
      exact ⟨rfl, HR.out.2.1⟩
end Go.Proofs.YtpcaiechaakhnabGreatDoor

/-
  The reference's WrittenSo: the text as it is written.
-/
namespace Go.Proofs.YtpcaiechaakhnabGreatDoor
open Go.RowKit

theorem size_mk (l : List UInt8) : (⟨l.toArray⟩ : ByteArray).size = l.length := by
  show (l.toArray).size = _
  simp

/-- The text that s is written as. -/
def wrB (s : ByteArray) : ByteArray := ⟨(Esc.wr s.data.toList).toArray⟩
theorem wrB_list (s : ByteArray) : (wrB s).data.toList = Esc.wr s.data.toList := by simp [wrB]
theorem wrB_size (s : ByteArray) : (wrB s).size = (Esc.wr s.data.toList).length := size_mk _
theorem wrB_le (s : ByteArray) : s.size ≤ (wrB s).size ∧ (wrB s).size ≤ 6 * s.size := by
  rw [wrB_size, ← len_list s]; exact Esc.wr_len _

/-- What is written of the first k bytes. -/
def wrP (s : ByteArray) (k : Nat) : ByteArray := ⟨(Esc.wr (s.data.toList.take k)).toArray⟩
theorem wrP_zero (s : ByteArray) : wrP s 0 = ⟨#[]⟩ := by simp [wrP, Esc.wr]
theorem wrP_all (s : ByteArray) (k : Nat) (h : s.size ≤ k) : wrP s k = wrB s := by
  unfold wrP wrB
  rw [List.take_of_length_le (by rw [len_list]; exact h)]
theorem wrP_succ (s : ByteArray) (k : Nat) (h : k < s.size) : wrP s (k + 1) = wrP s k ++ ⟨(Esc.enc1 (s[k]'h)).toArray⟩ := by
  unfold wrP
  rw [take_snoc s k h, Esc.wr_append, Esc.wr_one]
  apply ByteArray.ext
  rw [ByteArray.data_append]
  simp
theorem wrP_size (s : ByteArray) (k : Nat) : (wrP s k).size ≤ 6 * k := by
  have h1 := (Esc.wr_len (s.data.toList.take k)).2
  have h2 : (s.data.toList.take k).length ≤ k := List.length_take_le _ _
  rw [wrP, size_mk]
  omega
theorem size_one' (c : UInt8) : (ByteArray.mk #[c]).size = 1 := rfl
theorem one_byte (s : ByteArray) (k : Nat) (h : k < s.size) : s.extract k (k + 1) = ⟨#[s[k]'h]⟩ := by
  have : (s.extract k (k + 1)).data.toList = [s[k]'h] := by
    rw [Lib.extract_data, Nat.add_sub_cancel_left, List.drop_eq_getElem_cons (by rw [len_list]; exact h)]
    rfl
  apply ByteArray.ext
  apply Array.ext'
  exact this

set_option maxRecDepth 100000 in
set_option maxHeartbeats 3200000 in
theorem writtenSo_any (s : ByteArray) (w : World) (hs : s.size ≤ 20000) :
    Calls Tryz.prog 20 #[.string s] w fun e w' => e = .returned (.string (wrB s)) ∧ w' = w := by
  go_enter Tryz.func20, Tryz.ntmps20
  go_wp2
  go_loop [3, 7] (fun o i => ∃ k : Nat, k ≤ s.size ∧ i = .int .i64 k ∧ o = .string (wrP s k)) (fun _ i => s.size - (intOf i).toNat)
  case atStart => exact ⟨0, Nat.zero_le _, rfl, by rw [wrP_zero]⟩
  case round =>
    obtain ⟨k, hk, rfl, rfl⟩ := hrel
    have hz := wrP_size s k
    by_cases hlt : k < s.size
    · obtain ⟨c, hc⟩ : ∃ c : UInt8, s[k]'hlt = c := ⟨_, rfl⟩
      have hix := run_index_at s k hlt
      rw [hc] at hix
      have HS : Hid (wrP s (k + 1) = wrP s k ++ ⟨(Esc.enc1 c).toArray⟩) := by show _ = _; rw [wrP_succ s k hlt, hc]
      have hsl : ∀ w, (Instr.slice 9 (.string s) (some (.int .i64 k)) (some (.int .i64 ((k : Int) + 1))) none).run Tryz.prog w = .ok (.string ⟨#[c]⟩) w := fun w => by
        have := run_slice_string (P := Tryz.prog) (w := w) 9 s .i64 .i64 (k : Int) ((k : Int) + 1) Tryz.underlying9 (by omega) (by omega) (by omega)
        rw [this, ← hc, ← one_byte s k hlt]
        congr 3
      clear hc
      by_cases h1 : c = 38
      · subst h1
        go_wp2
        go_round
        case rel => exact ⟨k + 1, by omega, by go_num, by rw [HS.out]; rfl⟩
        case measure => simp [intOf]; omega
      by_cases h2 : c = 60
      · subst h2
        go_wp2
        go_round
        case rel => exact ⟨k + 1, by omega, by go_num, by rw [HS.out]; rfl⟩
        case measure => simp [intOf]; omega
      by_cases h3 : c = 62
      · subst h3
        go_wp2
        go_round
        case rel => exact ⟨k + 1, by omega, by go_num, by rw [HS.out]; rfl⟩
        case measure => simp [intOf]; omega
      by_cases h4 : c = 34
      · subst h4
        go_wp2
        go_round
        case rel => exact ⟨k + 1, by omega, by go_num, by rw [HS.out]; rfl⟩
        case measure => simp [intOf]; omega
      have HE : Hid (Esc.enc1 c = [c]) := by show _ = _; simp [Esc.enc1, h1, h2, h3, h4]
      have ne : ∀ x : UInt8, c ≠ x → ((c.toNat : Int) == (x.toNat : Int)) = false := fun x hx => beq_eq_false_iff_ne.2 (fun e => hx (UInt8.toNat_inj.1 (by omega)))
      have q1 : ((c.toNat : Int) == 38) = false := ne 38 h1
      have q2 : ((c.toNat : Int) == 60) = false := ne 60 h2
      have q3 : ((c.toNat : Int) == 62) = false := ne 62 h3
      have q4 : ((c.toNat : Int) == 34) = false := ne 34 h4
      have hs1 := size_one' c
      clear h1 h2 h3 h4 ne
      go_wp2
      go_round
      case rel => exact ⟨k + 1, by omega, by go_num, by rw [HS.out, HE.out]⟩
      case measure => simp [intOf]; omega
    · have HW : Hid (wrP s k = wrB s) := wrP_all s k (by omega)
      go_wp2
      go_ret
      exact ⟨by rw [← HW.out]; rfl, rfl⟩
end Go.Proofs.YtpcaiechaakhnabGreatDoor

/-
  Parts of package export: a text in a tag, a text as it is written, the characters of some items.
-/
namespace Go.Proofs.YtpcaiechaakhnabGreatDoor
open Go.RowKit

theorem B_app (a b : List UInt8) : B a ++ B b = B (a ++ b) := by
  apply ext_list
  rw [B_data]
  show (B a ++ B b).data.toList = _
  rw [ByteArray.data_append, Array.toList_append, B_data, B_data]
theorem B_sz (l : List UInt8) : (B l).size = l.length := B_size l
/-- A text in a tag. -/
def tagL (n t : List UInt8) : List UInt8 := [60] ++ n ++ [62] ++ t ++ [60, 47] ++ n ++ [62]

set_option maxHeartbeats 800000 in
theorem tagged_any (n t : List UInt8) (w : World) (hn : n.length ≤ 100) (ht : t.length ≤ 1000000000) : Calls Tryz.prog 72 #[.string (B n), .string (B t)] w fun e w' => e = .returned (.string (B (tagL n t))) ∧ w' = w := by
  have hr : B (tagL n t) = ⟨#[60]⟩ ++ B n ++ ⟨#[62]⟩ ++ B t ++ ⟨#[60, 47]⟩ ++ B n ++ ⟨#[62]⟩ := by
    unfold tagL
    simp only [← B_app]
    rfl
  rw [hr]
  clear hr
  have h1 := B_sz n
  have h2 := B_sz t
  generalize B n = bn at *
  generalize B t = bt at *
  have h3 : bn.size ≤ 100 := by omega
  have h4 : bt.size ≤ 1000000000 := by omega
  clear h1 h2 hn ht
  have s1 : (ByteArray.mk #[60]).size = 1 := rfl
  have s2 : (ByteArray.mk #[62]).size = 1 := rfl
  have s3 : (ByteArray.mk #[60, 47]).size = 2 := rfl
  go_enter Tryz.func72, Tryz.ntmps72
  go_wp2
  go_ret
  exact ⟨rfl, rfl⟩

set_option maxHeartbeats 800000 in
theorem written_any (s : List UInt8) (w : World) (hp : Pairs w) (hs : s.length ≤ 20000) : Calls Tryz.prog 73 #[.string (B s)] w fun e w' => e = .returned (.string (B (Esc.wr s))) ∧ Below w.heap.size w w' := by
  have C : Hid (Calls Tryz.prog 99 #[.string (B s)] w fun e w' => e = .returned (.tuple #[.string (B (Esc.wr s)), .int .i64 0]) ∧ Below w.heap.size w w') := write_ok (B s) w hp (by rw [B_size]; exact hs)
  clear hp hs
  generalize B s = bs at *
  generalize B (Esc.wr s) = br at *
  go_enter Tryz.func73, Tryz.ntmps73
  go_wp2_with fail
  refine C.out.mono ?_
  rintro e w1 ⟨rfl, hb⟩
  have HB : Hid (Below w.heap.size w w1) := hb
  clear hb
  go_wp2
  go_ret
  exact ⟨rfl, HB.out⟩

theorem buf_nil (w : World) : Lib.OwnBuf w.heap.size 5 (.slice none 0 0) 0 [] w w :=
  ⟨World.ownsRowF_of (World.ownsRow_nil _ _ _ _), Below.refl _ _, Nat.le_refl _⟩

set_option maxRecDepth 100000 in
set_option maxHeartbeats 1600000 in
theorem chars_any (ao : Option Addr) (n cap : Nat) (l : List It) (w : World) (hD : Doc w ao n cap l) (h80 : n ≤ 80) :
    Calls Tryz.prog 74 #[.slice ao n cap] w fun e w' => e = .returned (.string (B (l.map It.c))) ∧ Below w.heap.size w w' := by
  have HD : Hid (Doc w ao n cap l) := hD
  have HN : Hid (l.length = n) := hD.len
  have hcap := hD.room
  have hbig := hD.big
  clear hD
  obtain ⟨i5, hi, hz0, hz1, hz2⟩ := info_parts Tryz.info5
  go_enter Tryz.func74, Tryz.ntmps74
  go_wp2
  go_loopw [3, 8] (fun v i wr => ∃ k : Nat, k ≤ n ∧ i = .int .i64 k ∧ Lib.OwnBuf w.heap.size 5 v k (((l.take k).map It.c).map b8) w wr) (fun _ i _ => n - (intOf i).toNat)
  case atStart => exact ⟨0, Nat.zero_le _, rfl, buf_nil w⟩
  case round =>
    obtain ⟨k, hk, rfl, hob⟩ := hrel
    have HO : Hid (Lib.OwnBuf w.heap.size 5 u3 k (((l.take k).map It.c).map b8) w wr) := hob
    clear hob
    by_cases hlt : k < n
    · obtain ⟨b, off, rfl, A0⟩ := HD.out.lies (by omega)
      have hkl : k < l.length := by rw [HN.out]; exact hlt
      obtain ⟨hc0, hc1, hc2⟩ := (A0.below HO.out.2.1).get (List.getElem?_eq_getElem hkl)
      have HT : Hid (l.take (k + 1) = l.take k ++ [l[k]]) := List.take_succ_eq_append_getElem hkl
      generalize l[k] = x at *
      clear A0 hkl
      obtain ⟨xs, hxs⟩ : ∃ xs, ((l.take k).map It.c).map b8 = xs := ⟨_, rfl⟩
      have HX : Hid (((l.take k).map It.c).map b8 = xs) := hxs
      rw [hxs] at HO
      clear hxs
      go_wp2_with (at_builtin; refine Lib.wpList_append_byte rfl (.tmp 12) (.tmp 15) 22 rfl w.heap.size 5 i5 Tryz.underlying22 hi hz0 hz1 hz2 u3 k _ rfl w _ x.c.toNat (HO.out.alloc _) ?_ ?_ ?_)
      · simp [Act.eval, go_sem]
      · omega
      intro v' w1 hb1
      have HB : Hid (Lib.OwnBuf w.heap.size 5 v' (k + 1) (((l.take (k + 1)).map It.c).map b8) w w1) := by show Lib.OwnBuf _ _ _ _ _ _ _; rw [HT.out, List.map_append, List.map_append, HX.out]; exact hb1
      clear hb1
      go_wp2
      go_roundw
      case rel => exact ⟨k + 1, by omega, by go_num, HB.out⟩
      case measure => simp [intOf]; omega
    · have hkk : l.take k = l := List.take_of_length_le (by rw [HN.out]; omega)
      have hcv := conv_esc HO.out
      rw [hkk] at hcv
      have HB : Hid (Below w.heap.size w wr) := HO.out.2.1
      clear HO
      go_wp2
      go_ret
      exact ⟨rfl, HB.out⟩
end Go.Proofs.YtpcaiechaakhnabGreatDoor

/-
  export.run: a run of characters with the same marks and link, as it stands in a block.
-/
namespace Go.Proofs.YtpcaiechaakhnabGreatDoor
open Go.RowKit

def mcells : Array Value := #[.int .i64 2, .string ⟨#[105]⟩, .int .i64 1, .string ⟨#[98]⟩]
/-- The variable 'markNames' holds what its initialiser lays. -/
def Marks (w : World) : Prop := ∃ t fr, w.heap[2]? = some (.cells mcells t fr)
theorem Marks.below {w w' : World} (h : Marks w) (hb : Below w.heap.size w w') : Marks w' := by
  obtain ⟨t, fr, hg⟩ := h
  exact ⟨t, fr, (hb.block 2 (Array.getElem?_eq_some_iff.1 hg).1).trans hg⟩
theorem Pairs.under {w w' : World} (h : Pairs w) (hb : Below w.heap.size w w') : Pairs w' := h.below hb h.pos
theorem mdx0 (w : World) : (Instr.index 99 (.agg mcells) (.int .i64 0)).run Tryz.prog w = .ok (.agg #[.int .i64 2, .string ⟨#[105]⟩]) w := by kernel_rfl
theorem mdx1 (w : World) : (Instr.index 99 (.agg mcells) (.int .i64 1)).run Tryz.prog w = .ok (.agg #[.int .i64 1, .string ⟨#[98]⟩]) w := by kernel_rfl
theorem sz124 : (Tryz.prog.info? 99).map (·.size) = some mcells.size := by kernel_rfl

theorem tagL_len (n t : List UInt8) : (tagL n t).length = 2 * n.length + t.length + 5 := by simp [tagL]; omega
theorem bytes_wrap (n : Pg.Nm) (s : List Pg.Tok) : Pg.bytes (Pg.wrap true n s) = tagL (Pg.name n) (Pg.bytes s) := by
  simp [Pg.wrap, Pg.bytes_cons, Pg.bytes_append, Pg.bytes_nil, Pg.enc, tagL]
theorem bytes_tags0 (s : List Pg.Tok) : Pg.bytes (Pg.tags 0 s) = Pg.bytes s := rfl
theorem bytes_tags1 (s : List Pg.Tok) : Pg.bytes (Pg.tags 1 s) = tagL [98] (Pg.bytes s) := bytes_wrap .b s
theorem bytes_tags2 (s : List Pg.Tok) : Pg.bytes (Pg.tags 2 s) = tagL [105] (Pg.bytes s) := bytes_wrap .i s
theorem bytes_tags3 (s : List Pg.Tok) : Pg.bytes (Pg.tags 3 s) = tagL [98] (tagL [105] (Pg.bytes s)) := by
  show Pg.bytes (Pg.wrap true .b (Pg.wrap true .i s)) = _
  rw [bytes_wrap, bytes_wrap]
  rfl
theorem linked_no (l : ByteArray) (s : List Pg.Tok) (h : l.toList.isEmpty = true) : Pg.bytes (Pg.linked l s) = Pg.bytes s := by unfold Pg.linked; rw [if_pos h]
theorem linked_yes (l : ByteArray) (s : List Pg.Tok) (h : l.toList.isEmpty = false) : B (Pg.bytes (Pg.linked l s)) = ⟨#[60, 97, 32, 104, 114, 101, 102, 61, 34]⟩ ++ B (Esc.wr l.data.toList) ++ ⟨#[34, 62]⟩ ++ B (Pg.bytes s) ++ ⟨#[60, 47, 97, 62]⟩ := by
  unfold Pg.linked
  rw [if_neg (by rw [h]; decide), Pg.bytes_cons, Pg.bytes_append]
  show B ((Pg.apre ++ (Esc.wr l.data.toList ++ [34, 62])) ++ (Pg.bytes s ++ [60, 47, 97, 62])) = _
  simp only [← B_app]
  have e1 : B Pg.apre = ⟨#[60, 97, 32, 104, 114, 101, 102, 61, 34]⟩ := rfl
  have e2 : B [34, 62] = ⟨#[34, 62]⟩ := rfl
  have e3 : B [60, 47, 97, 62] = ⟨#[60, 47, 97, 62]⟩ := rfl
  rw [e1, e2, e3]
  simp only [ByteArray.append_assoc]
/-- What export.run reads: some items that lie in memory, the first one x, and the two tables. -/
structure Runs1 (b off n cap : Nat) (l : List It) (x : It) (w : World) : Prop where
  at_ : At w b off l
  doc : Doc w (some ⟨b, off, none⟩) n cap l
  first : l[0]? = some x
  few : n ≤ 80
  short : x.l.size ≤ 24
  pairs : Pairs w
  marks : Marks w
theorem two_below (w : World) (o p : Obj) (q r : Nat) : Below w.heap.size w ((((w.alloc o).drewN q).alloc p).drewN r) := by
  have h1 : Below w.heap.size w ((w.alloc o).drewN q) := Below.trans ((Below.refl _ _).alloc (Nat.le_refl _) _) ⟨rfl, rfl, rfl, Nat.le_refl _, fun _ _ => rfl⟩
  exact Below.trans (h1.alloc h1.size _) ⟨rfl, rfl, rfl, Nat.le_refl _, fun _ _ => rfl⟩

set_option maxRecDepth 100000 in
set_option maxHeartbeats 3200000 in
theorem run_0 (b off n cap : Nat) (l : List It) (x : It) (w : World) (h : Runs1 b off n cap l x w) (hm : x.m = 0) (he : x.l.toList.isEmpty = true) :
    Calls Tryz.prog 43 #[.slice (some ⟨b, off, none⟩) n cap] w fun e w' => e = .returned (.string (B (Pg.bytes (Pg.seg x (l.map It.c))))) ∧ Below w.heap.size w w' := by
  obtain ⟨hA, hD, hx, h80, hl, hP, hM⟩ := h
  have hn0 : 0 < n := by rw [← hD.len]; exact (List.getElem?_eq_some_iff.1 hx).1
  have hcap := hD.room
  have hbig := hD.big
  have HA : Hid (At w b off l) := hA
  have HX : Hid (l[0]? = some x) := hx
  have hlen : (Esc.wr (l.map It.c)).length ≤ 480 := by
    have h1 := (Esc.wr_len (l.map It.c)).2
    have h2 := hD.len
    rw [List.length_map] at h1
    omega
  have hlz : (B (Esc.wr x.l.data.toList)).size ≤ 144 := by
    have h1 := (Esc.wr_len x.l.data.toList).2
    rw [len_list] at h1
    rw [B_size]
    omega
  have CC : Hid (Calls Tryz.prog 74 #[.slice (some ⟨b, off, none⟩) n cap] w fun e w' => e = .returned (.string (B (l.map It.c))) ∧ Below w.heap.size w w') := chars_any _ n cap l w hD h80
  have CW : Hid (∀ w, Pairs w → Calls Tryz.prog 73 #[.string (B (l.map It.c))] w fun e w' => e = .returned (.string (B (Esc.wr (l.map It.c)))) ∧ Below w.heap.size w w') := fun w hp => written_any _ w hp (by have := hD.len; rw [List.length_map]; omega)
  have CL : Hid (∀ w, Pairs w → Calls Tryz.prog 73 #[.string x.l] w fun e w' => e = .returned (.string (B (Esc.wr x.l.data.toList))) ∧ Below w.heap.size w w') := fun w hp => written_any x.l.data.toList w hp (by rw [len_list]; omega)
  have HP : Hid (Pairs w) := hP
  have HM : Hid (Marks w) := hM
  clear hD hA hx hP hM
  have hres : Pg.bytes (Pg.tags x.m ((l.map It.c).map Pg.Tok.ch)) = Esc.wr (l.map It.c) := by rw [hm, bytes_tags0, Pg.bytes_chars]
  have hseg : B (Pg.bytes (Pg.seg x (l.map It.c))) = B (Pg.bytes (Pg.tags x.m ((l.map It.c).map Pg.Tok.ch))) := congrArg B (linked_no x.l (Pg.tags x.m ((l.map It.c).map Pg.Tok.ch)) he)
  rw [hres] at hseg
  clear hres
  rw [hseg]
  clear hseg
  generalize Esc.wr (l.map It.c) = T at *
  have i0 := mdx0
  have i1 := mdx1
  go_enter Tryz.func43, Tryz.ntmps43
  go_wp2_with fail
  refine CC.out.mono ?_
  rintro e w1 ⟨rfl, hb⟩
  have H1 : Hid (Below w.heap.size w w1) := hb
  have P1 : Hid (Pairs w1) := HP.out.under hb
  clear hb
  go_wp2_with fail
  refine (CW.out _ P1.out).mono ?_
  rintro e w2 ⟨rfl, hb⟩
  have H2 : Hid (Below w.heap.size w w2) := H1.out.trans (hb.mono H1.out.size)
  have P2 : Hid (Pairs w2) := P1.out.under hb
  clear hb
  obtain ⟨t, fr, hg⟩ := HM.out.below H2.out
  have Hg : Hid (w2.heap[2]? = some (.cells mcells t fr)) := hg
  clear hg
  have A2 := HA.out.below H2.out
  have ha1 : w2.cell? ⟨b, off + 1, none⟩ = some (.int .i64 x.m) := by have := (A2.get HX.out).2.1; rw [Nat.zero_mul, Nat.add_zero] at this; exact this
  have ha2 : w2.cell? ⟨b, off + 2, none⟩ = some (.string x.l) := by have := (A2.get HX.out).2.2; rw [Nat.zero_mul, Nat.add_zero] at this; exact this
  have hb2 : b < w2.heap.size := cell_lt ha1
  rw [hm] at ha1
  clear A2
  go_wp2_with (refine wpList_load_row rfl 99 _ rfl 2 rfl t _ fr _ Hg.out Tryz.underlying99 rfl sz124 ?_)
  refine wp_loop_rounds 3 ?_
  rw [rounds_succ]
  go_wp2
  go_quiet (fail)
  go_wp2
  rw [rounds_succ]
  go_wp2
  go_quiet (fail)
  go_wp2
  rw [rounds_succ]
  go_wp2
  go_ret
  exact ⟨rfl, H2.out.trans ((two_below w2 _ _ _ _).mono H2.out.size)⟩

set_option maxRecDepth 100000 in
set_option maxHeartbeats 3200000 in
theorem run_0l (b off n cap : Nat) (l : List It) (x : It) (w : World) (h : Runs1 b off n cap l x w) (hm : x.m = 0) (he : x.l.toList.isEmpty = false) :
    Calls Tryz.prog 43 #[.slice (some ⟨b, off, none⟩) n cap] w fun e w' => e = .returned (.string (B (Pg.bytes (Pg.seg x (l.map It.c))))) ∧ Below w.heap.size w w' := by
  obtain ⟨hA, hD, hx, h80, hl, hP, hM⟩ := h
  have hn0 : 0 < n := by rw [← hD.len]; exact (List.getElem?_eq_some_iff.1 hx).1
  have hcap := hD.room
  have hbig := hD.big
  have HA : Hid (At w b off l) := hA
  have HX : Hid (l[0]? = some x) := hx
  have hlen : (Esc.wr (l.map It.c)).length ≤ 480 := by
    have h1 := (Esc.wr_len (l.map It.c)).2
    have h2 := hD.len
    rw [List.length_map] at h1
    omega
  have hlz : (B (Esc.wr x.l.data.toList)).size ≤ 144 := by
    have h1 := (Esc.wr_len x.l.data.toList).2
    rw [len_list] at h1
    rw [B_size]
    omega
  have CC : Hid (Calls Tryz.prog 74 #[.slice (some ⟨b, off, none⟩) n cap] w fun e w' => e = .returned (.string (B (l.map It.c))) ∧ Below w.heap.size w w') := chars_any _ n cap l w hD h80
  have CW : Hid (∀ w, Pairs w → Calls Tryz.prog 73 #[.string (B (l.map It.c))] w fun e w' => e = .returned (.string (B (Esc.wr (l.map It.c)))) ∧ Below w.heap.size w w') := fun w hp => written_any _ w hp (by have := hD.len; rw [List.length_map]; omega)
  have CL : Hid (∀ w, Pairs w → Calls Tryz.prog 73 #[.string x.l] w fun e w' => e = .returned (.string (B (Esc.wr x.l.data.toList))) ∧ Below w.heap.size w w') := fun w hp => written_any x.l.data.toList w hp (by rw [len_list]; omega)
  have HP : Hid (Pairs w) := hP
  have HM : Hid (Marks w) := hM
  clear hD hA hx hP hM
  have hres : Pg.bytes (Pg.tags x.m ((l.map It.c).map Pg.Tok.ch)) = Esc.wr (l.map It.c) := by rw [hm, bytes_tags0, Pg.bytes_chars]
  have hseg : B (Pg.bytes (Pg.seg x (l.map It.c))) = _ := linked_yes x.l (Pg.tags x.m ((l.map It.c).map Pg.Tok.ch)) he
  rw [hres] at hseg
  clear hres
  rw [hseg]
  clear hseg
  generalize Esc.wr (l.map It.c) = T at *
  generalize B (Esc.wr x.l.data.toList) = L at *
  have i0 := mdx0
  have i1 := mdx1
  go_enter Tryz.func43, Tryz.ntmps43
  go_wp2_with fail
  refine CC.out.mono ?_
  rintro e w1 ⟨rfl, hb⟩
  have H1 : Hid (Below w.heap.size w w1) := hb
  have P1 : Hid (Pairs w1) := HP.out.under hb
  clear hb
  go_wp2_with fail
  refine (CW.out _ P1.out).mono ?_
  rintro e w2 ⟨rfl, hb⟩
  have H2 : Hid (Below w.heap.size w w2) := H1.out.trans (hb.mono H1.out.size)
  have P2 : Hid (Pairs w2) := P1.out.under hb
  clear hb
  obtain ⟨t, fr, hg⟩ := HM.out.below H2.out
  have Hg : Hid (w2.heap[2]? = some (.cells mcells t fr)) := hg
  clear hg
  have A2 := HA.out.below H2.out
  have ha1 : w2.cell? ⟨b, off + 1, none⟩ = some (.int .i64 x.m) := by have := (A2.get HX.out).2.1; rw [Nat.zero_mul, Nat.add_zero] at this; exact this
  have ha2 : w2.cell? ⟨b, off + 2, none⟩ = some (.string x.l) := by have := (A2.get HX.out).2.2; rw [Nat.zero_mul, Nat.add_zero] at this; exact this
  have hb2 : b < w2.heap.size := cell_lt ha1
  rw [hm] at ha1
  clear A2
  go_wp2_with (refine wpList_load_row rfl 99 _ rfl 2 rfl t _ fr _ Hg.out Tryz.underlying99 rfl sz124 ?_)
  refine wp_loop_rounds 3 ?_
  rw [rounds_succ]
  go_wp2
  go_quiet (fail)
  go_wp2
  rw [rounds_succ]
  go_wp2
  go_quiet (fail)
  go_wp2
  rw [rounds_succ]
  go_wp2_with fail
  refine (CL.out _ (P2.out.under (two_below w2 _ _ _ _))).mono ?_
  rintro e w5 ⟨rfl, hb⟩
  have H5 : Hid (Below w.heap.size w w5) := by
    refine Below.trans (H2.out.trans ((two_below w2 _ _ _ _).mono H2.out.size)) (hb.mono ?_)
    exact (H2.out.trans ((two_below w2 _ _ _ _).mono H2.out.size)).size
  clear hb
  have hz := B_size T
  go_wp2
  go_ret
  exact ⟨rfl, H5.out⟩

set_option maxRecDepth 100000 in
set_option maxHeartbeats 3200000 in
theorem run_1 (b off n cap : Nat) (l : List It) (x : It) (w : World) (h : Runs1 b off n cap l x w) (hm : x.m = 1) (he : x.l.toList.isEmpty = true) :
    Calls Tryz.prog 43 #[.slice (some ⟨b, off, none⟩) n cap] w fun e w' => e = .returned (.string (B (Pg.bytes (Pg.seg x (l.map It.c))))) ∧ Below w.heap.size w w' := by
  obtain ⟨hA, hD, hx, h80, hl, hP, hM⟩ := h
  have hn0 : 0 < n := by rw [← hD.len]; exact (List.getElem?_eq_some_iff.1 hx).1
  have hcap := hD.room
  have hbig := hD.big
  have HA : Hid (At w b off l) := hA
  have HX : Hid (l[0]? = some x) := hx
  have hlen : (Esc.wr (l.map It.c)).length ≤ 480 := by
    have h1 := (Esc.wr_len (l.map It.c)).2
    have h2 := hD.len
    rw [List.length_map] at h1
    omega
  have hlz : (B (Esc.wr x.l.data.toList)).size ≤ 144 := by
    have h1 := (Esc.wr_len x.l.data.toList).2
    rw [len_list] at h1
    rw [B_size]
    omega
  have CC : Hid (Calls Tryz.prog 74 #[.slice (some ⟨b, off, none⟩) n cap] w fun e w' => e = .returned (.string (B (l.map It.c))) ∧ Below w.heap.size w w') := chars_any _ n cap l w hD h80
  have CW : Hid (∀ w, Pairs w → Calls Tryz.prog 73 #[.string (B (l.map It.c))] w fun e w' => e = .returned (.string (B (Esc.wr (l.map It.c)))) ∧ Below w.heap.size w w') := fun w hp => written_any _ w hp (by have := hD.len; rw [List.length_map]; omega)
  have CL : Hid (∀ w, Pairs w → Calls Tryz.prog 73 #[.string x.l] w fun e w' => e = .returned (.string (B (Esc.wr x.l.data.toList))) ∧ Below w.heap.size w w') := fun w hp => written_any x.l.data.toList w hp (by rw [len_list]; omega)
  have HP : Hid (Pairs w) := hP
  have HM : Hid (Marks w) := hM
  clear hD hA hx hP hM
  have hres : Pg.bytes (Pg.tags x.m ((l.map It.c).map Pg.Tok.ch)) = tagL [98] (Esc.wr (l.map It.c)) := by rw [hm, bytes_tags1, Pg.bytes_chars]
  have hseg : B (Pg.bytes (Pg.seg x (l.map It.c))) = B (Pg.bytes (Pg.tags x.m ((l.map It.c).map Pg.Tok.ch))) := congrArg B (linked_no x.l (Pg.tags x.m ((l.map It.c).map Pg.Tok.ch)) he)
  rw [hres] at hseg
  clear hres
  rw [hseg]
  clear hseg
  generalize Esc.wr (l.map It.c) = T at *
  have q2 : (tagL [98] T).length ≤ 500 := by rw [tagL_len]; simp; omega
  have C2 : Hid (∀ w, Calls Tryz.prog 72 #[.string ⟨#[98]⟩, .string (B T)] w fun e w' => e = .returned (.string (B (tagL [98] T))) ∧ w' = w) := fun w => tagged_any [98] T w (by decide) (by omega)
  generalize tagL [98] T = T2 at *
  have i0 := mdx0
  have i1 := mdx1
  go_enter Tryz.func43, Tryz.ntmps43
  go_wp2_with fail
  refine CC.out.mono ?_
  rintro e w1 ⟨rfl, hb⟩
  have H1 : Hid (Below w.heap.size w w1) := hb
  have P1 : Hid (Pairs w1) := HP.out.under hb
  clear hb
  go_wp2_with fail
  refine (CW.out _ P1.out).mono ?_
  rintro e w2 ⟨rfl, hb⟩
  have H2 : Hid (Below w.heap.size w w2) := H1.out.trans (hb.mono H1.out.size)
  have P2 : Hid (Pairs w2) := P1.out.under hb
  clear hb
  obtain ⟨t, fr, hg⟩ := HM.out.below H2.out
  have Hg : Hid (w2.heap[2]? = some (.cells mcells t fr)) := hg
  clear hg
  have A2 := HA.out.below H2.out
  have ha1 : w2.cell? ⟨b, off + 1, none⟩ = some (.int .i64 x.m) := by have := (A2.get HX.out).2.1; rw [Nat.zero_mul, Nat.add_zero] at this; exact this
  have ha2 : w2.cell? ⟨b, off + 2, none⟩ = some (.string x.l) := by have := (A2.get HX.out).2.2; rw [Nat.zero_mul, Nat.add_zero] at this; exact this
  have hb2 : b < w2.heap.size := cell_lt ha1
  rw [hm] at ha1
  clear A2
  go_wp2_with (refine wpList_load_row rfl 99 _ rfl 2 rfl t _ fr _ Hg.out Tryz.underlying99 rfl sz124 ?_)
  refine wp_loop_rounds 3 ?_
  rw [rounds_succ]
  go_wp2
  go_quiet (fail)
  go_wp2
  rw [rounds_succ]
  go_wp2
  go_quiet (fail)
  go_wp2_with fail
  refine (C2.out _).mono ?_
  rintro e w4 ⟨rfl, rfl⟩
  go_wp2
  rw [rounds_succ]
  go_wp2
  go_ret
  exact ⟨rfl, H2.out.trans ((two_below w2 _ _ _ _).mono H2.out.size)⟩

set_option maxRecDepth 100000 in
set_option maxHeartbeats 3200000 in
theorem run_1l (b off n cap : Nat) (l : List It) (x : It) (w : World) (h : Runs1 b off n cap l x w) (hm : x.m = 1) (he : x.l.toList.isEmpty = false) :
    Calls Tryz.prog 43 #[.slice (some ⟨b, off, none⟩) n cap] w fun e w' => e = .returned (.string (B (Pg.bytes (Pg.seg x (l.map It.c))))) ∧ Below w.heap.size w w' := by
  obtain ⟨hA, hD, hx, h80, hl, hP, hM⟩ := h
  have hn0 : 0 < n := by rw [← hD.len]; exact (List.getElem?_eq_some_iff.1 hx).1
  have hcap := hD.room
  have hbig := hD.big
  have HA : Hid (At w b off l) := hA
  have HX : Hid (l[0]? = some x) := hx
  have hlen : (Esc.wr (l.map It.c)).length ≤ 480 := by
    have h1 := (Esc.wr_len (l.map It.c)).2
    have h2 := hD.len
    rw [List.length_map] at h1
    omega
  have hlz : (B (Esc.wr x.l.data.toList)).size ≤ 144 := by
    have h1 := (Esc.wr_len x.l.data.toList).2
    rw [len_list] at h1
    rw [B_size]
    omega
  have CC : Hid (Calls Tryz.prog 74 #[.slice (some ⟨b, off, none⟩) n cap] w fun e w' => e = .returned (.string (B (l.map It.c))) ∧ Below w.heap.size w w') := chars_any _ n cap l w hD h80
  have CW : Hid (∀ w, Pairs w → Calls Tryz.prog 73 #[.string (B (l.map It.c))] w fun e w' => e = .returned (.string (B (Esc.wr (l.map It.c)))) ∧ Below w.heap.size w w') := fun w hp => written_any _ w hp (by have := hD.len; rw [List.length_map]; omega)
  have CL : Hid (∀ w, Pairs w → Calls Tryz.prog 73 #[.string x.l] w fun e w' => e = .returned (.string (B (Esc.wr x.l.data.toList))) ∧ Below w.heap.size w w') := fun w hp => written_any x.l.data.toList w hp (by rw [len_list]; omega)
  have HP : Hid (Pairs w) := hP
  have HM : Hid (Marks w) := hM
  clear hD hA hx hP hM
  have hres : Pg.bytes (Pg.tags x.m ((l.map It.c).map Pg.Tok.ch)) = tagL [98] (Esc.wr (l.map It.c)) := by rw [hm, bytes_tags1, Pg.bytes_chars]
  have hseg : B (Pg.bytes (Pg.seg x (l.map It.c))) = _ := linked_yes x.l (Pg.tags x.m ((l.map It.c).map Pg.Tok.ch)) he
  rw [hres] at hseg
  clear hres
  rw [hseg]
  clear hseg
  generalize Esc.wr (l.map It.c) = T at *
  generalize B (Esc.wr x.l.data.toList) = L at *
  have q2 : (tagL [98] T).length ≤ 500 := by rw [tagL_len]; simp; omega
  have C2 : Hid (∀ w, Calls Tryz.prog 72 #[.string ⟨#[98]⟩, .string (B T)] w fun e w' => e = .returned (.string (B (tagL [98] T))) ∧ w' = w) := fun w => tagged_any [98] T w (by decide) (by omega)
  generalize tagL [98] T = T2 at *
  have i0 := mdx0
  have i1 := mdx1
  go_enter Tryz.func43, Tryz.ntmps43
  go_wp2_with fail
  refine CC.out.mono ?_
  rintro e w1 ⟨rfl, hb⟩
  have H1 : Hid (Below w.heap.size w w1) := hb
  have P1 : Hid (Pairs w1) := HP.out.under hb
  clear hb
  go_wp2_with fail
  refine (CW.out _ P1.out).mono ?_
  rintro e w2 ⟨rfl, hb⟩
  have H2 : Hid (Below w.heap.size w w2) := H1.out.trans (hb.mono H1.out.size)
  have P2 : Hid (Pairs w2) := P1.out.under hb
  clear hb
  obtain ⟨t, fr, hg⟩ := HM.out.below H2.out
  have Hg : Hid (w2.heap[2]? = some (.cells mcells t fr)) := hg
  clear hg
  have A2 := HA.out.below H2.out
  have ha1 : w2.cell? ⟨b, off + 1, none⟩ = some (.int .i64 x.m) := by have := (A2.get HX.out).2.1; rw [Nat.zero_mul, Nat.add_zero] at this; exact this
  have ha2 : w2.cell? ⟨b, off + 2, none⟩ = some (.string x.l) := by have := (A2.get HX.out).2.2; rw [Nat.zero_mul, Nat.add_zero] at this; exact this
  have hb2 : b < w2.heap.size := cell_lt ha1
  rw [hm] at ha1
  clear A2
  go_wp2_with (refine wpList_load_row rfl 99 _ rfl 2 rfl t _ fr _ Hg.out Tryz.underlying99 rfl sz124 ?_)
  refine wp_loop_rounds 3 ?_
  rw [rounds_succ]
  go_wp2
  go_quiet (fail)
  go_wp2
  rw [rounds_succ]
  go_wp2
  go_quiet (fail)
  go_wp2_with fail
  refine (C2.out _).mono ?_
  rintro e w4 ⟨rfl, rfl⟩
  go_wp2
  rw [rounds_succ]
  go_wp2_with fail
  refine (CL.out _ (P2.out.under (two_below w2 _ _ _ _))).mono ?_
  rintro e w5 ⟨rfl, hb⟩
  have H5 : Hid (Below w.heap.size w w5) := by
    refine Below.trans (H2.out.trans ((two_below w2 _ _ _ _).mono H2.out.size)) (hb.mono ?_)
    exact (H2.out.trans ((two_below w2 _ _ _ _).mono H2.out.size)).size
  clear hb
  have hz := B_size T2
  go_wp2
  go_ret
  exact ⟨rfl, H5.out⟩

set_option maxRecDepth 100000 in
set_option maxHeartbeats 3200000 in
theorem run_2 (b off n cap : Nat) (l : List It) (x : It) (w : World) (h : Runs1 b off n cap l x w) (hm : x.m = 2) (he : x.l.toList.isEmpty = true) :
    Calls Tryz.prog 43 #[.slice (some ⟨b, off, none⟩) n cap] w fun e w' => e = .returned (.string (B (Pg.bytes (Pg.seg x (l.map It.c))))) ∧ Below w.heap.size w w' := by
  obtain ⟨hA, hD, hx, h80, hl, hP, hM⟩ := h
  have hn0 : 0 < n := by rw [← hD.len]; exact (List.getElem?_eq_some_iff.1 hx).1
  have hcap := hD.room
  have hbig := hD.big
  have HA : Hid (At w b off l) := hA
  have HX : Hid (l[0]? = some x) := hx
  have hlen : (Esc.wr (l.map It.c)).length ≤ 480 := by
    have h1 := (Esc.wr_len (l.map It.c)).2
    have h2 := hD.len
    rw [List.length_map] at h1
    omega
  have hlz : (B (Esc.wr x.l.data.toList)).size ≤ 144 := by
    have h1 := (Esc.wr_len x.l.data.toList).2
    rw [len_list] at h1
    rw [B_size]
    omega
  have CC : Hid (Calls Tryz.prog 74 #[.slice (some ⟨b, off, none⟩) n cap] w fun e w' => e = .returned (.string (B (l.map It.c))) ∧ Below w.heap.size w w') := chars_any _ n cap l w hD h80
  have CW : Hid (∀ w, Pairs w → Calls Tryz.prog 73 #[.string (B (l.map It.c))] w fun e w' => e = .returned (.string (B (Esc.wr (l.map It.c)))) ∧ Below w.heap.size w w') := fun w hp => written_any _ w hp (by have := hD.len; rw [List.length_map]; omega)
  have CL : Hid (∀ w, Pairs w → Calls Tryz.prog 73 #[.string x.l] w fun e w' => e = .returned (.string (B (Esc.wr x.l.data.toList))) ∧ Below w.heap.size w w') := fun w hp => written_any x.l.data.toList w hp (by rw [len_list]; omega)
  have HP : Hid (Pairs w) := hP
  have HM : Hid (Marks w) := hM
  clear hD hA hx hP hM
  have hres : Pg.bytes (Pg.tags x.m ((l.map It.c).map Pg.Tok.ch)) = tagL [105] (Esc.wr (l.map It.c)) := by rw [hm, bytes_tags2, Pg.bytes_chars]
  have hseg : B (Pg.bytes (Pg.seg x (l.map It.c))) = B (Pg.bytes (Pg.tags x.m ((l.map It.c).map Pg.Tok.ch))) := congrArg B (linked_no x.l (Pg.tags x.m ((l.map It.c).map Pg.Tok.ch)) he)
  rw [hres] at hseg
  clear hres
  rw [hseg]
  clear hseg
  generalize Esc.wr (l.map It.c) = T at *
  have q1 : (tagL [105] T).length ≤ 490 := by rw [tagL_len]; simp; omega
  have C1 : Hid (∀ w, Calls Tryz.prog 72 #[.string ⟨#[105]⟩, .string (B T)] w fun e w' => e = .returned (.string (B (tagL [105] T))) ∧ w' = w) := fun w => tagged_any [105] T w (by decide) (by omega)
  generalize tagL [105] T = T1 at *
  have i0 := mdx0
  have i1 := mdx1
  go_enter Tryz.func43, Tryz.ntmps43
  go_wp2_with fail
  refine CC.out.mono ?_
  rintro e w1 ⟨rfl, hb⟩
  have H1 : Hid (Below w.heap.size w w1) := hb
  have P1 : Hid (Pairs w1) := HP.out.under hb
  clear hb
  go_wp2_with fail
  refine (CW.out _ P1.out).mono ?_
  rintro e w2 ⟨rfl, hb⟩
  have H2 : Hid (Below w.heap.size w w2) := H1.out.trans (hb.mono H1.out.size)
  have P2 : Hid (Pairs w2) := P1.out.under hb
  clear hb
  obtain ⟨t, fr, hg⟩ := HM.out.below H2.out
  have Hg : Hid (w2.heap[2]? = some (.cells mcells t fr)) := hg
  clear hg
  have A2 := HA.out.below H2.out
  have ha1 : w2.cell? ⟨b, off + 1, none⟩ = some (.int .i64 x.m) := by have := (A2.get HX.out).2.1; rw [Nat.zero_mul, Nat.add_zero] at this; exact this
  have ha2 : w2.cell? ⟨b, off + 2, none⟩ = some (.string x.l) := by have := (A2.get HX.out).2.2; rw [Nat.zero_mul, Nat.add_zero] at this; exact this
  have hb2 : b < w2.heap.size := cell_lt ha1
  rw [hm] at ha1
  clear A2
  go_wp2_with (refine wpList_load_row rfl 99 _ rfl 2 rfl t _ fr _ Hg.out Tryz.underlying99 rfl sz124 ?_)
  refine wp_loop_rounds 3 ?_
  rw [rounds_succ]
  go_wp2
  go_quiet (fail)
  go_wp2_with fail
  refine (C1.out _).mono ?_
  rintro e w3 ⟨rfl, rfl⟩
  go_wp2
  rw [rounds_succ]
  go_wp2
  go_quiet (fail)
  go_wp2
  rw [rounds_succ]
  go_wp2
  go_ret
  exact ⟨rfl, H2.out.trans ((two_below w2 _ _ _ _).mono H2.out.size)⟩

set_option maxRecDepth 100000 in
set_option maxHeartbeats 3200000 in
theorem run_2l (b off n cap : Nat) (l : List It) (x : It) (w : World) (h : Runs1 b off n cap l x w) (hm : x.m = 2) (he : x.l.toList.isEmpty = false) :
    Calls Tryz.prog 43 #[.slice (some ⟨b, off, none⟩) n cap] w fun e w' => e = .returned (.string (B (Pg.bytes (Pg.seg x (l.map It.c))))) ∧ Below w.heap.size w w' := by
  obtain ⟨hA, hD, hx, h80, hl, hP, hM⟩ := h
  have hn0 : 0 < n := by rw [← hD.len]; exact (List.getElem?_eq_some_iff.1 hx).1
  have hcap := hD.room
  have hbig := hD.big
  have HA : Hid (At w b off l) := hA
  have HX : Hid (l[0]? = some x) := hx
  have hlen : (Esc.wr (l.map It.c)).length ≤ 480 := by
    have h1 := (Esc.wr_len (l.map It.c)).2
    have h2 := hD.len
    rw [List.length_map] at h1
    omega
  have hlz : (B (Esc.wr x.l.data.toList)).size ≤ 144 := by
    have h1 := (Esc.wr_len x.l.data.toList).2
    rw [len_list] at h1
    rw [B_size]
    omega
  have CC : Hid (Calls Tryz.prog 74 #[.slice (some ⟨b, off, none⟩) n cap] w fun e w' => e = .returned (.string (B (l.map It.c))) ∧ Below w.heap.size w w') := chars_any _ n cap l w hD h80
  have CW : Hid (∀ w, Pairs w → Calls Tryz.prog 73 #[.string (B (l.map It.c))] w fun e w' => e = .returned (.string (B (Esc.wr (l.map It.c)))) ∧ Below w.heap.size w w') := fun w hp => written_any _ w hp (by have := hD.len; rw [List.length_map]; omega)
  have CL : Hid (∀ w, Pairs w → Calls Tryz.prog 73 #[.string x.l] w fun e w' => e = .returned (.string (B (Esc.wr x.l.data.toList))) ∧ Below w.heap.size w w') := fun w hp => written_any x.l.data.toList w hp (by rw [len_list]; omega)
  have HP : Hid (Pairs w) := hP
  have HM : Hid (Marks w) := hM
  clear hD hA hx hP hM
  have hres : Pg.bytes (Pg.tags x.m ((l.map It.c).map Pg.Tok.ch)) = tagL [105] (Esc.wr (l.map It.c)) := by rw [hm, bytes_tags2, Pg.bytes_chars]
  have hseg : B (Pg.bytes (Pg.seg x (l.map It.c))) = _ := linked_yes x.l (Pg.tags x.m ((l.map It.c).map Pg.Tok.ch)) he
  rw [hres] at hseg
  clear hres
  rw [hseg]
  clear hseg
  generalize Esc.wr (l.map It.c) = T at *
  generalize B (Esc.wr x.l.data.toList) = L at *
  have q1 : (tagL [105] T).length ≤ 490 := by rw [tagL_len]; simp; omega
  have C1 : Hid (∀ w, Calls Tryz.prog 72 #[.string ⟨#[105]⟩, .string (B T)] w fun e w' => e = .returned (.string (B (tagL [105] T))) ∧ w' = w) := fun w => tagged_any [105] T w (by decide) (by omega)
  generalize tagL [105] T = T1 at *
  have i0 := mdx0
  have i1 := mdx1
  go_enter Tryz.func43, Tryz.ntmps43
  go_wp2_with fail
  refine CC.out.mono ?_
  rintro e w1 ⟨rfl, hb⟩
  have H1 : Hid (Below w.heap.size w w1) := hb
  have P1 : Hid (Pairs w1) := HP.out.under hb
  clear hb
  go_wp2_with fail
  refine (CW.out _ P1.out).mono ?_
  rintro e w2 ⟨rfl, hb⟩
  have H2 : Hid (Below w.heap.size w w2) := H1.out.trans (hb.mono H1.out.size)
  have P2 : Hid (Pairs w2) := P1.out.under hb
  clear hb
  obtain ⟨t, fr, hg⟩ := HM.out.below H2.out
  have Hg : Hid (w2.heap[2]? = some (.cells mcells t fr)) := hg
  clear hg
  have A2 := HA.out.below H2.out
  have ha1 : w2.cell? ⟨b, off + 1, none⟩ = some (.int .i64 x.m) := by have := (A2.get HX.out).2.1; rw [Nat.zero_mul, Nat.add_zero] at this; exact this
  have ha2 : w2.cell? ⟨b, off + 2, none⟩ = some (.string x.l) := by have := (A2.get HX.out).2.2; rw [Nat.zero_mul, Nat.add_zero] at this; exact this
  have hb2 : b < w2.heap.size := cell_lt ha1
  rw [hm] at ha1
  clear A2
  go_wp2_with (refine wpList_load_row rfl 99 _ rfl 2 rfl t _ fr _ Hg.out Tryz.underlying99 rfl sz124 ?_)
  refine wp_loop_rounds 3 ?_
  rw [rounds_succ]
  go_wp2
  go_quiet (fail)
  go_wp2_with fail
  refine (C1.out _).mono ?_
  rintro e w3 ⟨rfl, rfl⟩
  go_wp2
  rw [rounds_succ]
  go_wp2
  go_quiet (fail)
  go_wp2
  rw [rounds_succ]
  go_wp2_with fail
  refine (CL.out _ (P2.out.under (two_below w2 _ _ _ _))).mono ?_
  rintro e w5 ⟨rfl, hb⟩
  have H5 : Hid (Below w.heap.size w w5) := by
    refine Below.trans (H2.out.trans ((two_below w2 _ _ _ _).mono H2.out.size)) (hb.mono ?_)
    exact (H2.out.trans ((two_below w2 _ _ _ _).mono H2.out.size)).size
  clear hb
  have hz := B_size T1
  go_wp2
  go_ret
  exact ⟨rfl, H5.out⟩

set_option maxRecDepth 100000 in
set_option maxHeartbeats 3200000 in
theorem run_3 (b off n cap : Nat) (l : List It) (x : It) (w : World) (h : Runs1 b off n cap l x w) (hm : x.m = 3) (he : x.l.toList.isEmpty = true) :
    Calls Tryz.prog 43 #[.slice (some ⟨b, off, none⟩) n cap] w fun e w' => e = .returned (.string (B (Pg.bytes (Pg.seg x (l.map It.c))))) ∧ Below w.heap.size w w' := by
  obtain ⟨hA, hD, hx, h80, hl, hP, hM⟩ := h
  have hn0 : 0 < n := by rw [← hD.len]; exact (List.getElem?_eq_some_iff.1 hx).1
  have hcap := hD.room
  have hbig := hD.big
  have HA : Hid (At w b off l) := hA
  have HX : Hid (l[0]? = some x) := hx
  have hlen : (Esc.wr (l.map It.c)).length ≤ 480 := by
    have h1 := (Esc.wr_len (l.map It.c)).2
    have h2 := hD.len
    rw [List.length_map] at h1
    omega
  have hlz : (B (Esc.wr x.l.data.toList)).size ≤ 144 := by
    have h1 := (Esc.wr_len x.l.data.toList).2
    rw [len_list] at h1
    rw [B_size]
    omega
  have CC : Hid (Calls Tryz.prog 74 #[.slice (some ⟨b, off, none⟩) n cap] w fun e w' => e = .returned (.string (B (l.map It.c))) ∧ Below w.heap.size w w') := chars_any _ n cap l w hD h80
  have CW : Hid (∀ w, Pairs w → Calls Tryz.prog 73 #[.string (B (l.map It.c))] w fun e w' => e = .returned (.string (B (Esc.wr (l.map It.c)))) ∧ Below w.heap.size w w') := fun w hp => written_any _ w hp (by have := hD.len; rw [List.length_map]; omega)
  have CL : Hid (∀ w, Pairs w → Calls Tryz.prog 73 #[.string x.l] w fun e w' => e = .returned (.string (B (Esc.wr x.l.data.toList))) ∧ Below w.heap.size w w') := fun w hp => written_any x.l.data.toList w hp (by rw [len_list]; omega)
  have HP : Hid (Pairs w) := hP
  have HM : Hid (Marks w) := hM
  clear hD hA hx hP hM
  have hres : Pg.bytes (Pg.tags x.m ((l.map It.c).map Pg.Tok.ch)) = tagL [98] (tagL [105] (Esc.wr (l.map It.c))) := by rw [hm, bytes_tags3, Pg.bytes_chars]
  have hseg : B (Pg.bytes (Pg.seg x (l.map It.c))) = B (Pg.bytes (Pg.tags x.m ((l.map It.c).map Pg.Tok.ch))) := congrArg B (linked_no x.l (Pg.tags x.m ((l.map It.c).map Pg.Tok.ch)) he)
  rw [hres] at hseg
  clear hres
  rw [hseg]
  clear hseg
  generalize Esc.wr (l.map It.c) = T at *
  have q1 : (tagL [105] T).length ≤ 490 := by rw [tagL_len]; simp; omega
  have C1 : Hid (∀ w, Calls Tryz.prog 72 #[.string ⟨#[105]⟩, .string (B T)] w fun e w' => e = .returned (.string (B (tagL [105] T))) ∧ w' = w) := fun w => tagged_any [105] T w (by decide) (by omega)
  generalize tagL [105] T = T1 at *
  have q2 : (tagL [98] T1).length ≤ 500 := by rw [tagL_len]; simp; omega
  have C2 : Hid (∀ w, Calls Tryz.prog 72 #[.string ⟨#[98]⟩, .string (B T1)] w fun e w' => e = .returned (.string (B (tagL [98] T1))) ∧ w' = w) := fun w => tagged_any [98] T1 w (by decide) (by omega)
  generalize tagL [98] T1 = T2 at *
  have i0 := mdx0
  have i1 := mdx1
  go_enter Tryz.func43, Tryz.ntmps43
  go_wp2_with fail
  refine CC.out.mono ?_
  rintro e w1 ⟨rfl, hb⟩
  have H1 : Hid (Below w.heap.size w w1) := hb
  have P1 : Hid (Pairs w1) := HP.out.under hb
  clear hb
  go_wp2_with fail
  refine (CW.out _ P1.out).mono ?_
  rintro e w2 ⟨rfl, hb⟩
  have H2 : Hid (Below w.heap.size w w2) := H1.out.trans (hb.mono H1.out.size)
  have P2 : Hid (Pairs w2) := P1.out.under hb
  clear hb
  obtain ⟨t, fr, hg⟩ := HM.out.below H2.out
  have Hg : Hid (w2.heap[2]? = some (.cells mcells t fr)) := hg
  clear hg
  have A2 := HA.out.below H2.out
  have ha1 : w2.cell? ⟨b, off + 1, none⟩ = some (.int .i64 x.m) := by have := (A2.get HX.out).2.1; rw [Nat.zero_mul, Nat.add_zero] at this; exact this
  have ha2 : w2.cell? ⟨b, off + 2, none⟩ = some (.string x.l) := by have := (A2.get HX.out).2.2; rw [Nat.zero_mul, Nat.add_zero] at this; exact this
  have hb2 : b < w2.heap.size := cell_lt ha1
  rw [hm] at ha1
  clear A2
  go_wp2_with (refine wpList_load_row rfl 99 _ rfl 2 rfl t _ fr _ Hg.out Tryz.underlying99 rfl sz124 ?_)
  refine wp_loop_rounds 3 ?_
  rw [rounds_succ]
  go_wp2
  go_quiet (fail)
  go_wp2_with fail
  refine (C1.out _).mono ?_
  rintro e w3 ⟨rfl, rfl⟩
  go_wp2
  rw [rounds_succ]
  go_wp2
  go_quiet (fail)
  go_wp2_with fail
  refine (C2.out _).mono ?_
  rintro e w4 ⟨rfl, rfl⟩
  go_wp2
  rw [rounds_succ]
  go_wp2
  go_ret
  exact ⟨rfl, H2.out.trans ((two_below w2 _ _ _ _).mono H2.out.size)⟩

set_option maxRecDepth 100000 in
set_option maxHeartbeats 3200000 in
theorem run_3l (b off n cap : Nat) (l : List It) (x : It) (w : World) (h : Runs1 b off n cap l x w) (hm : x.m = 3) (he : x.l.toList.isEmpty = false) :
    Calls Tryz.prog 43 #[.slice (some ⟨b, off, none⟩) n cap] w fun e w' => e = .returned (.string (B (Pg.bytes (Pg.seg x (l.map It.c))))) ∧ Below w.heap.size w w' := by
  obtain ⟨hA, hD, hx, h80, hl, hP, hM⟩ := h
  have hn0 : 0 < n := by rw [← hD.len]; exact (List.getElem?_eq_some_iff.1 hx).1
  have hcap := hD.room
  have hbig := hD.big
  have HA : Hid (At w b off l) := hA
  have HX : Hid (l[0]? = some x) := hx
  have hlen : (Esc.wr (l.map It.c)).length ≤ 480 := by
    have h1 := (Esc.wr_len (l.map It.c)).2
    have h2 := hD.len
    rw [List.length_map] at h1
    omega
  have hlz : (B (Esc.wr x.l.data.toList)).size ≤ 144 := by
    have h1 := (Esc.wr_len x.l.data.toList).2
    rw [len_list] at h1
    rw [B_size]
    omega
  have CC : Hid (Calls Tryz.prog 74 #[.slice (some ⟨b, off, none⟩) n cap] w fun e w' => e = .returned (.string (B (l.map It.c))) ∧ Below w.heap.size w w') := chars_any _ n cap l w hD h80
  have CW : Hid (∀ w, Pairs w → Calls Tryz.prog 73 #[.string (B (l.map It.c))] w fun e w' => e = .returned (.string (B (Esc.wr (l.map It.c)))) ∧ Below w.heap.size w w') := fun w hp => written_any _ w hp (by have := hD.len; rw [List.length_map]; omega)
  have CL : Hid (∀ w, Pairs w → Calls Tryz.prog 73 #[.string x.l] w fun e w' => e = .returned (.string (B (Esc.wr x.l.data.toList))) ∧ Below w.heap.size w w') := fun w hp => written_any x.l.data.toList w hp (by rw [len_list]; omega)
  have HP : Hid (Pairs w) := hP
  have HM : Hid (Marks w) := hM
  clear hD hA hx hP hM
  have hres : Pg.bytes (Pg.tags x.m ((l.map It.c).map Pg.Tok.ch)) = tagL [98] (tagL [105] (Esc.wr (l.map It.c))) := by rw [hm, bytes_tags3, Pg.bytes_chars]
  have hseg : B (Pg.bytes (Pg.seg x (l.map It.c))) = _ := linked_yes x.l (Pg.tags x.m ((l.map It.c).map Pg.Tok.ch)) he
  rw [hres] at hseg
  clear hres
  rw [hseg]
  clear hseg
  generalize Esc.wr (l.map It.c) = T at *
  generalize B (Esc.wr x.l.data.toList) = L at *
  have q1 : (tagL [105] T).length ≤ 490 := by rw [tagL_len]; simp; omega
  have C1 : Hid (∀ w, Calls Tryz.prog 72 #[.string ⟨#[105]⟩, .string (B T)] w fun e w' => e = .returned (.string (B (tagL [105] T))) ∧ w' = w) := fun w => tagged_any [105] T w (by decide) (by omega)
  generalize tagL [105] T = T1 at *
  have q2 : (tagL [98] T1).length ≤ 500 := by rw [tagL_len]; simp; omega
  have C2 : Hid (∀ w, Calls Tryz.prog 72 #[.string ⟨#[98]⟩, .string (B T1)] w fun e w' => e = .returned (.string (B (tagL [98] T1))) ∧ w' = w) := fun w => tagged_any [98] T1 w (by decide) (by omega)
  generalize tagL [98] T1 = T2 at *
  have i0 := mdx0
  have i1 := mdx1
  go_enter Tryz.func43, Tryz.ntmps43
  go_wp2_with fail
  refine CC.out.mono ?_
  rintro e w1 ⟨rfl, hb⟩
  have H1 : Hid (Below w.heap.size w w1) := hb
  have P1 : Hid (Pairs w1) := HP.out.under hb
  clear hb
  go_wp2_with fail
  refine (CW.out _ P1.out).mono ?_
  rintro e w2 ⟨rfl, hb⟩
  have H2 : Hid (Below w.heap.size w w2) := H1.out.trans (hb.mono H1.out.size)
  have P2 : Hid (Pairs w2) := P1.out.under hb
  clear hb
  obtain ⟨t, fr, hg⟩ := HM.out.below H2.out
  have Hg : Hid (w2.heap[2]? = some (.cells mcells t fr)) := hg
  clear hg
  have A2 := HA.out.below H2.out
  have ha1 : w2.cell? ⟨b, off + 1, none⟩ = some (.int .i64 x.m) := by have := (A2.get HX.out).2.1; rw [Nat.zero_mul, Nat.add_zero] at this; exact this
  have ha2 : w2.cell? ⟨b, off + 2, none⟩ = some (.string x.l) := by have := (A2.get HX.out).2.2; rw [Nat.zero_mul, Nat.add_zero] at this; exact this
  have hb2 : b < w2.heap.size := cell_lt ha1
  rw [hm] at ha1
  clear A2
  go_wp2_with (refine wpList_load_row rfl 99 _ rfl 2 rfl t _ fr _ Hg.out Tryz.underlying99 rfl sz124 ?_)
  refine wp_loop_rounds 3 ?_
  rw [rounds_succ]
  go_wp2
  go_quiet (fail)
  go_wp2_with fail
  refine (C1.out _).mono ?_
  rintro e w3 ⟨rfl, rfl⟩
  go_wp2
  rw [rounds_succ]
  go_wp2
  go_quiet (fail)
  go_wp2_with fail
  refine (C2.out _).mono ?_
  rintro e w4 ⟨rfl, rfl⟩
  go_wp2
  rw [rounds_succ]
  go_wp2_with fail
  refine (CL.out _ (P2.out.under (two_below w2 _ _ _ _))).mono ?_
  rintro e w5 ⟨rfl, hb⟩
  have H5 : Hid (Below w.heap.size w w5) := by
    refine Below.trans (H2.out.trans ((two_below w2 _ _ _ _).mono H2.out.size)) (hb.mono ?_)
    exact (H2.out.trans ((two_below w2 _ _ _ _).mono H2.out.size)).size
  clear hb
  have hz := B_size T2
  go_wp2
  go_ret
  exact ⟨rfl, H5.out⟩

theorem run_any (b off n cap : Nat) (l : List It) (x : It) (w : World) (h : Runs1 b off n cap l x w) (h0 : 0 ≤ x.m) (h3 : x.m ≤ 3) :
    Calls Tryz.prog 43 #[.slice (some ⟨b, off, none⟩) n cap] w fun e w' => e = .returned (.string (B (Pg.bytes (Pg.seg x (l.map It.c))))) ∧ Below w.heap.size w w' := by
  have hm : x.m = 0 ∨ x.m = 1 ∨ x.m = 2 ∨ x.m = 3 := by omega
  cases he : x.l.toList.isEmpty
  · rcases hm with hm | hm | hm | hm
    · exact run_0l b off n cap l x w h hm he
    · exact run_1l b off n cap l x w h hm he
    · exact run_2l b off n cap l x w h hm he
    · exact run_3l b off n cap l x w h hm he
  · rcases hm with hm | hm | hm | hm
    · exact run_0 b off n cap l x w h hm he
    · exact run_1 b off n cap l x w h hm he
    · exact run_2 b off n cap l x w h hm he
    · exact run_3 b off n cap l x w h hm he
end Go.Proofs.YtpcaiechaakhnabGreatDoor

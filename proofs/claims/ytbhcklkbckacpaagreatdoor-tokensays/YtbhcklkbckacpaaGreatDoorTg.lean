/-
  token.Page: a page is taken apart into what chapter 5 says.
-/
import Derived.Test.YtbhcklkbckacpaaGreatDoorTd
namespace Go.Proofs.YtbhcklkbckacpaaGreatDoor
open Go.RowKit

theorem first_text (c : UInt8) (t : List UInt8) (h : c ≠ 60) : Tk.first c t = ([Tk.txt (Esc.rd ((c :: t).takeWhile (Tk.not 60)))], (c :: t).dropWhile (Tk.not 60)) := by
  have h1 : (c == 60) = false := by simpa using h
  have h2 : Tk.not 60 c = true := by unfold Tk.not; simpa using h
  unfold Tk.first
  rw [h1, if_neg Bool.false_ne_true, List.takeWhile_cons, List.dropWhile_cons, h2, if_pos rfl, if_pos rfl]
theorem after_60 (t : List UInt8) : Tk.after [62] (60 :: t) = Tk.after [62] t := by
  rw [Tk.after]
  simp [List.isPrefixOf]
theorem pre4 (t : List UInt8) : ([60, 33, 45, 45] : List UInt8).isPrefixOf (60 :: t) = ([33, 45, 45] : List UInt8).isPrefixOf t := by simp [List.isPrefixOf]
theorem pre2 (x d : UInt8) (u : List UInt8) : ([60, x] : List UInt8).isPrefixOf (60 :: d :: u) = (x == d) := by simp [List.isPrefixOf]
theorem lbh1 (d : UInt8) (u : List UInt8) : lbh [60] (60 :: d :: u) = Tk.letter d := by simp [lbh, List.isPrefixOf]
theorem lbh2 (e : UInt8) (v : List UInt8) : lbh [60, 47] (60 :: 47 :: e :: v) = Tk.letter e := by simp [lbh, List.isPrefixOf]
theorem lbh2_no (d : UInt8) (u : List UInt8) (h : d ≠ 47) : lbh [60, 47] (60 :: d :: u) = false := by
  unfold lbh
  rw [pre2]
  have : ((47 : UInt8) == d) = false := by simpa using (fun e => h e.symm)
  rw [this]
  rfl

theorem token_any (b : Nat) (c : UInt8) (t : List UInt8) (w : World) (hR : Rd w b (c :: t)) (hE : Env w b) (hl : t.length ≤ 19999) :
    Calls Tryz.prog 52 #[.pointer (some ⟨b, 0, none⟩)] w fun e w' => ∃ k whole rest, e = .returned (.tuple #[tkA k, .bool whole]) ∧ Tk.first c t = (if whole then [k] else [], rest) ∧ Rd w' b rest ∧ Kept w w' [b] := by
  by_cases h60 : c = 60
  · subst h60
    have hf : Tk.first 60 t = Tk.angle t := rfl
    rw [hf]
    by_cases h1 : ([33, 45, 45] : List UInt8).isPrefixOf t = true
    · have ha : Tk.angle t = ([Tk.oth], (Tk.after [45, 45, 62] (t.drop 3)).getD []) := by unfold Tk.angle; rw [if_pos h1]
      refine (token_comment b t w hR hE hl ((pre4 t).trans h1)).mono ?_
      rintro e w' ⟨rfl, h2, h3⟩
      exact ⟨_, true, _, rfl, ha, h2, h3⟩
    · have h1' : ([60, 33, 45, 45] : List UInt8).isPrefixOf (60 :: t) = false := (pre4 t).trans (Bool.eq_false_iff.2 h1)
      cases t with
      | nil =>
        refine (token_angle b [] w hR hE h1' rfl rfl rfl rfl).mono ?_
        rintro e w' ⟨rfl, h2, h3⟩
        exact ⟨_, true, _, rfl, rfl, h2, h3⟩
      | cons d u =>
        rw [Tk.angle_cons, if_neg h1]
        by_cases h33 : d = 33
        · subst h33
          refine (token_bang b (33 :: u) w hR hE hl h1' (by rw [pre2]; rfl)).mono ?_
          rintro e w' ⟨rfl, h2, h3⟩
          rw [after_60] at h2
          exact ⟨_, true, _, rfl, rfl, h2, h3⟩
        · have e33 : ((33 : UInt8) == d) = false := by simpa using (fun e => h33 e.symm)
          have f33 : (d == 33) = false := by simpa using h33
          by_cases h63 : d = 63
          · subst h63
            refine (token_quest b (63 :: u) w hR hE hl h1' ((pre2 33 63 u).trans rfl) ((pre2 63 63 u).trans rfl)).mono ?_
            rintro e w' ⟨rfl, h2, h3⟩
            rw [after_60] at h2
            exact ⟨_, true, _, rfl, rfl, h2, h3⟩
          · have e63 : ((63 : UInt8) == d) = false := by simpa using (fun e => h63 e.symm)
            have f63 : (d == 63) = false := by simpa using h63
            have g1 : ([60, 33] : List UInt8).isPrefixOf (60 :: d :: u) = false := (pre2 33 d u).trans e33
            have g2 : ([60, 63] : List UInt8).isPrefixOf (60 :: d :: u) = false := (pre2 63 d u).trans e63
            rw [f33, f63, Bool.or_self, if_neg Bool.false_ne_true]
            by_cases h47 : d = 47
            · subst h47
              have g3 : lbh [60] (60 :: 47 :: u) = false := (lbh1 47 u).trans rfl
              rw [if_pos (by rfl)]
              cases u with
              | nil =>
                refine (token_angle b [47] w hR hE h1' g1 g2 g3 rfl).mono ?_
                rintro e w' ⟨rfl, h2, h3⟩
                exact ⟨_, true, _, rfl, rfl, h2, h3⟩
              | cons x v =>
                rw [Tk.shutAt]
                cases hx : Tk.letter x
                · rw [if_neg Bool.false_ne_true]
                  refine (token_angle b (47 :: x :: v) w hR hE h1' g1 g2 g3 ((lbh2 x v).trans hx)).mono ?_
                  rintro e w' ⟨rfl, h2, h3⟩
                  exact ⟨_, true, _, rfl, rfl, h2, h3⟩
                · rw [if_pos rfl]
                  exact token_shut b (47 :: x :: v) w hR hE hl h1' g1 g2 g3 ((lbh2 x v).trans hx)
            · have e47 : (d == 47) = false := by simpa using h47
              rw [e47, if_neg Bool.false_ne_true]
              cases hx : Tk.letter d
              · rw [if_neg Bool.false_ne_true]
                refine (token_angle b (d :: u) w hR hE h1' g1 g2 ((lbh1 d u).trans hx) (lbh2_no d u h47)).mono ?_
                rintro e w' ⟨rfl, h2, h3⟩
                exact ⟨_, true, _, rfl, rfl, h2, h3⟩
              · rw [if_pos rfl]
                exact token_open b (d :: u) w hR hE hl h1' g1 g2 ((lbh1 d u).trans hx)
  · have hne : ((c.toNat : Int) != 60) = true := by
      rw [bne_iff_ne]
      intro e
      exact h60 (UInt8.toNat_inj.1 (by show c.toNat = 60; omega))
    refine (token_text b c t w hR hE hl hne).mono ?_
    rintro e w' ⟨rfl, h2, h3⟩
    exact ⟨_, true, _, rfl, first_text c t h60, h2, h3⟩

theorem Tryz.infoTk : (Tryz.prog.info? 30).map (fun i => (i.zero, i.size, i.bytes)) = some (some (tkA tk0), 4, 56) := by kernel_rfl

set_option maxRecDepth 100000 in
set_option maxHeartbeats 800000 in
theorem tpage_many (ao : Option Addr) (n cap : Nat) (w : World) (hn : 20000 < n) :
    Calls Tryz.prog 9 #[.slice ao n cap] w fun e w' => e = .returned (.tuple #[.slice none 0 0, .int .i64 2]) ∧ w' = w := by
  go_enter Tryz.func9, Tryz.ntmps9
  go_wp2
  go_ret2
  exact ⟨rfl, rfl⟩

/-- A page at work: what is taken apart, what is left. -/
structure PageAt (w : World) (b n : Nat) (l : List UInt8) (v : Value) (wr : World) (pre : List Tk) (r : List UInt8) : Prop where
  rest : Rd wr b r
  go : pre ++ Tk.toks r = Tk.toks l
  own : wr.ownsRow (b + 1) 30 4 v pre.length (tkCells pre)
  below : Below b w wr
  env : Env wr b
  len : pre.length + r.length ≤ n

set_option maxRecDepth 100000 in
set_option maxHeartbeats 800000 in
theorem tpage_ok (ao : Option Addr) (n cap : Nat) (l : List UInt8) (w : World) (hB : Byt w ao n cap l) (hE : Env w w.heap.size) (hn : n ≤ 20000) :
    Calls Tryz.prog 9 #[.slice ao n cap] w fun e w' => (∃ ao' cap', e = .returned (.tuple #[.slice ao' (Tk.toks l).length cap', .int .i64 0]) ∧ Tks w' ao' (Tk.toks l).length cap' (Tk.toks l)) ∧ Below w.heap.size w w' := by
  have hcv := conv_byt hB
  have hll := hB.bytes
  have hcap := hB.room
  have hbig := hB.big
  obtain ⟨i0, hi, hz0, hz1, hz2⟩ := info_parts Tryz.infoTk
  have hbw : Below w.heap.size w (w.alloc (.cells #[.string (B l)] 86)) := (Below.refl _ _).alloc (Nat.le_refl _) _
  have P0 : Hid (PageAt w w.heap.size n l (.slice none 0 0) (w.alloc (.cells #[.string (B l)] 86)) [] l) :=
    ⟨Blk.new w [.string (B l)] 86, rfl, World.ownsRow_nil _ _ _ _, hbw, hE.below hbw, by simp; omega⟩
  clear hB hE hbw
  obtain ⟨T, hT⟩ : ∃ T, Tk.toks l = T := ⟨_, rfl⟩
  have HT : Hid (Tk.toks l = T) := hT
  rw [hT]
  clear hT
  go_enter Tryz.func9, Tryz.ntmps9
  go_wp2
  go_loopw [5] (fun v wr => ∃ pre r, PageAt w w.heap.size n l v wr pre r) (fun _ wr => left w.heap.size wr)
  case atStart => exact ⟨_, _, P0.out⟩
  case round =>
    obtain ⟨pre, r, hP⟩ := hrel
    have HP : Hid (PageAt w w.heap.size n l u5 wr pre r) := hP
    have r0 := hP.rest.cell
    have hlen := hP.len
    have hLeft : Hid (left w.heap.size wr = r.length) := left_of hP.rest
    clear hP hcv
    cases r with
    | nil =>
      have e0 : (B []).toList.isEmpty = true := by rw [toList_B]; rfl
      have hpre : pre = T := by have := HP.out.go; rw [Tk.toks_nil, List.append_nil] at this; exact this.trans HT.out
      obtain ⟨ao', cap', hv, hrow⟩ := own_row HP.out.own
      subst hpre
      rw [hv]
      have HR : Hid (Row wr ao' pre.length cap' 4 (tkCells pre)) := hrow
      have HB : Hid (Below w.heap.size w wr) := HP.out.below
      clear hrow HP hv
      go_wp2
      go_ret2
      exact ⟨⟨ao', cap', rfl, HR.out⟩, HB.out⟩
    | cons c t =>
      have e0 : (B (c :: t)).toList.isEmpty = false := by rw [toList_B]; rfl
      simp only [List.length_cons] at hlen
      have hsz : w.heap.size < wr.heap.size := HP.out.rest.lt
      go_wp2_with fail
      refine (token_any w.heap.size c t wr HP.out.rest HP.out.env (by omega)).mono ?_
      rintro e w2 ⟨k, whole, rest, rfl, hf, hR, hK⟩
      have hrl : rest.length ≤ t.length := by have := Tk.first_len c t; rw [hf] at this; exact this
      have hgo : (pre ++ if whole then [k] else []) ++ Tk.toks rest = Tk.toks l := by
        rw [← HP.out.go, Tk.toks_cons, hf, List.append_assoc]
      have HGo : Hid ((pre ++ if whole then [k] else []) ++ Tk.toks rest = Tk.toks l) := hgo
      have HR : Hid (Rd w2 w.heap.size rest) := hR
      have HO : Hid (w2.ownsRow (w.heap.size + 1) 30 4 u5 pre.length (tkCells pre)) := own_kept HP.out.own hK (Nat.lt_succ_self _)
      have HB : Hid (Below w.heap.size w w2) := HP.out.below.trans (hK.below (by omega) (fun x hx => by rw [List.mem_singleton.1 hx]; exact Nat.le_refl _))
      have HE : Hid (Env w2 w.heap.size) := HP.out.env.kept hK (Nat.le_refl _)
      have hsz2 : w.heap.size < w2.heap.size := hR.lt
      clear hf hgo hR hK HP
      obtain ⟨kk, kn, kt, kh⟩ := k
      unfold tkA
      simp only
      cases whole
      · have hb1 : Below w2.heap.size w2 (w2.alloc (.cells #[.int .i64 kk, .string (B kn), .string (B kt), .string (B kh)] 30)) := (Below.refl _ _).alloc (Nat.le_refl _) _
        have R2 : Hid (Rd (w2.alloc (.cells #[.int .i64 kk, .string (B kn), .string (B kt), .string (B kh)] 30)) w.heap.size rest) := HR.out.far hb1
        have P2 : Hid (PageAt w w.heap.size n l u5 (w2.alloc (.cells #[.int .i64 kk, .string (B kn), .string (B kt), .string (B kh)] 30)) pre rest) :=
          ⟨R2.out, by have := HGo.out; simpa using this, own_under HO.out hb1, HB.out.trans (hb1.mono (by omega)), HE.out.below hb1, by omega⟩
        clear hb1
        go_wp2
        go_roundw
        case rel => exact ⟨_, _, P2.out⟩
        case measure =>
          rw [left_of R2.out, hLeft.out]
          simp only [List.length_cons]
          omega
      · go_wp2_with (at_builtin; refine wpList_append_lies _ rfl (.tmp 22) (.tmp 24) 23 rfl (w.heap.size + 1) 30 i0 (tkA tk0) 4 56 Tryz.underlying23 hi hz0 hz1 hz2 rfl (by decide) u5 pre.length (tkCells pre) rfl ?c1 ⟨w2.heap.size + 1, 0, none⟩ 1 1 (tkC ⟨kk, kn, kt, kh⟩) rfl rfl ?c2 ?c3 (by decide) ?c4 ?c5 ?c6 _ rfl ?c7)
        case c1 => exact (HO.out.alloc _).alloc _
        case c2 => exact fun _ _ h => h
        case c3 => rw [← tkCells_one]; exact tkCells_oneCell _
        case c4 => unfold maxLen; omega
        case c5 => omega
        case c6 => omega
        case c7 =>
          intro g cap2 w3 hown hgrow _ _
          have hb1 : Below w2.heap.size w2 ((w2.alloc (.cells #[.int .i64 kk, .string (B kn), .string (B kt), .string (B kh)] 30)).alloc (.cells #[.int .i64 kk, .string (B kn), .string (B kt), .string (B kh)] 30)) := ((Below.refl _ _).alloc (Nat.le_refl _) _).alloc (by simp) _
          have hb2 : Below (w.heap.size + 1) w2 w3 := (hb1.mono (by omega)).grown hgrow (by simp; omega) (fun k hk => ownBlk_ge HO.out k hk)
          have R3 : Hid (Rd w3 w.heap.size rest) := (hb2.block _ (Nat.lt_succ_self _)).trans HR.out
          have E3 : Hid (Env w3 w.heap.size) := ⟨HE.out.pairs.below hb2 (Nat.lt_succ_of_lt HE.out.low.1), by obtain ⟨m, hm⟩ := HE.out.mx; exact ⟨m, (World.cell?_of_block (w := w2) (hb2.block _ (Nat.lt_succ_of_lt HE.out.low.2))).trans hm⟩, HE.out.low, Nat.le_trans HE.out.size hb2.size⟩
          have P3 : Hid (PageAt w w.heap.size n l (.slice (some ⟨g, 0, none⟩) (pre.length + 1) cap2) w3 (pre ++ [⟨kk, kn, kt, kh⟩]) rest) :=
            ⟨R3.out, HGo.out, by rw [List.length_append, tkCells_app, tkCells_one]; exact hown, HB.out.trans (hb2.mono (Nat.le_succ _)), E3.out, by simp; omega⟩
          clear hb1 hb2 hown hgrow
          go_wp2
          go_roundw
          case rel => exact ⟨_, _, P3.out⟩
          case measure =>
            rw [left_of R3.out, hLeft.out]
            simp only [List.length_cons]
            omega
end Go.Proofs.YtbhcklkbckacpaaGreatDoor

/-
  Chapter 10: clients, and how they lie in memory.
-/
import Derived.Test.YtbhcklkbckacpaaDoorG9
namespace Go.Proofs.YtbhcklkbckacpaaDoor
open Go.RowKit
namespace Kl
/-- A client. -/
structure Cl where
  rev : Int
  base : List It
  now : List It
  seq : Int
  sent : List Ac.Pt
  held : List Ac.Pt
  jo : Bool
/-- What an operation makes, if there is one. -/
def opE (d : List It) (o : List Ac.Pt) : Int := if o.length = 0 then 0 else Ac.fitE d o
def opD (d : List It) (o : List Ac.Pt) : List It := if o.length = 0 then d else Ac.done d o
def dnE (d : List It) (s h : List Ac.Pt) : Int := if opE d s = 0 then opE (opD d s) h else opE d s
def dnD (d : List It) (s h : List Ac.Pt) : List It := opD (opD d s) h
def cliE (c : Cl) : Int :=
  if c.rev < 0 ∨ 60 < c.rev ∨ c.seq < 0 ∨ 10000 < c.seq then 3 else if Dc.check c.base = 0 then (if (0 < c.held.length ∧ c.sent.length = 0) ∨ (0 < c.sent.length ∧ c.seq = 0) then 4 else
    if dnE c.base c.sent c.held = 0 then (if Dc.same c.now (dnD c.base c.sent c.held) = true then 0 else 4) else dnE c.base c.sent c.held) else Dc.check c.base
def same (a b : Cl) : Bool := (a.rev == b.rev) && ((a.seq == b.seq) && ((a.jo == b.jo) && (Dc.same a.base b.base && (Dc.same a.now b.now && (Ac.sameO a.sent b.sent && Ac.sameO a.held b.held)))))
def none : Cl := ⟨0, [], [], 0, [], [], false⟩
/-- What is done, of a right client. -/
def doE (c : Cl) (o : List Ac.Pt) : Int := if Ac.fitE c.now o = 0 then (if c.sent.length = 0 then (if c.seq = 10000 then 2 else 0) else if c.held.length = 0 then 0 else Ac.jonE c.held o) else Ac.fitE c.now o
def doC (c : Cl) (o : List Ac.Pt) : Cl :=
  if c.sent.length = 0 then ⟨c.rev, c.base, Ac.done c.now o, c.seq + 1, o, c.held, c.jo⟩ else if c.held.length = 0 then ⟨c.rev, c.base, Ac.done c.now o, c.seq, c.sent, o, c.jo⟩ else ⟨c.rev, c.base, Ac.done c.now o, c.seq, c.sent, Ac.jonX c.held o, c.jo⟩
def doS (c : Cl) : Bool := decide (c.sent.length = 0)
def DoE (c : Cl) (o : List Ac.Pt) : Int := if cliE c = 0 then doE c o else cliE c
def DoC (c : Cl) (o : List Ac.Pt) : Cl := if DoE c o = 0 then doC c o else none
def DoS (c : Cl) (o : List Ac.Pt) : Bool := if DoE c o = 0 then doS c else false
/-- Given up. -/
def gv (c : Cl) : Cl := ⟨c.rev, c.base, c.base, c.seq, [], [], c.jo⟩
/-- One revision more. -/
def adv (c : Cl) (o : List Ac.Pt) : Cl := ⟨c.rev + 1, Ac.done c.base o, c.now, c.seq, c.sent, c.held, c.jo⟩
def isOwn (c : Cl) (who : Int) (x : Sv.En) : Bool := (x.who == who) && ((x.seq == c.seq) && decide (0 < c.sent.length))
/-- What was held is sent, if it can be. -/
def canB (c : Cl) (o : List Ac.Pt) : Bool := decide (0 < c.held.length) && (decide (Ac.fitE (Ac.done c.base o) c.held = 0) && !decide (c.seq = 10000))
def ownC (c : Cl) (o : List Ac.Pt) : Cl := if canB c o = true then ⟨c.rev + 1, Ac.done c.base o, Ac.done (Ac.done c.base o) c.held, c.seq + 1, c.held, [], c.jo⟩ else gv (adv c o)
/-- One behind the other, if there is one. -/
def tE (o s : List Ac.Pt) : Int := if s.length = 0 then 0 else Ac.trnE o s
def tX (o s : List Ac.Pt) : List Ac.Pt := if s.length = 0 then o else Ac.trnX o s
def tY (o s : List Ac.Pt) : List Ac.Pt := if s.length = 0 then s else Ac.trnY o s
def bhE (o s h : List Ac.Pt) : Int := if tE o s = 0 then tE (tX o s) h else tE o s
def bhH (o s h : List Ac.Pt) : List Ac.Pt := tY (tX o s) h
def othC (c : Cl) (o : List Ac.Pt) : Cl :=
  if Ac.fitE c.base o = 0 then (if bhE o c.sent c.held = 0 then (if dnE (Ac.done c.base o) (tY o c.sent) (bhH o c.sent c.held) = 0 then ⟨c.rev + 1, Ac.done c.base o, dnD (Ac.done c.base o) (tY o c.sent) (bhH o c.sent c.held), c.seq, tY o c.sent, bhH o c.sent c.held, c.jo⟩ else gv (adv c o)) else gv (adv c o)) else c
/-- What is heard, of a right client. -/
def heE (c : Cl) (who rev : Int) (x : Sv.En) : Int := if x.o.length = 0 then 0 else if Ac.chk x.o = 0 then (if rev ≠ c.rev + 1 ∨ c.rev = 60 then 0 else if isOwn c who x = true then Ac.fitE c.base x.o else 0) else Ac.chk x.o
def heC (c : Cl) (who rev : Int) (x : Sv.En) : Cl := if x.o.length = 0 then (if isOwn c who x = true then gv c else c) else if rev ≠ c.rev + 1 ∨ c.rev = 60 then c else if isOwn c who x = true then ownC c x.o else othC c x.o
def heS (c : Cl) (who rev : Int) (x : Sv.En) : Bool := if x.o.length = 0 then false else if rev ≠ c.rev + 1 ∨ c.rev = 60 then false else if isOwn c who x = true then canB c x.o else false
def HearE (c : Cl) (who rev : Int) (x : Sv.En) : Int := if cliE c = 0 then heE c who rev x else cliE c
def HearC (c : Cl) (who rev : Int) (x : Sv.En) : Cl := if HearE c who rev x = 0 then heC c who rev x else none
def HearS (c : Cl) (who rev : Int) (x : Sv.En) : Bool := if HearE c who rev x = 0 then heS c who rev x else false
end Kl
/-- A client in memory. -/
structure CV where
  rev : Int
  ba : Option Addr
  bn : Nat
  bc : Nat
  base : List It
  na : Option Addr
  nn : Nat
  nc : Nat
  now : List It
  seq : Int
  sa : Option Addr
  sn : Nat
  sc : Nat
  sent : List PV
  ha : Option Addr
  hn : Nat
  hc : Nat
  held : List PV
  jo : Bool
def CV.cl (c : CV) : Kl.Cl := ⟨c.rev, c.base, c.now, c.seq, c.sent.map PV.pt, c.held.map PV.pt, c.jo⟩
def cvC (c : CV) : List Value := [.int .i64 c.rev, .slice c.ba c.bn c.bc, .slice c.na c.nn c.nc, .int .i64 c.seq, .slice c.sa c.sn c.sc, .slice c.ha c.hn c.hc, .bool c.jo]
def cvA (c : CV) : Value := .agg #[.int .i64 c.rev, .slice c.ba c.bn c.bc, .slice c.na c.nn c.nc, .int .i64 c.seq, .slice c.sa c.sn c.sc, .slice c.ha c.hn c.hc, .bool c.jo]
def cv0 : CV := ⟨0, none, 0, 0, [], none, 0, 0, [], 0, none, 0, 0, [], none, 0, 0, [], false⟩
structure Cli (w : World) (c : CV) : Prop where
  base : Doc w c.ba c.bn c.bc c.base
  now : Doc w c.na c.nn c.nc c.now
  sent : Ops w c.sa c.sn c.sc c.sent
  held : Ops w c.ha c.hn c.hc c.held
theorem Cli.below {w w' : World} {c : CV} (h : Cli w c) (hb : Below w.heap.size w w') : Cli w' c := ⟨h.base.below hb, h.now.below hb, h.sent.below hb, h.held.below hb⟩
theorem Cli.nil (w : World) : Cli w cv0 := ⟨doc_none w, doc_none w, ops_nil w, ops_nil w⟩
def boxk (c : CV) (w : World) : World := w.alloc (.cells #[.int .i64 c.rev, .slice c.ba c.bn c.bc, .slice c.na c.nn c.nc, .int .i64 c.seq, .slice c.sa c.sn c.sc, .slice c.ha c.hn c.hc, .bool c.jo] 51)
theorem boxk_below (c : CV) (w : World) : Below w.heap.size w (boxk c w) := (Below.refl _ _).alloc (Nat.le_refl _) _
theorem boxk_size (c : CV) (w : World) : (boxk c w).heap.size = w.heap.size + 1 := World.size_alloc ..
theorem boxk_blk (c : CV) (w : World) : Blk (boxk c w) w.heap.size (cvC c) 51 := Blk.new w _ _
/-- A block that holds no bytes and no texts. -/
def noTx1 : Value → Bool
  | .slice _ _ _ => true
  | .int .i64 _ => true
  | .bool _ => true
  | _ => false
def noTx (cs : List Value) : Bool := cs.all noTx1
theorem cell_apartN {w : World} {g : Nat} {cs : List Value} {T : TypeId} (h : Blk w g cs T) (hn : noTx cs = true) {b o : Nat} {u : Value} (hu : w.cell? ⟨b, o, none⟩ = some u) (h1 : noTx1 u = false) : b ≠ g := by
  rintro rfl
  rw [h.cell o] at hu
  have := List.all_eq_true.1 hn u (List.mem_of_getElem? hu)
  rw [h1] at this
  cases this
theorem Doc.offN {w : World} {a : Option Addr} {n c : Nat} {l : List It} {g : Nat} {cs : List Value} {T : TypeId} (h : Doc w a n c l) (hB : Blk w g cs T) (hn : noTx cs = true) : ∀ ad : Addr, n ≠ 0 → a = some ad → ad.block ∉ [g] := fun ad h0 e hx => by
  obtain ⟨b, off, e2, hA⟩ := h.lies h0
  rw [e] at e2
  cases e2
  exact cell_apartN hB hn (hA.c 0 (by rw [h.len]; omega)) rfl (List.mem_singleton.1 hx)
theorem Doc.keptN {w w' : World} {a : Option Addr} {n c : Nat} {l : List It} {g : Nat} {cs : List Value} {T : TypeId} (h : Doc w a n c l) (hB : Blk w g cs T) (hn : noTx cs = true) (hk : Kept w w' [g]) : Doc w' a n c l := h.kept hk (h.offN hB hn)
theorem Ops.keptN {w w' : World} {a : Option Addr} {n c : Nat} {vs : List PV} {g : Nat} {cs : List Value} {T : TypeId} (h : Ops w a n c vs) (hB : Blk w g cs T) (hn : noTx cs = true) (hk : Kept w w' [g]) : Ops w' a n c vs :=
  h.kept hk (fun ad h0 e hx => by
    obtain ⟨b, off, e2, hc⟩ := h.row.lies h0
    rw [e] at e2
    cases e2
    have hl2 := h.len
    match vs, hl2 with
    | [], hl2 => exact absurd hl2.symm h0
    | y :: vs, _ => exact cell_apartN hB hn (hc 6 (.string y.link) rfl) rfl (List.mem_singleton.1 hx)) (fun v hv => (h.pts v hv).doc.offN hB hn)
theorem sch_first : ∃ t, scells[0]? = some (.string t) := ⟨_, rfl⟩
theorem Sch.keptN {w w' : World} {g : Nat} {cs : List Value} {T : TypeId} (h : Sch w) (hB : Blk w g cs T) (hn : noTx cs = true) (hk : Kept w w' [g]) : Sch w' := by
  obtain ⟨t0, ht⟩ := sch_first
  have hc := (h.cell 0).trans ht
  obtain ⟨t, fr, hh⟩ := h
  have hne : 0 ≠ g := cell_apartN hB hn hc rfl
  exact ⟨t, fr, (hk.block _ (Array.getElem?_eq_some_iff.1 hh).1 (fun hx => hne (List.mem_singleton.1 hx))).trans hh⟩
theorem Doc.keptK {w w' : World} {a : Option Addr} {n c : Nat} {l : List It} {g : Nat} {x : CV} {T : TypeId} (h : Doc w a n c l) (hB : Blk w g (cvC x) T) (hk : Kept w w' [g]) : Doc w' a n c l := h.keptN hB rfl hk
theorem Ops.keptK {w w' : World} {a : Option Addr} {n c : Nat} {vs : List PV} {g : Nat} {x : CV} {T : TypeId} (h : Ops w a n c vs) (hB : Blk w g (cvC x) T) (hk : Kept w w' [g]) : Ops w' a n c vs := h.keptN hB rfl hk
theorem Sch.keptK {w w' : World} {g : Nat} {x : CV} {T : TypeId} (h : Sch w) (hB : Blk w g (cvC x) T) (hk : Kept w w' [g]) : Sch w' := h.keptN hB rfl hk
theorem Cli.keptK {w w' : World} {c : CV} {g : Nat} {x : CV} {T : TypeId} (h : Cli w c) (hB : Blk w g (cvC x) T) (hk : Kept w w' [g]) : Cli w' c := ⟨h.base.keptK hB hk, h.now.keptK hB hk, h.sent.keptK hB hk, h.held.keptK hB hk⟩
/-- A client at block g, and what it leads to. -/
structure KAt (w : World) (g : Nat) (c : CV) : Prop where
  blk : Blk w g (cvC c) 51
  cli : Cli w c
theorem KAt.below {w w' : World} {g : Nat} {c : CV} (h : KAt w g c) (hb : Below w.heap.size w w') : KAt w' g c := ⟨(hb.block _ h.blk.lt).trans h.blk, h.cli.below hb⟩
theorem KAt.under {w w' : World} {g : Nat} {c : CV} (h : KAt w g c) (hk : Kept w w' [g]) (hg : Blk w' g (cvC c) 51) : KAt w' g c := ⟨hg, h.cli.keptK h.blk hk⟩
theorem kept_g (w : World) (g j : Nat) (v : Value) : Kept w (w.setCell ⟨g, j, none⟩ v) [g] := kept_set _ _ _ _ _ (by simp)
theorem Kept.of_below {w w' : World} {S : List Nat} (h : Below w.heap.size w w') : Kept w w' S := ⟨h.os, h.tape, h.output, h.size, fun k hk _ => h.block k hk⟩
theorem Kept.low {w w' : World} {g : Nat} (h : Kept w w' [g]) (hg : g ≤ w.heap.size) : Below g w w' := h.below hg (fun x hx => by rw [List.mem_singleton.1 hx]; exact Nat.le_refl _)
def CV.toRev (c : CV) (r : Int) : CV := ⟨r, c.ba, c.bn, c.bc, c.base, c.na, c.nn, c.nc, c.now, c.seq, c.sa, c.sn, c.sc, c.sent, c.ha, c.hn, c.hc, c.held, c.jo⟩
theorem KAt.toRev {w : World} {g : Nat} {c : CV} (h : KAt w g c) (r : Int)  : KAt (w.setCell ⟨g, 0, none⟩ (.int .i64 r)) g (c.toRev r) :=
  ⟨h.blk.set 0 _, h.cli.base.keptK h.blk (kept_g _ _ _ _), h.cli.now.keptK h.blk (kept_g _ _ _ _), h.cli.sent.keptK h.blk (kept_g _ _ _ _), h.cli.held.keptK h.blk (kept_g _ _ _ _)⟩
def CV.toSeq (c : CV) (r : Int) : CV := ⟨c.rev, c.ba, c.bn, c.bc, c.base, c.na, c.nn, c.nc, c.now, r, c.sa, c.sn, c.sc, c.sent, c.ha, c.hn, c.hc, c.held, c.jo⟩
theorem KAt.toSeq {w : World} {g : Nat} {c : CV} (h : KAt w g c) (r : Int)  : KAt (w.setCell ⟨g, 3, none⟩ (.int .i64 r)) g (c.toSeq r) :=
  ⟨h.blk.set 3 _, h.cli.base.keptK h.blk (kept_g _ _ _ _), h.cli.now.keptK h.blk (kept_g _ _ _ _), h.cli.sent.keptK h.blk (kept_g _ _ _ _), h.cli.held.keptK h.blk (kept_g _ _ _ _)⟩
def CV.toBase (c : CV) (a : Option Addr) (n cp : Nat) (l : List It) : CV := ⟨c.rev, a, n, cp, l, c.na, c.nn, c.nc, c.now, c.seq, c.sa, c.sn, c.sc, c.sent, c.ha, c.hn, c.hc, c.held, c.jo⟩
theorem KAt.toBase {w : World} {g : Nat} {c : CV} (h : KAt w g c) (a : Option Addr) (n cp : Nat) (l : List It) (hd : Doc w a n cp l) : KAt (w.setCell ⟨g, 1, none⟩ (.slice a n cp)) g (c.toBase a n cp l) :=
  ⟨h.blk.set 1 _, hd.keptK h.blk (kept_g _ _ _ _), h.cli.now.keptK h.blk (kept_g _ _ _ _), h.cli.sent.keptK h.blk (kept_g _ _ _ _), h.cli.held.keptK h.blk (kept_g _ _ _ _)⟩
def CV.toNow (c : CV) (a : Option Addr) (n cp : Nat) (l : List It) : CV := ⟨c.rev, c.ba, c.bn, c.bc, c.base, a, n, cp, l, c.seq, c.sa, c.sn, c.sc, c.sent, c.ha, c.hn, c.hc, c.held, c.jo⟩
theorem KAt.toNow {w : World} {g : Nat} {c : CV} (h : KAt w g c) (a : Option Addr) (n cp : Nat) (l : List It) (hd : Doc w a n cp l) : KAt (w.setCell ⟨g, 2, none⟩ (.slice a n cp)) g (c.toNow a n cp l) :=
  ⟨h.blk.set 2 _, h.cli.base.keptK h.blk (kept_g _ _ _ _), hd.keptK h.blk (kept_g _ _ _ _), h.cli.sent.keptK h.blk (kept_g _ _ _ _), h.cli.held.keptK h.blk (kept_g _ _ _ _)⟩
def CV.toSent (c : CV) (a : Option Addr) (n cp : Nat) (us : List PV) : CV := ⟨c.rev, c.ba, c.bn, c.bc, c.base, c.na, c.nn, c.nc, c.now, c.seq, a, n, cp, us, c.ha, c.hn, c.hc, c.held, c.jo⟩
theorem KAt.toSent {w : World} {g : Nat} {c : CV} (h : KAt w g c) (a : Option Addr) (n cp : Nat) (us : List PV) (hd : Ops w a n cp us) : KAt (w.setCell ⟨g, 4, none⟩ (.slice a n cp)) g (c.toSent a n cp us) :=
  ⟨h.blk.set 4 _, h.cli.base.keptK h.blk (kept_g _ _ _ _), h.cli.now.keptK h.blk (kept_g _ _ _ _), hd.keptK h.blk (kept_g _ _ _ _), h.cli.held.keptK h.blk (kept_g _ _ _ _)⟩
def CV.toHeld (c : CV) (a : Option Addr) (n cp : Nat) (us : List PV) : CV := ⟨c.rev, c.ba, c.bn, c.bc, c.base, c.na, c.nn, c.nc, c.now, c.seq, c.sa, c.sn, c.sc, c.sent, a, n, cp, us, c.jo⟩
theorem KAt.toHeld {w : World} {g : Nat} {c : CV} (h : KAt w g c) (a : Option Addr) (n cp : Nat) (us : List PV) (hd : Ops w a n cp us) : KAt (w.setCell ⟨g, 5, none⟩ (.slice a n cp)) g (c.toHeld a n cp us) :=
  ⟨h.blk.set 5 _, h.cli.base.keptK h.blk (kept_g _ _ _ _), h.cli.now.keptK h.blk (kept_g _ _ _ _), h.cli.sent.keptK h.blk (kept_g _ _ _ _), hd.keptK h.blk (kept_g _ _ _ _)⟩

theorem szCv (t : CV) : (Tryd.prog.info? 51).map (·.size) = some (cvC t).toArray.size := by
  have h : (Tryd.prog.info? 51).map (·.size) = some 7 := by kernel_rfl
  exact h
theorem ret_cli {fn : Func} {p : Tmp} {t : CV} {w : World} {g : Nat} (h : fn.results = #[.cell p 51]) (tmps : Array Value) (hp : tmps.getD p undef = .pointer (some ⟨g, 0, none⟩)) (hB : Blk w g (cvC t) 51) : (results fn tmps).run Tryd.prog w = .ok (cvA t) w :=
  results_cell_row h tmps w g 51 (cvC t).toArray (0, 0) _ hp hB Tryd.underlying51 rfl (szCv t)
theorem ret_cli2 {fn : Func} {p u : Tmp} {t : CV} {c : Value} {w : World} {g : Nat} (h : fn.results = #[.cell p 51, .tmp u]) (tmps : Array Value) (hp : tmps.getD p undef = .pointer (some ⟨g, 0, none⟩)) (hu : tmps.getD u undef = c) (hB : Blk w g (cvC t) 51) : (results fn tmps).run Tryd.prog w = .ok (.tuple #[cvA t, c]) w := by
  have hl := run_loadVar_row (P := Tryd.prog) w g 51 51 (cvC t).toArray (0, 0) _ hB Tryd.underlying51 rfl (szCv t)
  rw [results_cell_tmp h, hp, hu]
  simp only [asAddr, Sem.run_pure, Result.andThen_ok, hl]
  rfl
def putK (w : World) (g : Nat) (t : CV) : World := ((((((w.setCell ⟨g, 0, none⟩ (.int .i64 t.rev)).setCell ⟨g, 1, none⟩ (.slice t.ba t.bn t.bc)).setCell ⟨g, 2, none⟩ (.slice t.na t.nn t.nc)).setCell ⟨g, 3, none⟩ (.int .i64 t.seq)).setCell ⟨g, 4, none⟩ (.slice t.sa t.sn t.sc)).setCell ⟨g, 5, none⟩ (.slice t.ha t.hn t.hc)).setCell ⟨g, 6, none⟩ (.bool t.jo)
theorem putK_blk {w : World} {g : Nat} {x t : CV} (h : Blk w g (cvC x) 51) : Blk (putK w g t) g (cvC t) 51 := ((((((h.set 0 (.int .i64 t.rev)).set 1 (.slice t.ba t.bn t.bc)).set 2 (.slice t.na t.nn t.nc)).set 3 (.int .i64 t.seq)).set 4 (.slice t.sa t.sn t.sc)).set 5 (.slice t.ha t.hn t.hc)).set 6 (.bool t.jo)
theorem putK_kept (w : World) (g : Nat) (t : CV) : Kept w (putK w g t) [g] := (((((((Kept.refl w [g]).setCell _ _ (.inl (by simp))).setCell _ _ (.inl (by simp))).setCell _ _ (.inl (by simp))).setCell _ _ (.inl (by simp))).setCell _ _ (.inl (by simp))).setCell _ _ (.inl (by simp))).setCell _ _ (.inl (by simp))
theorem putK_size (w : World) (g : Nat) (t : CV) : (putK w g t).heap.size = w.heap.size := by unfold putK; simp only [World.size_setCell]
theorem KAt.put {w : World} {g : Nat} {x t : CV} (h : Blk w g (cvC x) 51) (ht : Cli w t) : KAt (putK w g t) g t := ⟨putK_blk h, ht.keptK h (putK_kept w g t)⟩
end Go.Proofs.YtbhcklkbckacpaaDoor

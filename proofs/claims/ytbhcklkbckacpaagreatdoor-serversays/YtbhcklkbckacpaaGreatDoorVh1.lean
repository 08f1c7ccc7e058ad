/-
  Package server: what Take works with.
-/
import Derived.Test.YtbhcklkbckacpaaGreatDoorVf0
import Derived.Test.YtbhcklkbckacpaaGreatDoorVg
import Derived.Test.YtbhcklkbckacpaaGreatDoorVh0
import Derived.Test.YtbhcklkbckacpaaGreatDoorVp
import Derived.Laws.ResultCell
namespace Go.Proofs.YtbhcklkbckacpaaGreatDoor
open Go.RowKit
theorem ret_srv2 {fn : Func} {p u : Tmp} {t : SV} {c : Value} {w : World} {g : Nat} (h : fn.results = #[.cell p 42, .tmp u]) (tmps : Array Value) (hp : tmps.getD p undef = .pointer (some ⟨g, 0, none⟩)) (hu : tmps.getD u undef = c) (hB : Blk w g (svC t) 42) : (results fn tmps).run Tryz.prog w = .ok (.tuple #[svA t, c]) w := by
  have hl := run_loadVar_row (P := Tryz.prog) w g 42 42 (svC t).toArray (0, 0) _ hB Tryz.underlying42 rfl (szSv t)
  rw [results_cell_tmp h, hp, hu]
  simp only [asAddr, Sem.run_pure, Result.andThen_ok, hl]
  rfl
structure SrvFrom (B : Nat) (w : World) (t : SV) : Prop where
  first : Doc w t.fa t.fn t.fc t.first
  now : Doc w t.na t.nn t.nc t.now
  row : Row w t.la t.ln t.lc 3 (evCells t.log)
  ops : ∀ v ∈ t.log, OpsFrom B w v.ao v.n v.cap v.vs
  loF : ∀ ad : Addr, t.fn ≠ 0 → t.fa = some ad → B ≤ ad.block
  loN : ∀ ad : Addr, t.nn ≠ 0 → t.na = some ad → B ≤ ad.block
  loL : ∀ ad : Addr, t.ln ≠ 0 → t.la = some ad → B ≤ ad.block
theorem SrvFrom.srv {B : Nat} {w : World} {t : SV} (h : SrvFrom B w t) : Srv w t := ⟨h.first, ⟨h.row, fun v hv => (h.ops v hv).ops⟩, h.now⟩
theorem SrvFrom.kept {B : Nat} {w w' : World} {t : SV} {S : List Nat} (h : SrvFrom B w t) (hk : Kept w w' S) (hS : ∀ x ∈ S, x < B) : SrvFrom B w' t :=
  ⟨h.first.kept hk (fun ad h1 h2 hx => by have := h.loF ad h1 h2; have := hS _ hx; omega), h.now.kept hk (fun ad h1 h2 hx => by have := h.loN ad h1 h2; have := hS _ hx; omega), h.row.kept (by decide) hk (fun ad h1 h2 hx => by have := h.loL ad h1 h2; have := hS _ hx; omega), fun v hv => (h.ops v hv).kept hk hS, h.loF, h.loN, h.loL⟩
theorem SrvFrom.nil (B : Nat) (w : World) : SrvFrom B w sv0 := ⟨doc_none w, doc_none w, Row.nil w 3, (fun v hv => absurd hv (by simp [sv0])), fun _ h _ => absurd rfl h, fun _ h _ => absurd rfl h, fun _ h _ => absurd rfl h⟩
theorem Cpy.from {B : Nat} {w : World} {t : SV} (h : Cpy B w t) : SrvFrom B w t := by
  have hs := h.srv
  refine ⟨h.first, h.now, hs.log.row, fun v hv => ?_, fun ad _ e => h.loF ad e, fun ad _ e => h.loN ad e, fun ad _ e => ownBlk_ge h.own ad.block (by rw [e]; rfl)⟩
  have hl := hs.log.len
  obtain ⟨g, off, e, _⟩ := hs.log.row.lies (by have := List.length_pos_of_mem hv; omega)
  exact (h.ops v hv _ e).mono (by have := ownBlk_ge h.own g (by rw [e]; rfl); show B ≤ g + 1; omega)
structure Tak (w : World) (x : EV) (B : Nat) (t : SV) (wr : World) : Prop where
  hS : Blk wr w.heap.size (svC t) 42
  hX : Blk wr (w.heap.size + 1) (evC x) 46
  hR : Blk wr (w.heap.size + 2) (svC sv0) 42
  cpy : Cpy B wr t
  lo : w.heap.size + 3 ≤ B
  hi : B ≤ wr.heap.size
  blw : Below w.heap.size w wr
theorem Tak.under {w : World} {x : EV} {B : Nat} {t : SV} {wr wr' : World} (h : Tak w x B t wr) (hb : Below wr.heap.size wr wr') : Tak w x B t wr' :=
  ⟨(hb.block _ h.hS.lt).trans h.hS, (hb.block _ h.hX.lt).trans h.hX, (hb.block _ h.hR.lt).trans h.hR, h.cpy.below hb, h.lo, Nat.le_trans h.hi hb.size, h.blw.trans (hb.mono h.blw.size)⟩
theorem Tak.start {w W w1 w2 : World} {x : EV} {s t : SV} (hS : Blk W w.heap.size (svC s) 42) (hX : Blk W (w.heap.size + 1) (evC x) 46) (hR : Blk W (w.heap.size + 2) (svC sv0) 42) (hW : Below w.heap.size w W) (h1 : Below W.heap.size W w1) (h2 : Below w1.heap.size w1 w2) (hc : Cpy w1.heap.size w2 t) :
    Tak w x w1.heap.size t (putS w2 w.heap.size t) := by
  have hb : Below W.heap.size W w2 := h1.trans (h2.mono h1.size)
  have hk := putS_kept w2 w.heap.size t
  have hlo : w.heap.size + 3 ≤ w1.heap.size := by have := hR.lt; have := h1.size; omega
  exact ⟨putS_blk ((hb.block _ hS.lt).trans hS), hk.blk ((hb.block _ hX.lt).trans hX) (by simp), hk.blk ((hb.block _ hR.lt).trans hR) (by simp), hc.kept hk (fun x hx => by simp at hx; omega), hlo, by rw [putS_size]; exact h2.size, (hW.trans (hb.mono hW.size)).trans (putS_below _ _ _)⟩
def nowS (t : SV) (a : Option Addr) (n c : Nat) (l : List It) : SV := ⟨t.fa, t.fn, t.fc, t.first, t.la, t.ln, t.lc, t.log, a, n, c, l⟩
def logS (t : SV) (a : Option Addr) (c : Nat) (v : EV) : SV := ⟨t.fa, t.fn, t.fc, t.first, a, t.ln + 1, c, t.log ++ [v], t.na, t.nn, t.nc, t.now⟩
theorem Tak.now {w : World} {x : EV} {B : Nat} {t : SV} {w5 w6 : World} {a : Option Addr} {n c : Nat} {l : List It} (h : Tak w x B t w5) (hb : Below w5.heap.size w5 w6) (hd : Doc w6 a n c l) (hf : ∀ ad : Addr, a = some ad → w5.heap.size ≤ ad.block) :
    Tak w x B (nowS t a n c l) (w6.setCell ⟨w.heap.size, 2, none⟩ (.slice a n c)) := by
  have h6 := h.under hb
  have hlo := h.lo
  have h5 := h.hR.lt
  have hk : Kept w6 (w6.setCell ⟨w.heap.size, 2, none⟩ (.slice a n c)) [w.heap.size] := kept_set _ _ _ _ _ (by simp)
  have hc := h6.cpy.kept hk (fun x hx => by simp at hx; omega)
  exact ⟨h6.hS.set 2 _, hk.blk h6.hX (by simp), hk.blk h6.hR (by simp), ⟨hc.first, hd.kept hk (fun ad _ e hx => by have := hf ad e; simp at hx; omega), hc.own, hc.offF, fun ad bd e1 e2 => by
    have h1 := hf ad e1
    have h2 := (h.cpy.own.lt bd.block (by have e3 : t.la = some bd := e2; rw [e3]; rfl)).2
    omega, hc.loF, fun ad e => by
    have h1 := hf ad e
    have h2 := h.hi
    omega, hc.ops⟩, h.lo, by rw [World.size_setCell]; exact h6.hi, h6.blw.setCell (Nat.le_refl _) _⟩
theorem Tak.log {w : World} {x : EV} {B Bo : Nat} {t : SV} {W7 w9 : World} {v : EV} {a : Option Addr} {c : Nat} (h : Tak w x B t W7) (ho : OpsFrom Bo W7 v.ao v.n v.cap v.vs) (hBo : B ≤ Bo) (hlt : ∀ bd : Addr, t.la = some bd → bd.block < Bo)
    (hown : w9.ownsRow B 46 3 (.slice a (t.ln + 1) c) (t.ln + 1) (evCells t.log ++ evC v)) (hg : (boxe v W7).grownBy w9 (Value.slice t.la t.ln t.lc).ownBlock) :
    Blk w9 w.heap.size (svC t) 42 ∧ Blk w9 (w.heap.size + 2) (svC sv0) 42 ∧ SrvFrom B w9 (logS t a c v) ∧ Below w.heap.size w w9 := by
  have h8 := h.under (boxe_below v W7)
  have hk : Kept (boxe v W7) w9 (ob (.slice t.la t.ln t.lc)) := grown_kept hg
  have hlo := h.lo
  have hob : ∀ k ∈ ob (.slice t.la t.ln t.lc), B ≤ k ∧ ∃ bd : Addr, t.la = some bd ∧ bd.block = k := fun k hk => by
    refine ⟨ownBlk_ge h.cpy.own k (ob_mem hk), ?_⟩
    have := ob_mem hk
    cases hla : t.la with
    | none => rw [hla] at this; cases this
    | some bd => rw [hla] at this; exact ⟨bd, rfl, Option.some.inj this⟩
  have hf := h8.cpy.from
  have hev : evCells t.log ++ evC v = evCells (t.log ++ [v]) := by rw [evCells_app, evCells_one]
  rw [hev] at hown
  obtain ⟨a2, c2, e, hr, hlr, -⟩ := own_slice hown
  simp only [Value.slice.injEq] at e
  obtain ⟨rfl, -, rfl⟩ := e
  refine ⟨hk.blk h8.hS (fun hx => by have := (hob _ hx).1; omega), hk.blk h8.hR (fun hx => by have := (hob _ hx).1; omega), ⟨hf.first.kept hk (fun ad _ e hx => ?_), hf.now.kept hk (fun ad _ e hx => ?_), hr, fun u hu => ?_, hf.loF, hf.loN, fun ad _ e => (hlr ad e).1⟩, (h8.blw.trans (hk.below h8.blw.size (fun k hx => by have := (hob k hx).1; omega)))⟩
  · obtain ⟨bd, e1, e2⟩ := (hob _ hx).2
    exact h8.cpy.offF ad bd e e1 e2.symm
  · obtain ⟨bd, e1, e2⟩ := (hob _ hx).2
    exact h8.cpy.offN ad bd e e1 e2.symm
  · rcases List.mem_append.1 hu with hu | hu
    · refine (h8.cpy.from.ops u hu).ops.kept hk (fun ad h1 h2 hx => ?_) (fun z hz ad h1 h2 hx => ?_) |> fun ho2 => ⟨ho2, (h8.cpy.from.ops u hu).row, (h8.cpy.from.ops u hu).its⟩
      · obtain ⟨bd, e1, e2⟩ := (hob _ hx).2
        have := (h8.cpy.ops u hu bd e1).row ad h1 h2
        omega
      · obtain ⟨bd, e1, e2⟩ := (hob _ hx).2
        have := (h8.cpy.ops u hu bd e1).its z hz ad h1 h2
        omega
    · rw [List.mem_singleton] at hu
      subst hu
      exact ((ho.below (boxe_below u W7)).kept hk (fun k hx => by
        obtain ⟨bd, e1, e2⟩ := (hob _ hx).2
        have := hlt bd e1
        omega)).mono hBo
def subE (a : Option Addr) (r cap : Nat) : Option Addr := if cap = r then a else a.map (fun b => b.add (r * 3))
theorem elemLE : Tryz.prog.elem 40 = 46 := by kernel_rfl
theorem under_le : Tryz.prog.underlying 40 = some (.slice (Tryz.prog.elem 40)) := by kernel_rfl
theorem slice_ents (a : Option Addr) (n cap r : Nat) (hr : r ≤ n) (w : World) : (Instr.slice 40 (.slice a n cap) (some (.int .i64 r)) none none).run Tryz.prog w = .ok (.slice (subE a r cap) (n - r) (cap - r)) w := by
  rw [run_slice_l (P := Tryz.prog) (w := w) 40 a n cap under_le .i64 (r : Int) (by omega) (by omega), elemLE, Tryz.sizeOf46 w]
  rfl
theorem evCells_drop : ∀ (l : List EV) (r : Nat) (j : Nat), (evCells (l.drop r))[j]? = (evCells l)[r * 3 + j]?
  | l, 0, j => by rw [List.drop_zero, Nat.zero_mul, Nat.zero_add]
  | [], r + 1, j => by rw [List.drop_nil]; rfl
  | v :: l, r + 1, j => by
    rw [List.drop_succ_cons, evCells_drop l r j]
    show _ = (evC v ++ evCells l)[_]?
    rw [List.getElem?_append_right (by show 3 ≤ _; omega)]
    congr 1
    show _ = _ - 3
    omega
theorem Ents.drop {w : World} {a : Option Addr} {n c : Nat} {es : List EV} (h : Ents w a n c es) (r : Nat) (hr : r ≤ n) : Ents w (subE a r c) (n - r) (c - r) (es.drop r) := by
  have hl := h.len
  have h1 := h.row.room
  have h2 := h.row.big
  refine ⟨⟨by rw [evCells_len, List.length_drop, hl], by omega, by omega, fun hn => ?_⟩, fun v hv => h.ops v (List.mem_of_mem_drop hv)⟩
  obtain ⟨b, off, e, hc⟩ := h.row.lies (by omega)
  refine ⟨b, off + r * 3, ?_, fun j u hj => ?_⟩
  · unfold subE
    rw [if_neg (by omega), e, Option.map_some, add_off]
  · rw [evCells_drop] at hj
    have := hc _ u hj
    rw [← Nat.add_assoc] at this
    exact this
theorem items_few {p : Ac.Pt} (h : Ac.err1 p = 0) : p.items.length ≤ 80 := by
  obtain ⟨h0, hs⟩ := Ac.err1_0 h
  rcases Ac.err0_kind h0 with ⟨k, _⟩ | ⟨k, _⟩ | ⟨k, _⟩
  · have := congrArg Ac.Pt.items (Ac.same1_eq.1 hs)
    unfold Ac.usedP at this
    rw [if_pos k] at this
    rw [this]
    exact Nat.zero_le _
  · exact (Ac.put_len h k).2.1
  · have := congrArg Ac.Pt.items (Ac.same1_eq.1 hs)
    unfold Ac.usedP at this
    rw [if_neg (by omega), if_neg (by omega)] at this
    rw [this]
    exact Nat.zero_le _
theorem ops_few {w : World} {a : Option Addr} {n c : Nat} {vs : List PV} (h : Ops w a n c vs) (hk : Ac.chk (vs.map PV.pt) = 0) : 0 < n ∧ n ≤ 40 ∧ ∀ u ∈ vs, u.m ≤ 80 := by
  have hr := Ac.chk_right.1 hk
  have hl := h.len
  have hf := hr.few
  rw [List.length_map, hl] at hf
  refine ⟨?_, hf, fun u hu => ?_⟩
  · rcases Nat.eq_zero_or_pos n with h0 | h0
    · have e : vs = [] := List.length_eq_zero_iff.1 (hl.trans h0)
      rw [e] at hk
      exact absurd hk (by decide)
    · exact h0
  · have := items_few (hr.ok _ (List.mem_map.2 ⟨u, hu, rfl⟩))
    rw [← (h.pts u hu).doc.len]
    exact this
theorem ent_chk {x : Sv.En} (h : Sv.entE x = 0) : Ac.chk x.o = 0 := by
  unfold Sv.entE at h
  by_cases g1 : x.who < 0 ∨ 4 ≤ x.who
  · rw [if_pos g1] at h; cases h
  · by_cases g2 : x.seq < 1 ∨ 10000 < x.seq
    · rw [if_neg g1, if_pos g2] at h; cases h
    · rw [if_neg g1, if_neg g2] at h
      exact h
theorem ents_all : ∀ {l : List Sv.En}, Sv.entsE l = 0 → ∀ x ∈ l, Sv.entE x = 0
  | [], _, x, hx => by cases hx
  | y :: l, h, x, hx => by
    have h1 : Sv.entE y = 0 := by
      by_cases h1 : Sv.entE y = 0
      · exact h1
      · have : Sv.entsE (y :: l) = Sv.entE y := if_neg h1
        rw [this] at h
        exact absurd h h1
    have h2 : Sv.entsE l = 0 := by
      have : Sv.entsE (y :: l) = Sv.entsE l := if_pos h1
      rw [this] at h
      exact h
    rcases List.mem_cons.1 hx with rfl | hx
    · exact h1
    · exact ents_all h2 x hx
theorem srv_few {w : World} {s : SV} (hV : Srv w s) (h : Sv.srvE s.se = 0) : s.fn ≤ 80 ∧ s.nn ≤ 80 ∧ s.ln ≤ 60 ∧ ∀ v ∈ s.log, 0 < v.n ∧ v.n ≤ 40 ∧ ∀ u ∈ v.vs, u.m ≤ 80 := by
  obtain ⟨a1, a2, a3, a4, a5⟩ := Sv.srv_0 h
  have h1 := Dc.check_few a3
  have h2 := Dc.check_few (show Dc.check s.se.now = 0 by rw [a5]; exact Sv.fold_check _ _ a3 a4)
  have e1 : s.first.length = s.fn := hV.first.len
  have e2 : s.now.length = s.nn := hV.now.len
  have e3 : s.log.length = s.ln := hV.log.len
  have g1 : s.se.first.length = s.first.length := rfl
  have g2 : s.se.now.length = s.now.length := rfl
  have g3 : s.se.log.length = s.log.length := List.length_map ..
  refine ⟨by omega, by omega, by omega, fun v hv => ops_few (hV.log.ops v hv) (ent_chk (ents_all a2 v.en (List.mem_map.2 ⟨v, hv, rfl⟩)))⟩
end Go.Proofs.YtbhcklkbckacpaaGreatDoor

/-
  Package server: what Take works with.
-/
import Derived.Test.YtaigleblmbblcaaDoorVf0
import Derived.Test.YtaigleblmbblcaaDoorVg
import Derived.Test.YtaigleblmbblcaaDoorVh0
import Derived.Test.YtaigleblmbblcaaDoorVp
import Derived.Laws.ResultCell
namespace Go.Proofs.YtaigleblmbblcaaDoor
open Go.RowKit
/-- A server that lies in blocks from B on. -/
structure SrvFrom (B : Nat) (w : World) (t : SV) : Prop where
  first : Doc w t.fa t.fn t.fc t.first
  now : Doc w t.na t.nn t.nc t.now
  row : Row w t.la t.ln t.lc 3 (evCells t.log)
  ops : ∀ v ∈ t.log, OpsFrom B w v.ao v.n v.cap v.vs
  loF : ∀ ad : Addr, t.fn ≠ 0 → t.fa = some ad → B ≤ ad.block
  loN : ∀ ad : Addr, t.nn ≠ 0 → t.na = some ad → B ≤ ad.block
  loL : ∀ ad : Addr, t.ln ≠ 0 → t.la = some ad → B ≤ ad.block
theorem SrvFrom.srv {B : Nat} {w : World} {t : SV} (h : SrvFrom B w t) : Srv w t := ⟨h.first, ⟨h.row, fun v hv => (h.ops v hv).ops⟩, h.now⟩
theorem SrvFrom.kept {B : Nat} {w w' : World} {t : SV} {S : List Nat} (h : SrvFrom B w t) (hk : Kept w w' S) (hS : ∀ x ∈ S, x < B) : SrvFrom B w' t :=
  ⟨h.first.kept hk (fun ad h1 h2 hx => by have := h.loF ad h1 h2; have := hS _ hx; omega), h.now.kept hk (fun ad h1 h2 hx => by have := h.loN ad h1 h2; have := hS _ hx; omega), h.row.kept (by decide) hk (fun ad h1 h2 hx => by have := h.loL ad h1 h2; have := hS _ hx; omega), fun v hv => (h.ops v hv).kept hk hS, h.loF, h.loN, h.loL⟩
theorem SrvFrom.nil (B : Nat) (w : World) : SrvFrom B w sv0 := ⟨doc_none w, doc_none w, Row.nil w 3, (fun v hv => absurd hv (by simp [sv0])), fun _ h _ => absurd rfl h, fun _ h _ => absurd rfl h, fun _ h _ => absurd rfl h⟩
theorem Cpy.from {B : Nat} {w : World} {t : SV} (h : Cpy B w t) : SrvFrom B w t := by
  have hs := h.srv
  refine ⟨h.first, h.now, hs.log.row, fun v hv => ?_, fun ad _ e => h.loF ad e, fun ad _ e => h.loN ad e, fun ad _ e => ownBlk_ge h.own ad.block (by rw [e]; rfl)⟩
  have hl := hs.log.len
  obtain ⟨g, off, e, _⟩ := hs.log.row.lies (by have := List.length_pos_of_mem hv; omega)
  exact (h.ops v hv _ e).mono (by have := ownBlk_ge h.own g (by rw [e]; rfl); show B ≤ g + 1; omega)
def nowS (t : SV) (a : Option Addr) (n c : Nat) (l : List It) : SV := ⟨t.fa, t.fn, t.fc, t.first, t.la, t.ln, t.lc, t.log, a, n, c, l⟩
def logS (t : SV) (a : Option Addr) (c : Nat) (v : EV) : SV := ⟨t.fa, t.fn, t.fc, t.first, a, t.ln + 1, c, t.log ++ [v], t.na, t.nn, t.nc, t.now⟩
def subE (a : Option Addr) (r cap : Nat) : Option Addr := if cap = r then a else a.map (fun b => b.add (r * 3))
theorem evCells_drop : ∀ (l : List EV) (r : Nat) (j : Nat), (evCells (l.drop r))[j]? = (evCells l)[r * 3 + j]?
  | l, 0, j => by rw [List.drop_zero, Nat.zero_mul, Nat.zero_add]
  | [], r + 1, j => by rw [List.drop_nil]; rfl
  | v :: l, r + 1, j => by
    rw [List.drop_succ_cons, evCells_drop l r j]
    show _ = (evC v ++ evCells l)[_]?
    rw [List.getElem?_append_right (by show 3 ≤ _; omega)]
    congr 1
    show _ = _ - 3
    omega
theorem Ents.drop {w : World} {a : Option Addr} {n c : Nat} {es : List EV} (h : Ents w a n c es) (r : Nat) (hr : r ≤ n) : Ents w (subE a r c) (n - r) (c - r) (es.drop r) := by
  have hl := h.len
  have h1 := h.row.room
  have h2 := h.row.big
  refine ⟨⟨by rw [evCells_len, List.length_drop, hl], by omega, by omega, fun hn => ?_⟩, fun v hv => h.ops v (List.mem_of_mem_drop hv)⟩
  obtain ⟨b, off, e, hc⟩ := h.row.lies (by omega)
  refine ⟨b, off + r * 3, ?_, fun j u hj => ?_⟩
  · unfold subE
    rw [if_neg (by omega), e, Option.map_some, add_off]
  · rw [evCells_drop] at hj
    have := hc _ u hj
    rw [← Nat.add_assoc] at this
    exact this
theorem items_few {p : Ac.Pt} (h : Ac.err1 p = 0) : p.items.length ≤ 80 := by
  obtain ⟨h0, hs⟩ := Ac.err1_0 h
  rcases Ac.err0_kind h0 with ⟨k, _⟩ | ⟨k, _⟩ | ⟨k, _⟩
  · have := congrArg Ac.Pt.items (Ac.same1_eq.1 hs)
    unfold Ac.usedP at this
    rw [if_pos k] at this
    rw [this]
    exact Nat.zero_le _
  · exact (Ac.put_len h k).2.1
  · have := congrArg Ac.Pt.items (Ac.same1_eq.1 hs)
    unfold Ac.usedP at this
    rw [if_neg (by omega), if_neg (by omega)] at this
    rw [this]
    exact Nat.zero_le _
theorem ops_few {w : World} {a : Option Addr} {n c : Nat} {vs : List PV} (h : Ops w a n c vs) (hk : Ac.chk (vs.map PV.pt) = 0) : 0 < n ∧ n ≤ 40 ∧ ∀ u ∈ vs, u.m ≤ 80 := by
  have hr := Ac.chk_right.1 hk
  have hl := h.len
  have hf := hr.few
  rw [List.length_map, hl] at hf
  refine ⟨?_, hf, fun u hu => ?_⟩
  · rcases Nat.eq_zero_or_pos n with h0 | h0
    · have e : vs = [] := List.length_eq_zero_iff.1 (hl.trans h0)
      rw [e] at hk
      exact absurd hk (by decide)
    · exact h0
  · have := items_few (hr.ok _ (List.mem_map.2 ⟨u, hu, rfl⟩))
    rw [← (h.pts u hu).doc.len]
    exact this
theorem ent_chk {x : Sv.En} (h : Sv.entE x = 0) : Ac.chk x.o = 0 := by
  unfold Sv.entE at h
  by_cases g1 : x.who < 0 ∨ 4 ≤ x.who
  · rw [if_pos g1] at h; cases h
  · by_cases g2 : x.seq < 1 ∨ 10000 < x.seq
    · rw [if_neg g1, if_pos g2] at h; cases h
    · rw [if_neg g1, if_neg g2] at h
      exact h
theorem ents_all : ∀ {l : List Sv.En}, Sv.entsE l = 0 → ∀ x ∈ l, Sv.entE x = 0
  | [], _, x, hx => by cases hx
  | y :: l, h, x, hx => by
    have h1 : Sv.entE y = 0 := by
      by_cases h1 : Sv.entE y = 0
      · exact h1
      · have : Sv.entsE (y :: l) = Sv.entE y := if_neg h1
        rw [this] at h
        exact absurd h h1
    have h2 : Sv.entsE l = 0 := by
      have : Sv.entsE (y :: l) = Sv.entsE l := if_pos h1
      rw [this] at h
      exact h
    rcases List.mem_cons.1 hx with rfl | hx
    · exact h1
    · exact ents_all h2 x hx
theorem srv_few {w : World} {s : SV} (hV : Srv w s) (h : Sv.srvE s.se = 0) : s.fn ≤ 80 ∧ s.nn ≤ 80 ∧ s.ln ≤ 60 ∧ ∀ v ∈ s.log, 0 < v.n ∧ v.n ≤ 40 ∧ ∀ u ∈ v.vs, u.m ≤ 80 := by
  obtain ⟨a1, a2, a3, a4, a5⟩ := Sv.srv_0 h
  have h1 := Dc.check_few a3
  have h2 := Dc.check_few (show Dc.check s.se.now = 0 by rw [a5]; exact Sv.fold_check _ _ a3 a4)
  have e1 : s.first.length = s.fn := hV.first.len
  have e2 : s.now.length = s.nn := hV.now.len
  have e3 : s.log.length = s.ln := hV.log.len
  have g1 : s.se.first.length = s.first.length := rfl
  have g2 : s.se.now.length = s.now.length := rfl
  have g3 : s.se.log.length = s.log.length := List.length_map ..
  refine ⟨by omega, by omega, by omega, fun v hv => ops_few (hV.log.ops v hv) (ent_chk (ents_all a2 v.en (List.mem_map.2 ⟨v, hv, rfl⟩)))⟩
end Go.Proofs.YtaigleblmbblcaaDoor

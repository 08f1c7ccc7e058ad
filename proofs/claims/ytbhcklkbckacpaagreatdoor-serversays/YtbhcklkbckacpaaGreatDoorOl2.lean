/-
  The reference settles as the program does.
-/
import Derived.Test.YtbhcklkbckacpaaGreatDoorM5
namespace Go.Proofs.YtbhcklkbckacpaaGreatDoor
open Go.RowKit

set_option maxRecDepth 100000 in
set_option maxHeartbeats 3200000 in
theorem settleR_any (w1 w : World) (tv pv : Value) (out : List PV) (put : List It) (cut : Nat) (hT : Tdy w1 tv pv out put cut w) (hp : put.length ≤ 100000) (ho : out.length ≤ 100000) (hc : cut ≤ 1000000) :
    Calls Tryz.prog 227 #[.pointer (some ⟨w1.heap.size + 1, 0, none⟩), .pointer (some ⟨w1.heap.size, 0, none⟩), .pointer (some ⟨w1.heap.size + 2, 0, none⟩)] w fun e w' => e = .returned (.tuple #[]) ∧ ∃ tv' out', Tdy w1 tv' (.slice none 0 0) out' [] 0 w' ∧ out'.map PV.pt = out.map PV.pt ++ Ac.flushP put cut ∧ out'.length ≤ out.length + 2 ∧ Kept w w' (w1.heap.size :: (w1.heap.size + 1) :: (w1.heap.size + 2) :: ob tv) := by
  obtain ⟨i0, hi, hz0, hz1, hz2⟩ := info_parts Tryz.infP
  obtain ⟨pao, pcap, hpv, hpd⟩ := own_doc hT.pown hT.pfit rfl
  obtain ⟨pl, hpl⟩ : ∃ pl, put.length = pl := ⟨_, rfl⟩
  have HT : Hid (Tdy w1 tv pv out put cut w) := hT
  have HPL : Hid (put.length = pl) := hpl
  have HPD : Hid (Doc w pao pl pcap put) := by rw [← hpl]; exact hpd
  rw [hpl] at hpv hp
  have HPV : Hid (pv = .slice pao pl pcap) := hpv
  have t0 : w.cell? ⟨w1.heap.size, 0, none⟩ = some tv := hT.tb.cell 0
  have p0 : w.cell? ⟨w1.heap.size + 1, 0, none⟩ = some (.slice pao pl pcap) := by rw [← hpv]; exact hT.pb.cell 0
  have k0 : w.cell? ⟨w1.heap.size + 2, 0, none⟩ = some (.int .i64 cut) := hT.cb.cell 0
  have tz := hT.tb.frozen 0
  have pz := hT.pb.frozen 0
  have kz := hT.cb.frozen 0
  obtain ⟨ol, hol⟩ : ∃ ol, out.length = ol := ⟨_, rfl⟩
  have HOL : Hid (out.length = ol) := hol
  rw [hol] at ho
  have HOW : Hid (w.ownsRow (w1.heap.size + 3) 162 7 tv ol (pvCells out)) := by have := hT.tide.own; rw [hol] at this; exact this
  have hsz : w1.heap.size + 3 ≤ w.heap.size := hT.cb.lt
  obtain ⟨tao, tcap, htv, -⟩ := own_row HOW.out
  clear hT hpl hol hpd hpv
  subst htv
  have HPUT : Hid (0 < pl → Pvt w ⟨2, 0, pao, pl, pcap, put, 0, 0, false, ⟨#[]⟩⟩ ∧ Far ⟨2, 0, pao, pl, pcap, put, 0, 0, false, ⟨#[]⟩⟩ (.slice tao ol tcap) ∧ High (w1.heap.size + 3) ⟨2, 0, pao, pl, pcap, put, 0, 0, false, ⟨#[]⟩⟩) := fun _ => by
    refine ⟨⟨HPD.out, Nat.zero_le _⟩, fun a _ ha e => ?_, fun a _ ha => ?_⟩
    · have e2 : pv.ownBlock = some a.block := by
        rw [HPV.out]
        change pao = some a at ha
        rw [ha]
        rfl
      exact HT.out.apart a.block e.symm e2
    · refine ownBlk_ge HT.out.pown a.block ?_
      rw [HPV.out]
      change pao = some a at ha
      rw [ha]
      rfl
  by_cases hp0 : pl = 0
  · have HFL : Hid (Ac.flushP put cut = if cut = 0 then [] else [Ac.cutP cut]) := by
      have : put = [] := List.length_eq_zero_iff.1 (HPL.out.trans hp0)
      show _ = _
      unfold Ac.flushP
      rw [this]
      rfl
    subst hp0
    by_cases hc0 : cut = 0
    · subst hc0
      have HS : Hid (Tdy w1 (.slice tao ol tcap) (.slice none 0 0) out [] 0 ((w.setCell ⟨w1.heap.size + 1, 0, none⟩ (.slice none 0 0)).setCell ⟨w1.heap.size + 2, 0, none⟩ (.int .i64 0))) := HT.out.settled HT.out.tide (Kept.refl _ _) HT.out.tb
      have HKE : Hid (Kept w ((w.setCell ⟨w1.heap.size + 1, 0, none⟩ (.slice none 0 0)).setCell ⟨w1.heap.size + 2, 0, none⟩ (.int .i64 0)) (w1.heap.size :: (w1.heap.size + 1) :: (w1.heap.size + 2) :: ob (.slice tao ol tcap))) := kept_settled (Kept.refl _ _)
      go_enter Tryz.func227, Tryz.ntmps227
      go_wp2
      go_end0
      exact ⟨rfl, _, out, HS.out, by rw [HFL.out]; simp, by omega, HKE.out⟩
    · have hc1 : 0 < cut := Nat.pos_of_ne_zero hc0
      go_enter Tryz.func227, Tryz.ntmps227
      go_wp2_with (at_builtin; refine wpList_append_lies _ rfl (.tmp 13) (.tmp 16) 44 rfl (w1.heap.size + 3) 162 i0 (.agg #[.int .i64 0, .int .i64 0, .slice none 0 0, .int .i64 0, .int .i64 0, .bool false, .string ⟨#[]⟩]) 7 80 Tryz.underlying44 hi hz0 hz1 hz2 rfl (by decide) _ ol (pvCells out) rfl ?c1 ⟨w.heap.size, 0, none⟩ 1 1 [.int .i64 3, .int .i64 cut, .slice none 0 0, .int .i64 0, .int .i64 0, .bool false, .string ⟨#[]⟩] rfl rfl ?c2 ?c3 (by decide) ?c4 ?c5 ?c6 _ rfl ?c7)
      case c1 => exact HOW.out.alloc _
      case c2 => exact World.news_of_block (cs := #[.int .i64 3, .int .i64 cut, .slice none 0 0, .int .i64 0, .int .i64 0, .bool false, .string ⟨#[]⟩]) (heap_alloc_new w _)
      case c3 => exact pvCells_oneCell [⟨3, cut, none, 0, 0, [], 0, 0, false, ⟨#[]⟩⟩]
      case c4 => unfold maxLen; omega
      case c5 => omega
      case c6 => first | omega | (simp; omega)
      case c7 =>
        intro g cap2 w3 hown hgrow hat hlt
        have hal : Below w.heap.size w (w.alloc (.cells #[.int .i64 3, .int .i64 cut, .slice none 0 0, .int .i64 0, .int .i64 0, .bool false, .string ⟨#[]⟩] 162)) := (Below.refl _ _).alloc (Nat.le_refl _) _
        obtain ⟨ht3, hk3⟩ := HT.out.tide.push (v := ⟨3, cut, none, 0, 0, [], 0, 0, false, ⟨#[]⟩⟩) ⟨doc_none w, Nat.zero_le _⟩ (far_zero rfl _) (high_zero rfl _) hal (by rw [HOL.out]; exact hown) hgrow (by rcases hat with h | h; exact .inl h; exact .inr (h.trans (World.size_alloc ..).symm))
        rw [HOL.out] at ht3
        have HK : Hid (Kept w w3 (w1.heap.size :: ob (.slice tao ol tcap))) := kept_cons hk3 _
        have hb3 : Blk w3 w1.heap.size [(.slice tao ol tcap)] 44 := hk3.blk HT.out.tb (fun hx => by have := ownBlk_ge HT.out.tide.own _ (ob_mem hx); omega)
        obtain ⟨ht4, hk4, hb4⟩ := ht3.var HK.out hb3
        have HS : Hid (Tdy w1 (.slice (some ⟨g, 0, none⟩) (ol + 1) cap2) (.slice none 0 0) (out ++ [⟨3, cut, none, 0, 0, [], 0, 0, false, ⟨#[]⟩⟩]) [] 0 (((w3.setCell ⟨w1.heap.size, 0, none⟩ (.slice (some ⟨g, 0, none⟩) (ol + 1) cap2)).setCell ⟨w1.heap.size + 1, 0, none⟩ (.slice none 0 0)).setCell ⟨w1.heap.size + 2, 0, none⟩ (.int .i64 0))) := HT.out.settled ht4 hk4 hb4
        have HKE : Hid (Kept w (((w3.setCell ⟨w1.heap.size, 0, none⟩ (.slice (some ⟨g, 0, none⟩) (ol + 1) cap2)).setCell ⟨w1.heap.size + 1, 0, none⟩ (.slice none 0 0)).setCell ⟨w1.heap.size + 2, 0, none⟩ (.int .i64 0)) (w1.heap.size :: (w1.heap.size + 1) :: (w1.heap.size + 2) :: ob (.slice tao ol tcap))) := kept_settled hk4
        have r0 : w3.cell? ⟨w1.heap.size, 0, none⟩ = some (.slice tao ol tcap) := hb3.cell 0
        have r1 := hb3.frozen 0
        have hlo : ∀ x ∈ w1.heap.size :: ob (.slice tao ol tcap), x = w1.heap.size ∨ w1.heap.size + 3 ≤ x := fun x hx => by
          rcases List.mem_cons.1 hx with rfl | hx
          · exact .inl rfl
          · exact .inr (ownBlk_ge HT.out.tide.own x (ob_mem hx))
        have hp3 : Blk w3 (w1.heap.size + 1) [pv] 33 := HK.out.blk HT.out.pb (fun hx => by have := hlo _ hx; omega)
        have hc3 : Blk w3 (w1.heap.size + 2) [.int .i64 cut] 3 := HK.out.blk HT.out.cb (fun hx => by have := hlo _ hx; omega)
        have u1 : w3.cell? ⟨w1.heap.size + 1, 0, none⟩ = some (.slice pao 0 pcap) := by rw [← HPV.out]; exact hp3.cell 0
        have u2 : w3.cell? ⟨w1.heap.size + 2, 0, none⟩ = some (.int .i64 cut) := hc3.cell 0
        have y1 := hp3.frozen 0
        have y2 := hc3.frozen 0
        clear ht3 hk3 hb3 ht4 hk4 hb4 hown hgrow hat hlt hal hp3 hc3 hlo
        have HFL2 : Hid ((out ++ [(⟨3, cut, none, 0, 0, [], 0, 0, false, ⟨#[]⟩⟩ : PV)]).map PV.pt = out.map PV.pt ++ Ac.flushP put cut) := by show _ = _; rw [HFL.out, if_neg hc0, List.map_append]; rfl
        have HLEN : Hid ((out ++ [(⟨3, cut, none, 0, 0, [], 0, 0, false, ⟨#[]⟩⟩ : PV)]).length ≤ out.length + 2) := by show _ ≤ _; simp
        go_wp2
        go_end0
        exact ⟨rfl, _, _, HS.out, HFL2.out, HLEN.out, HKE.out⟩
  · have hp1 : 0 < pl := Nat.pos_of_ne_zero hp0
    have hq1 : (0 : Int) < (pl : Int) := by omega
    obtain ⟨hv1, hv2, hv3⟩ := HPUT.out hp1
    have HV : Hid (Pvt w ⟨2, 0, pao, pl, pcap, put, 0, 0, false, ⟨#[]⟩⟩ ∧ Far ⟨2, 0, pao, pl, pcap, put, 0, 0, false, ⟨#[]⟩⟩ (.slice tao ol tcap) ∧ High (w1.heap.size + 3) ⟨2, 0, pao, pl, pcap, put, 0, 0, false, ⟨#[]⟩⟩) := ⟨hv1, hv2, hv3⟩
    clear hv1 hv2 hv3
    have HFL : Hid (Ac.flushP put cut = Ac.putP put :: (if cut = 0 then [] else [Ac.cutP cut])) := by
      have : put.isEmpty = false := by
        cases hq : put
        · have := HPL.out; rw [hq] at this; simp at this; omega
        · rfl
      show _ = _
      unfold Ac.flushP
      rw [this]
      rfl
    have HCU : Hid (cut ≤ 1000000) := hc
    go_enter Tryz.func227, Tryz.ntmps227
    go_wp2_with (at_builtin; refine wpList_append_lies _ rfl (.tmp 6) (.tmp 9) 44 rfl (w1.heap.size + 3) 162 i0 (.agg #[.int .i64 0, .int .i64 0, .slice none 0 0, .int .i64 0, .int .i64 0, .bool false, .string ⟨#[]⟩]) 7 80 Tryz.underlying44 hi hz0 hz1 hz2 rfl (by decide) _ ol (pvCells out) rfl ?c1 ⟨w.heap.size, 0, none⟩ 1 1 [.int .i64 2, .int .i64 0, .slice pao pl pcap, .int .i64 0, .int .i64 0, .bool false, .string ⟨#[]⟩] rfl rfl ?c2 ?c3 (by decide) ?c4 ?c5 ?c6 _ rfl ?c7)
    case c1 => exact HOW.out.alloc _
    case c2 => exact World.news_of_block (cs := #[.int .i64 2, .int .i64 0, .slice pao pl pcap, .int .i64 0, .int .i64 0, .bool false, .string ⟨#[]⟩]) (heap_alloc_new w _)
    case c3 => exact pvCells_oneCell [⟨2, 0, pao, pl, pcap, put, 0, 0, false, ⟨#[]⟩⟩]
    case c4 => unfold maxLen; omega
    case c5 => omega
    case c6 => first | omega | (simp; omega)
    case c7 =>
      intro g cap2 w3 hown hgrow hat hlt
      have hal : Below w.heap.size w (w.alloc (.cells #[.int .i64 2, .int .i64 0, .slice pao pl pcap, .int .i64 0, .int .i64 0, .bool false, .string ⟨#[]⟩] 162)) := (Below.refl _ _).alloc (Nat.le_refl _) _
      obtain ⟨ht3, hk3⟩ := HT.out.tide.push (v := ⟨2, 0, pao, pl, pcap, put, 0, 0, false, ⟨#[]⟩⟩) HV.out.1 HV.out.2.1 HV.out.2.2 hal (by rw [HOL.out]; exact hown) hgrow (by rcases hat with h | h; exact .inl h; exact .inr (h.trans (World.size_alloc ..).symm))
      rw [HOL.out] at ht3
      have HK : Hid (Kept w w3 (w1.heap.size :: ob (.slice tao ol tcap))) := kept_cons hk3 _
      have hb3 : Blk w3 w1.heap.size [(.slice tao ol tcap)] 44 := hk3.blk HT.out.tb (fun hx => by have := ownBlk_ge HT.out.tide.own _ (ob_mem hx); omega)
      obtain ⟨ht4, hk4, hb4⟩ := ht3.var HK.out hb3
      have r0 : w3.cell? ⟨w1.heap.size, 0, none⟩ = some (.slice tao ol tcap) := hb3.cell 0
      have r1 := hb3.frozen 0
      have hlo : ∀ x ∈ w1.heap.size :: ob (.slice tao ol tcap), x = w1.heap.size ∨ w1.heap.size + 3 ≤ x := fun x hx => by
        rcases List.mem_cons.1 hx with rfl | hx
        · exact .inl rfl
        · exact .inr (ownBlk_ge HT.out.tide.own x (ob_mem hx))
      have hp3 : Blk w3 (w1.heap.size + 1) [pv] 33 := HK.out.blk HT.out.pb (fun hx => by have := hlo _ hx; omega)
      have hc3 : Blk w3 (w1.heap.size + 2) [.int .i64 cut] 3 := HK.out.blk HT.out.cb (fun hx => by have := hlo _ hx; omega)
      have u1 : w3.cell? ⟨w1.heap.size + 1, 0, none⟩ = some (.slice pao pl pcap) := by rw [← HPV.out]; exact hp3.cell 0
      have u2 : w3.cell? ⟨w1.heap.size + 2, 0, none⟩ = some (.int .i64 cut) := hc3.cell 0
      have y1 := hp3.frozen 0
      have y2 := hc3.frozen 0
      have HT4 : Hid (Tide (w3.setCell ⟨w1.heap.size, 0, none⟩ (.slice (some ⟨g, 0, none⟩) (ol + 1) cap2)) (w1.heap.size + 3) (.slice (some ⟨g, 0, none⟩) (ol + 1) cap2) (out ++ [⟨2, 0, pao, pl, pcap, put, 0, 0, false, ⟨#[]⟩⟩])) := ht4
      have HK4 : Hid (Kept w (w3.setCell ⟨w1.heap.size, 0, none⟩ (.slice (some ⟨g, 0, none⟩) (ol + 1) cap2)) (w1.heap.size :: ob (.slice tao ol tcap))) := hk4
      have HB4 : Hid (Blk (w3.setCell ⟨w1.heap.size, 0, none⟩ (.slice (some ⟨g, 0, none⟩) (ol + 1) cap2)) w1.heap.size [(.slice (some ⟨g, 0, none⟩) (ol + 1) cap2)] 44) := hb4
      have HOL2 : Hid ((out ++ [(⟨2, 0, pao, pl, pcap, put, 0, 0, false, ⟨#[]⟩⟩ : PV)]).length = ol + 1) := by show _ = _; rw [List.length_append, HOL.out]; rfl
      have HG4 : Hid (Value.ownBlock (.slice (some ⟨g, 0, none⟩) (ol + 1) cap2) = Value.ownBlock (.slice tao ol tcap) ∨ ∀ k, Value.ownBlock (.slice (some ⟨g, 0, none⟩) (ol + 1) cap2) = some k → w.heap.size ≤ k) := by rcases hat with h | h; exact .inl h.symm; exact .inr (fun k hk => by simp [Value.ownBlock] at hk; omega)
      have HP4 : Hid (Blk (w3.setCell ⟨w1.heap.size, 0, none⟩ (.slice (some ⟨g, 0, none⟩) (ol + 1) cap2)) (w1.heap.size + 1) [.slice pao pl pcap] 33) := by have := hp3.other ⟨w1.heap.size, 0, none⟩ (.slice (some ⟨g, 0, none⟩) (ol + 1) cap2) (by simp); rw [HPV.out] at this; exact this
      have HC4 : Hid (Blk (w3.setCell ⟨w1.heap.size, 0, none⟩ (.slice (some ⟨g, 0, none⟩) (ol + 1) cap2)) (w1.heap.size + 2) [.int .i64 cut] 3) := hc3.other ⟨w1.heap.size, 0, none⟩ (.slice (some ⟨g, 0, none⟩) (ol + 1) cap2) (by simp)
      clear ht3 hk3 hb3 ht4 hk4 hb4 hown hgrow hat hlt hal hp3 hc3 hlo t0 p0 k0 tz pz kz
      go_upto_region 2 with fail
      change Code.wp Tryz.prog _ _ _ (w3.setCell ⟨w1.heap.size, 0, none⟩ (.slice (some ⟨g, 0, none⟩) (ol + 1) cap2))
      generalize (w3.setCell ⟨w1.heap.size, 0, none⟩ (.slice (some ⟨g, 0, none⟩) (ol + 1) cap2)) = W4 at *
      clear r0 r1 u1 u2 y1 y2
      have r0 : W4.cell? ⟨w1.heap.size, 0, none⟩ = some (.slice (some ⟨g, 0, none⟩) (ol + 1) cap2) := HB4.out.cell 0
      have r1 := HB4.out.frozen 0
      have u1 : W4.cell? ⟨w1.heap.size + 1, 0, none⟩ = some (.slice pao pl pcap) := HP4.out.cell 0
      have u2 : W4.cell? ⟨w1.heap.size + 2, 0, none⟩ = some (.int .i64 cut) := HC4.out.cell 0
      have y1 := HP4.out.frozen 0
      have y2 := HC4.out.frozen 0
      by_cases hc0 : cut = 0
      · subst hc0
        have HS : Hid (Tdy w1 (.slice (some ⟨g, 0, none⟩) (ol + 1) cap2) (.slice none 0 0) (out ++ [⟨2, 0, pao, pl, pcap, put, 0, 0, false, ⟨#[]⟩⟩]) [] 0 ((W4.setCell ⟨w1.heap.size + 1, 0, none⟩ (.slice none 0 0)).setCell ⟨w1.heap.size + 2, 0, none⟩ (.int .i64 0))) := HT.out.settled HT4.out HK4.out HB4.out
        have HKE : Hid (Kept w ((W4.setCell ⟨w1.heap.size + 1, 0, none⟩ (.slice none 0 0)).setCell ⟨w1.heap.size + 2, 0, none⟩ (.int .i64 0)) (w1.heap.size :: (w1.heap.size + 1) :: (w1.heap.size + 2) :: ob (.slice tao ol tcap))) := kept_settled HK4.out
        have HFL2 : Hid ((out ++ [(⟨2, 0, pao, pl, pcap, put, 0, 0, false, ⟨#[]⟩⟩ : PV)]).map PV.pt = out.map PV.pt ++ Ac.flushP put 0) := by show _ = _; rw [HFL.out, List.map_append]; rfl
        have HLEN : Hid ((out ++ [(⟨2, 0, pao, pl, pcap, put, 0, 0, false, ⟨#[]⟩⟩ : PV)]).length ≤ out.length + 2) := by show _ ≤ _; simp
        clear HT4 HK4 HB4
        go_wp2
        go_end0
        exact ⟨rfl, _, _, HS.out, HFL2.out, HLEN.out, HKE.out⟩
      · have hc1 : 0 < cut := Nat.pos_of_ne_zero hc0
        have HO4 : Hid (W4.ownsRow (w1.heap.size + 3) 162 7 (.slice (some ⟨g, 0, none⟩) (ol + 1) cap2) (ol + 1) (pvCells (out ++ [⟨2, 0, pao, pl, pcap, put, 0, 0, false, ⟨#[]⟩⟩]))) := by have := HT4.out.own; rw [HOL2.out] at this; exact this
        have hs4 : w1.heap.size + 3 ≤ W4.heap.size := Nat.le_trans hsz HK4.out.size
        go_wp2_with (at_builtin; refine wpList_append_lies _ rfl (.tmp 13) (.tmp 16) 44 rfl (w1.heap.size + 3) 162 i0 (.agg #[.int .i64 0, .int .i64 0, .slice none 0 0, .int .i64 0, .int .i64 0, .bool false, .string ⟨#[]⟩]) 7 80 Tryz.underlying44 hi hz0 hz1 hz2 rfl (by decide) _ (ol + 1) (pvCells (out ++ [⟨2, 0, pao, pl, pcap, put, 0, 0, false, ⟨#[]⟩⟩])) rfl ?e1 ⟨W4.heap.size, 0, none⟩ 1 1 [.int .i64 3, .int .i64 cut, .slice none 0 0, .int .i64 0, .int .i64 0, .bool false, .string ⟨#[]⟩] rfl rfl ?e2 ?e3 (by decide) ?e4 ?e5 ?e6 _ rfl ?e7)
        case e1 => exact HO4.out.alloc _
        case e2 => exact World.news_of_block (cs := #[.int .i64 3, .int .i64 cut, .slice none 0 0, .int .i64 0, .int .i64 0, .bool false, .string ⟨#[]⟩]) (heap_alloc_new W4 _)
        case e3 => exact pvCells_oneCell [⟨3, cut, none, 0, 0, [], 0, 0, false, ⟨#[]⟩⟩]
        case e4 => unfold maxLen; omega
        case e5 => omega
        case e6 => first | omega | (simp; omega) | (have := hs4; simp at this ⊢; omega)
        case e7 =>
          intro g5 cap5 w5 hown hgrow hat hlt
          have hal : Below W4.heap.size W4 (W4.alloc (.cells #[.int .i64 3, .int .i64 cut, .slice none 0 0, .int .i64 0, .int .i64 0, .bool false, .string ⟨#[]⟩] 162)) := (Below.refl _ _).alloc (Nat.le_refl _) _
          obtain ⟨ht5, hk5⟩ := HT4.out.push (v := ⟨3, cut, none, 0, 0, [], 0, 0, false, ⟨#[]⟩⟩) ⟨doc_none _, Nat.zero_le _⟩ (far_zero rfl _) (high_zero rfl _) hal (by rw [HOL2.out]; exact hown) hgrow (by rcases hat with h | h; exact .inl h; exact .inr (h.trans (by simp)))
          rw [HOL2.out] at ht5
          have HK5 : Kept W4 w5 (w1.heap.size :: ob (.slice (some ⟨g, 0, none⟩) (ol + 1) cap2)) := kept_cons hk5 _
          have hb5 : Blk w5 w1.heap.size [(.slice (some ⟨g, 0, none⟩) (ol + 1) cap2)] 44 := hk5.blk HB4.out (fun hx => by have := ownBlk_ge HO4.out _ (ob_mem hx); omega)
          have hp5 : Blk w5 (w1.heap.size + 1) [.slice pao pl pcap] 33 := hk5.blk HP4.out (fun hx => by have := ownBlk_ge HO4.out _ (ob_mem hx); omega)
          have hc5 : Blk w5 (w1.heap.size + 2) [.int .i64 cut] 3 := hk5.blk HC4.out (fun hx => by have := ownBlk_ge HO4.out _ (ob_mem hx); omega)
          obtain ⟨ht6, hk6, hb6⟩ := ht5.var HK5 hb5
          have HS : Hid (Tdy w1 (.slice (some ⟨g5, 0, none⟩) (ol + 1 + 1) cap5) (.slice none 0 0) ((out ++ [⟨2, 0, pao, pl, pcap, put, 0, 0, false, ⟨#[]⟩⟩]) ++ [⟨3, cut, none, 0, 0, [], 0, 0, false, ⟨#[]⟩⟩]) [] 0 (((w5.setCell ⟨w1.heap.size, 0, none⟩ (.slice (some ⟨g5, 0, none⟩) (ol + 1 + 1) cap5)).setCell ⟨w1.heap.size + 1, 0, none⟩ (.slice none 0 0)).setCell ⟨w1.heap.size + 2, 0, none⟩ (.int .i64 0))) := HT.out.settled2 HK4.out HG4.out ht6 hk6 hb6
          have HKE : Hid (Kept w (((w5.setCell ⟨w1.heap.size, 0, none⟩ (.slice (some ⟨g5, 0, none⟩) (ol + 1 + 1) cap5)).setCell ⟨w1.heap.size + 1, 0, none⟩ (.slice none 0 0)).setCell ⟨w1.heap.size + 2, 0, none⟩ (.int .i64 0)) (w1.heap.size :: (w1.heap.size + 1) :: (w1.heap.size + 2) :: ob (.slice tao ol tcap))) := kept_settled (kept_two HK4.out HG4.out hk6)
          have HFL2 : Hid (((out ++ [(⟨2, 0, pao, pl, pcap, put, 0, 0, false, ⟨#[]⟩⟩ : PV)]) ++ [(⟨3, cut, none, 0, 0, [], 0, 0, false, ⟨#[]⟩⟩ : PV)]).map PV.pt = out.map PV.pt ++ Ac.flushP put cut) := by show _ = _; rw [HFL.out, if_neg hc0, List.map_append, List.map_append, List.append_assoc]; rfl
          have HLEN : Hid (((out ++ [(⟨2, 0, pao, pl, pcap, put, 0, 0, false, ⟨#[]⟩⟩ : PV)]) ++ [(⟨3, cut, none, 0, 0, [], 0, 0, false, ⟨#[]⟩⟩ : PV)]).length ≤ out.length + 2) := by show _ ≤ _; simp
          have v0 : w5.cell? ⟨w1.heap.size, 0, none⟩ = some (.slice (some ⟨g, 0, none⟩) (ol + 1) cap2) := hb5.cell 0
          have v1 := hb5.frozen 0
          have x1 : w5.cell? ⟨w1.heap.size + 1, 0, none⟩ = some (.slice pao pl pcap) := hp5.cell 0
          have x2 : w5.cell? ⟨w1.heap.size + 2, 0, none⟩ = some (.int .i64 cut) := hc5.cell 0
          have z1 := hp5.frozen 0
          have z2 := hc5.frozen 0
          clear HT4 HK4 HB4 HK5 hb5 hp5 hc5 ht5 hk5 ht6 hk6 hb6 hown hgrow hat hlt hal HO4
          go_wp2
          go_end0
          exact ⟨rfl, _, _, HS.out, HFL2.out, HLEN.out, HKE.out⟩
end Go.Proofs.YtbhcklkbckacpaaGreatDoor

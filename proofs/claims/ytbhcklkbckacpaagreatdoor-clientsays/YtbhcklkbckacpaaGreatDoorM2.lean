/- A part. -/
import Derived.Test.YtbhcklkbckacpaaGreatDoorM1
import Derived.WalkSpells
import Derived.Deep.RegionLaw
import Derived.Deep.AppendLies
import Derived.Laws.IdiomStrings
import Derived.Laws.BytesArg
import Derived.Deep.RegionHeld3
import Derived.Laws.StructEq
import Derived.Lib.AppendZeros
set_option maxRecDepth 100000
set_option maxHeartbeats 3200000
namespace Go.Proofs.YtbhcklkbckacpaaGreatDoor
open Go.RowKit
def scells:Array Value:=#[.string ⟨#[104,116,116,112]⟩,.string ⟨#[104,116,116,112,115]⟩,.string ⟨#[109,97,105,108,116,111]⟩]
def Sch (w:World):Prop:=∃ t fr,w.heap[8]?=some (.cells scells t fr)
theorem Sch.pos {w:World} (h:Sch w):8<w.heap.size:=by
 obtain ⟨t,fr,hg⟩:=h
 exact (Array.getElem?_eq_some_iff.1 hg).1
theorem Sch.below {w w' : World} (h:Sch w) (hb:Below w.heap.size w w'):Sch w' := by
 have hp:=h.pos
 obtain ⟨t,fr,hg⟩:=h
 exact ⟨t,fr,(hb.block 8 hp).trans hg⟩
theorem Sch.cell {w:World} (h:Sch w) (j:Nat):w.cell? ⟨8,j,none⟩=scells[j]?:=by
 obtain ⟨t,fr,hg⟩:=h
 simp[World.cell?,hg]
theorem q6o {c:UInt8} (h:c.toNat<33):Lk.stand c=false:=by
 unfold Lk.stand
 rw[decide_eq_false (fun hh=>by rw[UInt8.le_iff_toNat_le] at hh;have:(33:UInt8).toNat=33:=rfl;omega)]
 rfl
theorem q6p {c:UInt8} (h:126<c.toNat):Lk.stand c=false:=by
 unfold Lk.stand
 have:decide (c≤126)=false:=decide_eq_false (fun hh=>by rw[UInt8.le_iff_toNat_le] at hh;have:(126:UInt8).toNat=126:=rfl;omega)
 rw[this]
 simp
theorem q4v {c:UInt8} (h:33≤c.toNat) (h2:c.toNat≤126):Lk.stand c=decide (Lib.indexByte Lk.barred c<0):=by
 unfold Lk.stand
 rw[decide_eq_true (show (33:UInt8)≤c by rw[UInt8.le_iff_toNat_le];exact h),decide_eq_true (show c≤126 by rw[UInt8.le_iff_toNat_le];exact h2),Lib.contains_iff_indexByte]
 by_cases hz:Lib.indexByte Lk.barred c<0
 ·rw[decide_eq_true hz,decide_eq_false (by omega)];rfl
 ·rw[decide_eq_false hz,decide_eq_true (by omega)];rfl
theorem q4w (c:UInt8) (w:World):Calls Tryz.prog 301 #[.int .u8 c.toNat] w fun e w' => e=.returned (.bool (Lk.stand c))∧w' = w:=by
 by_cases h1:33≤c.toNat
 ·by_cases h2:c.toNat≤126
  ·have hst:=q4v h1 h2
   have hback:((c.toNat:Int)).toNat.toUInt8=c:=by simp
   have hI:=fun w=>Tryz.strings_IndexByte ⟨#[34,39,60,62,92,96]⟩ (c.toNat:Int) w
   rw[hback] at hI
   change ∀ w,Calls Tryz.prog 70 _ w fun e w' => e=.returned (.int .i64 (Lib.indexByte Lk.barred c))∧w' = w at hI
   have HI:=hId hI
   clear hI hback
   generalize Lib.indexByte Lk.barred c=z at *
   rw[hst]
   clear hst
   go_enter Tryz.func301,Tryz.ntmps301
   go_wp2_with fail
   refine (HI.out _).mono ?_
   rintro e w' ⟨rfl,rfl⟩
   go_wp2
   go_ret
   exact ⟨rfl,rfl⟩
  ·rw[q6p (by omega)]
   go_enter Tryz.func301,Tryz.ntmps301
   go_wp2
   go_ret
   exact ⟨rfl,rfl⟩
 ·rw[q6o (by omega)]
  go_enter Tryz.func301,Tryz.ntmps301
  go_wp2
  go_ret
  exact ⟨rfl,rfl⟩
theorem eqB (k x:List UInt8):(k == (B x).toList)=decide (k=x):=by
 rw[Lib.toList_data,B_data]
 by_cases h:k=x
 ·subst h;simp
 ·rw[decide_eq_false h];simpa using h
theorem sidx0 (w:World):(Instr.index 380 (.agg scells) (.int .i64 0)).run Tryz.prog w=.ok (.string ⟨#[104,116,116,112]⟩) w:=by kernel_rfl
theorem sidx1 (w:World):(Instr.index 380 (.agg scells) (.int .i64 1)).run Tryz.prog w=.ok (.string ⟨#[104,116,116,112,115]⟩) w:=by kernel_rfl
theorem sidx2 (w:World):(Instr.index 380 (.agg scells) (.int .i64 2)).run Tryz.prog w=.ok (.string ⟨#[109,97,105,108,116,111]⟩) w:=by kernel_rfl
theorem sz79:(Tryz.prog.info? 380).map (·.size)=some scells.size:=by kernel_rfl
theorem qbk (x:List UInt8) (w:World) (hS:Sch w):Calls Tryz.prog 302 #[.string (B x)] w fun e w' => e=.returned (.bool (Lk.lead x))∧w' = w:=by
 obtain ⟨t,fr,hg⟩:=hS
 have Hg:=hId hg
 clear hg
 have i0:=sidx0
 have i1:=sidx1
 have i2:=sidx2
 have q1:=eqB [104,116,116,112] x
 have q2:=eqB [104,116,116,112,115] x
 have q3:=eqB [109,97,105,108,116,111] x
 by_cases h1:[104,116,116,112]=x
 ·have hl:Lk.lead x=true:=by subst h1;rfl
  rw[hl]
  rw[decide_eq_true h1] at q1
  clear hl q2 q3 h1
  generalize B x=b at *
  go_enter Tryz.func302,Tryz.ntmps302
  go_wp2_with (refine wpList_load_row rfl 380 _ rfl 8 rfl t _ fr _ Hg.out Tryz.underlying380 rfl sz79 ?_)
  refine wp_loop_rounds 5 ?_
  rw[rounds_succ]
  go_wp2
  go_ret
  exact ⟨rfl,rfl⟩
 ·rw[decide_eq_false h1] at q1
  by_cases h2:[104,116,116,112,115]=x
  ·have hl:Lk.lead x=true:=by subst h2;rfl
   rw[hl]
   rw[decide_eq_true h2] at q2
   clear hl q3 h1 h2
   generalize B x=b at *
   go_enter Tryz.func302,Tryz.ntmps302
   go_wp2_with (refine wpList_load_row rfl 380 _ rfl 8 rfl t _ fr _ Hg.out Tryz.underlying380 rfl sz79 ?_)
   refine wp_loop_rounds 5 ?_
   rw[rounds_succ]
   go_wp2
   rw[rounds_succ]
   go_wp2
   go_ret
   exact ⟨rfl,rfl⟩
  ·rw[decide_eq_false h2] at q2
   by_cases h3:[109,97,105,108,116,111]=x
   ·have hl:Lk.lead x=true:=by subst h3;rfl
    rw[hl]
    rw[decide_eq_true h3] at q3
    clear hl h1 h2 h3
    generalize B x=b at *
    go_enter Tryz.func302,Tryz.ntmps302
    go_wp2_with (refine wpList_load_row rfl 380 _ rfl 8 rfl t _ fr _ Hg.out Tryz.underlying380 rfl sz79 ?_)
    refine wp_loop_rounds 5 ?_
    rw[rounds_succ]
    go_wp2
    rw[rounds_succ]
    go_wp2
    rw[rounds_succ]
    go_wp2
    go_ret
    exact ⟨rfl,rfl⟩
   ·have hl:Lk.lead x=false:=by
     unfold Lk.lead Lk.leads
     simp[Ne.symm h1,Ne.symm h2,Ne.symm h3]
    rw[hl]
    rw[decide_eq_false h3] at q3
    clear hl h1 h2 h3
    generalize B x=b at *
    go_enter Tryz.func302,Tryz.ntmps302
    go_wp2_with (refine wpList_load_row rfl 380 _ rfl 8 rfl t _ fr _ Hg.out Tryz.underlying380 rfl sz79 ?_)
    refine wp_loop_rounds 5 ?_
    rw[rounds_succ]
    go_wp2
    rw[rounds_succ]
    go_wp2
    rw[rounds_succ]
    go_wp2
    rw[rounds_succ]
    go_wp2
    go_ret
    exact ⟨rfl,rfl⟩
theorem q43 (l:List UInt8) (h:l.length<1∨24<l.length):Lk.may l=false:=by
 unfold Lk.may
 rcases h with h | h
 ·rw[decide_eq_false (show ¬ 1≤l.length by omega)];simp
 ·rw[decide_eq_false (show ¬ l.length≤24 by omega)];simp
theorem q98 (l:List UInt8) (k:Nat) (h:k<l.length) (hc:Lk.stand l[k]=false):Lk.may l=false:=by
 have:l.all Lk.stand=false:=by
  rw[List.all_eq_false]
  exact ⟨l[k],List.getElem_mem h,by rw[hc];exact Bool.false_ne_true⟩
 unfold Lk.may
 rw[this]
 simp
theorem q99 (l:List UInt8) (h1:1≤l.length) (h2:l.length≤24) (hs:l.all Lk.stand=true):Lk.may l=Lk.lead (Lk.scheme l):=by
 unfold Lk.may
 rw[hs,decide_eq_true h1,decide_eq_true h2]
 simp
theorem q65 (s:ByteArray) (w:World) (hs:s.size≤9223372036854775807) (hS:Sch w) :
  Calls Tryz.prog 279 #[.string s] w fun e w' => e=.returned (.bool (Lk.may s.data.toList))∧Below w.heap.size w w' := by
 have HS:=hId hS
 clear hS
 have hl:=yp s
 by_cases h1:s.size<1
 ·rw[q43 _ (.inl (by omega))]
  clear hl
  go_enter Tryz.func279,Tryz.ntmps279
  go_wp2
  go_ret
  exact ⟨rfl,Below.refl _ _⟩
 ·by_cases h2:24<s.size
  ·rw[q43 _ (.inr (by omega))]
   clear hl
   go_enter Tryz.func279,Tryz.ntmps279
   go_wp2
   go_ret
   exact ⟨rfl,Below.refl _ _⟩
  ·obtain ⟨m,hm⟩:∃ m,Lk.may s.data.toList=m:=⟨_,rfl⟩
   rw[hm]
   have HM:=hId hm
   clear hm
   go_enter Tryz.func279,Tryz.ntmps279
   go_wp2
   go_loop [3] (fun i=>∃ k:Nat,k≤s.size∧i=.int .i64 k∧(s.data.toList.take k).all Lk.stand=true) (fun i=>s.size - (intOf i).toNat)
   case atStart=>exact ⟨0,Nat.zero_le _,rfl,by simp⟩
   case round =>
    obtain ⟨k,hk,rfl,hall⟩:=hrel
    have HA:=hId hall
    clear hall
    by_cases hlt:k<s.size
    ·have hkl:k<s.data.toList.length:=by omega
     obtain ⟨c,hc⟩:∃ c:UInt8,s[k]'hlt=c:=⟨_,rfl⟩
     have hcl:s.data.toList[k]=c:=by rw[← hc];rfl
     have hix:=zu s k hlt
     rw[hc] at hix
     cases hst:Lk.stand c
     ·have hmf:=q98 s.data.toList k hkl (by rw[hcl];exact hst)
      rw[HM.out] at hmf
      subst hmf
      clear hcl hc
      go_wp2_with (go_at_call 301;refine (q4w c _).mono ?_;rintro e w' ⟨rfl,hw⟩;rw[hw,hst])
      go_ret
      exact ⟨rfl,Below.refl _ _⟩
     ·have H2:Hid ((s.data.toList.take (k+1)).all Lk.stand=true):=by
       show _=_
       rw[List.take_succ_eq_append_getElem hkl,List.all_append,HA.out,hcl]
       simp[hst]
      clear hcl hc
      go_wp2_with (go_at_call 301;refine (q4w c _).mono ?_;rintro e w' ⟨rfl,hw⟩;rw[hw,hst])
      go_round
      case rel=>exact ⟨k+1,by omega,by go_num,H2.out⟩
      case measure=>simp[intOf];omega
    ·have hal:s.data.toList.all Lk.stand=true:=by
      have:=HA.out
      rw[List.take_of_length_le (by omega)] at this
      exact this
     have hmm:=q99 s.data.toList (by omega) (by omega) hal
     rw[HM.out] at hmm
     clear hal
     go_wp2_with fail
     refine (q7q s _ hs).mono ?_
     rintro e w1 ⟨rfl,hb1⟩
     have H1:=hId hb1
     have HS1:Hid (Sch w1):=HS.out.below hb1
     clear hb1
     go_wp2_with fail
     refine (qbk _ _ HS1.out).mono ?_
     rintro e w2 ⟨rfl,hw⟩
     rw[hw]
     have HH:=hId hmm
     clear hmm
     go_wp2
     go_ret
     exact ⟨by rw[HH.out];rfl,H1.out⟩
open Go.RowKit
def leadsB:List ByteArray:=[⟨#[104,116,116,112]⟩,⟨#[104,116,116,112,115]⟩,⟨#[109,97,105,108,116,111]⟩]
theorem q3a (x:List UInt8):Lib.containsS (leadsB.take 3) (B x)=Lk.lead x:=by
 have h1:=Lib.containsS_iff (leadsB.take 3) (B x)
 have h2:B x ∈ leadsB.take 3 ↔ Lk.lead x=true:=by
  have e:leadsB.take 3=Lk.leads.map B:=rfl
  rw[e,Lk.lead,List.contains_iff_mem]
  constructor
  ·intro h
   obtain ⟨y,hy,hb⟩:=List.mem_map.1 h
   rw[← B_inj hb];exact hy
  ·intro h;exact List.mem_map.2 ⟨x,h,rfl⟩
 rw[h2] at h1
 exact Bool.eq_iff_iff.2 h1
def Three (b:Nat) (w:World):Prop:=∃ t fr,w.heap[b]?=some (.cells scells t fr)
theorem Three.cell {b:Nat} {w:World} (h:Three b w) (j:Nat) (hj:j<leadsB.length):w.cell? ⟨b,0+j,none⟩=some (.string (leadsB.getD j ByteArray.empty)):=by
 obtain ⟨t,fr,hg⟩:=h
 match j,hj with
 | 0,_=>simp[World.cell?,hg];rfl
 | 1,_=>simp[World.cell?,hg];rfl
 | 2,_=>simp[World.cell?,hg];rfl
theorem Three.new (w:World):Three w.heap.size (w.alloc (.cells scells 9)):=⟨_,_,heap_alloc_new w _⟩
theorem Three.below {b:Nat} {w w' : World} (h:Three b w) (hb:Below w.heap.size w w'):Three b w' := by
 obtain ⟨t,fr,hg⟩:=h
 exact ⟨t,fr,(hb.block b (Array.getElem?_eq_some_iff.1 hg).1).trans hg⟩
theorem lead3 (b:Nat) (x:List UInt8) (w:World) (h:Three b w):Calls Tryz.prog 72 #[.slice (some ⟨b,0,none⟩) 3 3,.string (B x)] w fun e w' => e=.returned (.bool (Lk.lead x))∧w' = w:=by
 have:=Tryz.slices_Contains_string b 0 3 3 leadsB (B x) w (by decide) (by decide) h.cell
 rw[q3a] at this
 exact this
theorem q5q (s:ByteArray) (w:World) (hs:s.size≤9223372036854775807) :
  Calls Tryz.prog 144 #[.string s] w fun e w' => e=.returned (.bool (Lk.may s.data.toList))∧Below w.heap.size w w' := by
 have hl:=yp s
 by_cases h1:s.size<1
 ·rw[q43 _ (.inl (by omega))]
  clear hl
  go_enter Tryz.func144,Tryz.ntmps144
  go_wp2
  go_ret
  exact ⟨rfl,Below.refl _ _⟩
 ·by_cases h2:24<s.size
  ·rw[q43 _ (.inr (by omega))]
   clear hl
   go_enter Tryz.func144,Tryz.ntmps144
   go_wp2
   go_ret
   exact ⟨rfl,Below.refl _ _⟩
  ·obtain ⟨m,hm⟩:∃ m,Lk.may s.data.toList=m:=⟨_,rfl⟩
   rw[hm]
   have HM:=hId hm
   clear hm
   go_enter Tryz.func144,Tryz.ntmps144
   go_wp2
   go_loop [14] (fun i=>∃ k:Nat,k≤s.size∧i=.int .i64 k∧(s.data.toList.take k).all Lk.stand=true) (fun i=>s.size - (intOf i).toNat)
   case atStart=>exact ⟨0,Nat.zero_le _,rfl,by simp⟩
   case round =>
    obtain ⟨k,hk,rfl,hall⟩:=hrel
    have HA:=hId hall
    clear hall
    by_cases hlt:k<s.size
    ·have hkl:k<s.data.toList.length:=by omega
     obtain ⟨c,hc⟩:∃ c:UInt8,s[k]'hlt=c:=⟨_,rfl⟩
     have hcl:s.data.toList[k]=c:=by rw[← hc];rfl
     have hix:=zu s k hlt
     rw[hc] at hix
     have HF:Hid (Lk.stand c=false→m=false):=fun hst=>by
      rw[← HM.out];exact q98 s.data.toList k hkl (by rw[hcl];exact hst)
     have HT:Hid (Lk.stand c=true→(s.data.toList.take (k+1)).all Lk.stand=true):=fun hst=>by
      rw[List.take_succ_eq_append_getElem hkl,List.all_append,HA.out,hcl]
      simp[hst]
     clear hcl hc
     by_cases hlo:33≤c.toNat
     ·by_cases hhi:c.toNat≤126
      ·have hst:=q4v hlo hhi
       have hback:((c.toNat:Int)).toNat.toUInt8=c:=by simp
       have hI:=fun w=>Tryz.strings_IndexByte ⟨#[34,39,60,62,92,96]⟩ (c.toNat:Int) w
       rw[hback] at hI
       change ∀ w,Calls Tryz.prog 70 _ w fun e w' => e=.returned (.int .i64 (Lib.indexByte Lk.barred c))∧w' = w at hI
       have HI:=hId hI
       clear hI hback
       generalize Lib.indexByte Lk.barred c=z at *
       by_cases hz:z<0
       ·have H2:Hid ((s.data.toList.take (k+1)).all Lk.stand=true):=HT.out (by rw[hst];exact decide_eq_true hz)
        clear hst
        go_wp2_with fail
        refine (HI.out _).mono ?_
        rintro e w' ⟨rfl,hw⟩
        rw[hw]
        go_wp2
        go_round
        case rel=>exact ⟨k+1,by omega,by go_num,H2.out⟩
        case measure=>simp[intOf];omega
       ·have hmf:=HF.out (by rw[hst];exact decide_eq_false hz)
        subst hmf
        clear hst
        go_wp2_with fail
        refine (HI.out _).mono ?_
        rintro e w' ⟨rfl,hw⟩
        rw[hw]
        go_wp2
        go_ret
        exact ⟨rfl,Below.refl _ _⟩
      ·have hmf:=HF.out (q6p (by omega))
       subst hmf
       go_wp2
       go_ret
       exact ⟨rfl,Below.refl _ _⟩
     ·have hmf:=HF.out (q6o (by omega))
      subst hmf
      go_wp2
      go_ret
      exact ⟨rfl,Below.refl _ _⟩
    ·have hal:s.data.toList.all Lk.stand=true:=by
      have:=HA.out
      rw[List.take_of_length_le (by omega)] at this
      exact this
     have hmm:=q99 s.data.toList (by omega) (by omega) hal
     rw[HM.out] at hmm
     have HH:=hId hmm
     clear hal hmm
     go_wp2_with fail
     have HT:Hid (Three w.heap.size (w.alloc (.cells scells 9))):=Three.new w
     have HW:Hid (Below w.heap.size w (w.alloc (.cells scells 9))):=(Below.refl _ _).alloc (Nat.le_refl _) _
     change Calls Tryz.prog 216 #[.string s] (w.alloc (.cells scells 9)) _
     generalize w.alloc (.cells scells 9)=w1 at *
     refine (q5p s w1 (by omega)).mono ?_
     rintro e w2 ⟨rfl,hb2⟩
     have H2:Hid (Below w.heap.size w w2):=HW.out.trans (hb2.mono HW.out.size)
     have T2:Hid (Three w.heap.size w2):=HT.out.below hb2
     clear hb2
     go_wp2_with fail
     refine (lead3 _ _ _ T2.out).mono ?_
     rintro e w3 ⟨rfl,hw⟩
     rw[hw]
     go_wp2
     go_ret
     exact ⟨by rw[HH.out];rfl,H2.out⟩
open Go.RowKit
structure It where
 c:UInt8
 m:Int
 l:ByteArray
namespace Dc
def ends (x:It):Bool:=(x.c.toNat:Int) == 10
def isChar (x:It):Bool:=decide (32≤(x.c.toNat:Int))&&decide ((x.c.toNat:Int)≤126)
def marks (x:It):Bool:=decide (0≤x.m)&&decide (x.m≤3)
def link (x:It):Bool:=x.l.toList.isEmpty || (!ends x&&Lk.may x.l.data.toList)
def err (x:It):Int:=if !ends x&&!isChar x then 1 else if !marks x then 3 else if !link x then 4 else 0
end Dc
theorem jw (x:It) (w:World):Calls Tryz.prog 149 #[.agg #[.int .u8 x.c.toNat,.int .i64 x.m,.string x.l]] w fun e w' => e=.returned (.bool (Dc.ends x))∧Below w.heap.size w w' := by
 go_enter Tryz.func149,Tryz.ntmps149
 go_wp2
 go_ret
 exact ⟨rfl,(Below.refl _ _).alloc (Nat.le_refl _) _⟩
theorem q1d (x:It) (w:World):Calls Tryz.prog 255 #[.agg #[.int .u8 x.c.toNat,.int .i64 x.m,.string x.l]] w fun e w' => e=.returned (.bool (Dc.isChar x))∧Below w.heap.size w w' := by
 by_cases h:32≤(x.c.toNat:Int)
 ·have hr:Dc.isChar x=decide ((x.c.toNat:Int)≤126):=by unfold Dc.isChar;rw[decide_eq_true h];rfl
  rw[hr]
  clear hr
  go_enter Tryz.func255,Tryz.ntmps255
  go_wp2
  go_ret
  exact ⟨rfl,(Below.refl _ _).alloc (Nat.le_refl _) _⟩
 ·have hr:Dc.isChar x=false:=by unfold Dc.isChar;rw[decide_eq_false h];rfl
  rw[hr]
  clear hr
  go_enter Tryz.func255,Tryz.ntmps255
  go_wp2
  go_ret
  exact ⟨rfl,(Below.refl _ _).alloc (Nat.le_refl _) _⟩
def j4 (x:It) (w:World):World:=w.alloc (.cells #[.int .u8 x.c.toNat,.int .i64 x.m,.string x.l] 39)
theorem jr (x:It) (w:World):Below w.heap.size w (j4 x w):=(Below.refl _ _).alloc (Nat.le_refl _) _
structure Boxed (b:Nat) (x:It) (w:World):Prop where
 c:w.cell? ⟨b,0,none⟩=some (.int .u8 x.c.toNat)
 m:w.cell? ⟨b,1,none⟩=some (.int .i64 x.m)
 l:w.cell? ⟨b,2,none⟩=some (.string x.l)
theorem j5 {w:World} {a:Addr} {v:Value} (h:w.cell? a=some v):a.block<w.heap.size:=by
 unfold World.cell? at h
 split at h
 ·rename_i hh;exact (Array.getElem?_eq_some_iff.1 hh).1
 ·cases h
theorem q8 {w w' : World} {a:Addr} {v:Value} (h:w.cell? a=some v) (hb:Below w.heap.size w w'):w'.cell? a=some v :=
 (hb.cell (j5 h)).trans h
theorem Boxed.below {b:Nat} {x:It} {w w' : World} (h:Boxed b x w) (hb:Below w.heap.size w w'):Boxed b x w' :=
 ⟨q8 h.c hb,q8 h.m hb,q8 h.l hb⟩
theorem q7d (x:It) (w:World):Boxed w.heap.size x (j4 x w):=by
 have h:(j4 x w).heap[w.heap.size]?=some (.cells #[.int .u8 x.c.toNat,.int .i64 x.m,.string x.l] 39):=heap_alloc_new w _
 refine ⟨?_,?_,?_⟩ <;> (unfold World.cell?;rw[h];rfl)
theorem q28 (x:It) (w:World) (hS:Sch w) (hl:x.l.size≤9223372036854775807):Calls Tryz.prog 256 #[.agg #[.int .u8 x.c.toNat,.int .i64 x.m,.string x.l]] w fun e w' => e=.returned (.bool (Dc.link x))∧Below w.heap.size w w' := by
 have HS:Hid (Sch (j4 x w)):=hS.below (jr x w)
 clear hS
 have H1:Hid (Below w.heap.size w (j4 x w)):=jr x w
 have HB:Hid (Boxed w.heap.size x (j4 x w)):=q7d x w
 cases h0:x.l.toList.isEmpty
 ·have hr:Dc.link x=(!Dc.ends x&&Lk.may x.l.data.toList):=by unfold Dc.link;rw[h0];rfl
  rw[hr]
  clear hr
  cases he:Dc.ends x
  ·go_enter Tryz.func256,Tryz.ntmps256
   go_wp2_with fail
   change Calls Tryz.prog 149 _ (j4 x w) _
   refine (jw x _).mono ?_
   rintro e w1 ⟨rfl,hb⟩
   rw[he]
   have hc:=(HB.out.below hb).l
   have HS1:Hid (Sch w1):=HS.out.below hb
   have H2:Hid (Below w.heap.size w w1):=H1.out.trans (hb.mono H1.out.size)
   clear hb
   go_wp2_with fail
   refine (q65 x.l _ hl HS1.out).mono ?_
   rintro e w2 ⟨rfl,hb⟩
   have H3:Hid (Below w.heap.size w w2):=H2.out.trans (hb.mono H2.out.size)
   clear hb
   go_wp2
   go_ret
   exact ⟨rfl,H3.out⟩
  ·go_enter Tryz.func256,Tryz.ntmps256
   go_wp2_with fail
   change Calls Tryz.prog 149 _ (j4 x w) _
   refine (jw x _).mono ?_
   rintro e w1 ⟨rfl,hb⟩
   rw[he]
   have H2:Hid (Below w.heap.size w w1):=H1.out.trans (hb.mono H1.out.size)
   clear hb
   go_wp2
   go_ret
   exact ⟨rfl,H2.out⟩
 ·have hr:Dc.link x=true:=by unfold Dc.link;rw[h0];rfl
  rw[hr]
  clear hr
  go_enter Tryz.func256,Tryz.ntmps256
  go_wp2
  go_ret
  exact ⟨rfl,H1.out⟩
theorem q47 {x:It} (h:Dc.ends x=false) (h2:Dc.isChar x=false):Dc.err x=1:=by unfold Dc.err;rw[h,h2];rfl
theorem q48 {x:It} (h:Dc.ends x=true∨Dc.isChar x=true):Dc.err x=if !Dc.marks x then 3 else if !Dc.link x then 4 else 0:=by
 unfold Dc.err
 rcases h with h | h <;> rw[h] <;> simp
theorem xg {x:It} (h:Dc.ends x=true∨Dc.isChar x=true) (hm:x.m<0∨3<x.m):Dc.err x=3:=by
 rw[q48 h]
 have:Dc.marks x=false:=by unfold Dc.marks;simp;omega
 rw[this];rfl
theorem q2d {x:It} (h:Dc.ends x=true∨Dc.isChar x=true) (h0:0≤x.m) (h3:x.m≤3):Dc.err x=if Dc.link x then 0 else 4:=by
 rw[q48 h]
 have:Dc.marks x=true:=by unfold Dc.marks;simp;omega
 rw[this]
 cases Dc.link x <;> rfl
theorem qbq (x:It) (w:World) (hS:Sch w) (hl:x.l.size≤9223372036854775807):Calls Tryz.prog 218 #[.agg #[.int .u8 x.c.toNat,.int .i64 x.m,.string x.l]] w fun e w' => e=.returned (.int .i64 (Dc.err x))∧Below w.heap.size w w' := by
 have HS:Hid (Sch (j4 x w)):=hS.below (jr x w)
 clear hS
 have H1:Hid (Below w.heap.size w (j4 x w)):=jr x w
 have HB:Hid (Boxed w.heap.size x (j4 x w)):=q7d x w
 obtain ⟨r,hr⟩:∃ r,Dc.err x=r:=⟨_,rfl⟩
 have HR:=hId hr
 rw[hr]
 clear hr
 cases he:Dc.ends x
 ·cases hc:Dc.isChar x
  ·have:r=1:=HR.out.symm.trans (q47 he hc)
   subst this
   go_enter Tryz.func218,Tryz.ntmps218
   go_wp2_with fail
   change Calls Tryz.prog 149 _ (j4 x w) _
   refine (jw x _).mono ?_
   rintro e w1 ⟨rfl,hb⟩
   rw[he]
   have B2:=HB.out.below hb
   have hc0:=B2.c
   have hc1:=B2.m
   have hc2:=B2.l
   have HB2:Hid (Boxed w.heap.size x w1):=B2
   clear B2
   have HS2:Hid (Sch w1):=HS.out.below hb
   have H2:Hid (Below w.heap.size w w1):=H1.out.trans (hb.mono H1.out.size)
   clear hb
   go_wp2_with fail
   refine (q1d x _).mono ?_
   rintro e w2 ⟨rfl,hb⟩
   rw[hc]
   have B3:=HB2.out.below hb
   have hd0:=B3.c
   have hd1:=B3.m
   have hd2:=B3.l
   clear B3
   have HS3:Hid (Sch w2):=HS2.out.below hb
   have H3:Hid (Below w.heap.size w w2):=H2.out.trans (hb.mono H2.out.size)
   clear hb
   go_wp2
   go_ret
   exact ⟨rfl,H3.out⟩
  ·have ok:Dc.ends x=true∨Dc.isChar x=true:=.inr hc
   by_cases hm:x.m<0
   ·have:r=3:=HR.out.symm.trans (xg ok (.inl hm))
    subst this
    clear ok
    go_enter Tryz.func218,Tryz.ntmps218
    go_wp2_with fail
    change Calls Tryz.prog 149 _ (j4 x w) _
    refine (jw x _).mono ?_
    rintro e w1 ⟨rfl,hb⟩
    rw[he]
    have B2:=HB.out.below hb
    have hc0:=B2.c
    have hc1:=B2.m
    have hc2:=B2.l
    have HB2:Hid (Boxed w.heap.size x w1):=B2
    clear B2
    have HS2:Hid (Sch w1):=HS.out.below hb
    have H2:Hid (Below w.heap.size w w1):=H1.out.trans (hb.mono H1.out.size)
    clear hb
    go_wp2_with fail
    refine (q1d x _).mono ?_
    rintro e w2 ⟨rfl,hb⟩
    rw[hc]
    have B3:=HB2.out.below hb
    have hd0:=B3.c
    have hd1:=B3.m
    have hd2:=B3.l
    clear B3
    have HS3:Hid (Sch w2):=HS2.out.below hb
    have H3:Hid (Below w.heap.size w w2):=H2.out.trans (hb.mono H2.out.size)
    clear hb
    go_wp2
    go_ret
    exact ⟨rfl,H3.out⟩
   ·by_cases hm3:3<x.m
    ·have:r=3:=HR.out.symm.trans (xg ok (.inr hm3))
     subst this
     clear ok
     go_enter Tryz.func218,Tryz.ntmps218
     go_wp2_with fail
     change Calls Tryz.prog 149 _ (j4 x w) _
     refine (jw x _).mono ?_
     rintro e w1 ⟨rfl,hb⟩
     rw[he]
     have B2:=HB.out.below hb
     have hc0:=B2.c
     have hc1:=B2.m
     have hc2:=B2.l
     have HB2:Hid (Boxed w.heap.size x w1):=B2
     clear B2
     have HS2:Hid (Sch w1):=HS.out.below hb
     have H2:Hid (Below w.heap.size w w1):=H1.out.trans (hb.mono H1.out.size)
     clear hb
     go_wp2_with fail
     refine (q1d x _).mono ?_
     rintro e w2 ⟨rfl,hb⟩
     rw[hc]
     have B3:=HB2.out.below hb
     have hd0:=B3.c
     have hd1:=B3.m
     have hd2:=B3.l
     clear B3
     have HS3:Hid (Sch w2):=HS2.out.below hb
     have H3:Hid (Below w.heap.size w w2):=H2.out.trans (hb.mono H2.out.size)
     clear hb
     go_wp2
     go_ret
     exact ⟨rfl,H3.out⟩
    ·have hrl:=HR.out.symm.trans (q2d ok (by omega) (by omega))
     clear ok
     cases hk:Dc.link x
     ·rw[hk] at hrl
      have:r=4:=hrl
      subst this
      clear hrl
      go_enter Tryz.func218,Tryz.ntmps218
      go_wp2_with fail
      change Calls Tryz.prog 149 _ (j4 x w) _
      refine (jw x _).mono ?_
      rintro e w1 ⟨rfl,hb⟩
      rw[he]
      have B2:=HB.out.below hb
      have hc0:=B2.c
      have hc1:=B2.m
      have hc2:=B2.l
      have HB2:Hid (Boxed w.heap.size x w1):=B2
      clear B2
      have HS2:Hid (Sch w1):=HS.out.below hb
      have H2:Hid (Below w.heap.size w w1):=H1.out.trans (hb.mono H1.out.size)
      clear hb
      go_wp2_with fail
      refine (q1d x _).mono ?_
      rintro e w2 ⟨rfl,hb⟩
      rw[hc]
      have B3:=HB2.out.below hb
      have hd0:=B3.c
      have hd1:=B3.m
      have hd2:=B3.l
      clear B3
      have HS3:Hid (Sch w2):=HS2.out.below hb
      have H3:Hid (Below w.heap.size w w2):=H2.out.trans (hb.mono H2.out.size)
      clear hb
      go_wp2_with fail
      refine (q28 x _ HS3.out hl).mono ?_
      rintro e w4 ⟨rfl,hb⟩
      rw[hk]
      have H4:Hid (Below w.heap.size w w4):=H3.out.trans (hb.mono H3.out.size)
      clear hb
      go_wp2
      go_ret
      exact ⟨rfl,H4.out⟩
     ·rw[hk] at hrl
      have:r=0:=hrl
      subst this
      clear hrl
      go_enter Tryz.func218,Tryz.ntmps218
      go_wp2_with fail
      change Calls Tryz.prog 149 _ (j4 x w) _
      refine (jw x _).mono ?_
      rintro e w1 ⟨rfl,hb⟩
      rw[he]
      have B2:=HB.out.below hb
      have hc0:=B2.c
      have hc1:=B2.m
      have hc2:=B2.l
      have HB2:Hid (Boxed w.heap.size x w1):=B2
      clear B2
      have HS2:Hid (Sch w1):=HS.out.below hb
      have H2:Hid (Below w.heap.size w w1):=H1.out.trans (hb.mono H1.out.size)
      clear hb
      go_wp2_with fail
      refine (q1d x _).mono ?_
      rintro e w2 ⟨rfl,hb⟩
      rw[hc]
      have B3:=HB2.out.below hb
      have hd0:=B3.c
      have hd1:=B3.m
      have hd2:=B3.l
      clear B3
      have HS3:Hid (Sch w2):=HS2.out.below hb
      have H3:Hid (Below w.heap.size w w2):=H2.out.trans (hb.mono H2.out.size)
      clear hb
      go_wp2_with fail
      refine (q28 x _ HS3.out hl).mono ?_
      rintro e w4 ⟨rfl,hb⟩
      rw[hk]
      have H4:Hid (Below w.heap.size w w4):=H3.out.trans (hb.mono H3.out.size)
      clear hb
      go_wp2
      go_ret
      exact ⟨rfl,H4.out⟩
 ·have ok:Dc.ends x=true∨Dc.isChar x=true:=.inl he
  by_cases hm:x.m<0
  ·have:r=3:=HR.out.symm.trans (xg ok (.inl hm))
   subst this
   clear ok
   go_enter Tryz.func218,Tryz.ntmps218
   go_wp2_with fail
   change Calls Tryz.prog 149 _ (j4 x w) _
   refine (jw x _).mono ?_
   rintro e w1 ⟨rfl,hb⟩
   rw[he]
   have B2:=HB.out.below hb
   have hc0:=B2.c
   have hc1:=B2.m
   have hc2:=B2.l
   have HB2:Hid (Boxed w.heap.size x w1):=B2
   clear B2
   have HS2:Hid (Sch w1):=HS.out.below hb
   have H2:Hid (Below w.heap.size w w1):=H1.out.trans (hb.mono H1.out.size)
   clear hb
   go_wp2
   go_ret
   exact ⟨rfl,H2.out⟩
  ·by_cases hm3:3<x.m
   ·have:r=3:=HR.out.symm.trans (xg ok (.inr hm3))
    subst this
    clear ok
    go_enter Tryz.func218,Tryz.ntmps218
    go_wp2_with fail
    change Calls Tryz.prog 149 _ (j4 x w) _
    refine (jw x _).mono ?_
    rintro e w1 ⟨rfl,hb⟩
    rw[he]
    have B2:=HB.out.below hb
    have hc0:=B2.c
    have hc1:=B2.m
    have hc2:=B2.l
    have HB2:Hid (Boxed w.heap.size x w1):=B2
    clear B2
    have HS2:Hid (Sch w1):=HS.out.below hb
    have H2:Hid (Below w.heap.size w w1):=H1.out.trans (hb.mono H1.out.size)
    clear hb
    go_wp2
    go_ret
    exact ⟨rfl,H2.out⟩
   ·have hrl:=HR.out.symm.trans (q2d ok (by omega) (by omega))
    clear ok
    cases hk:Dc.link x
    ·rw[hk] at hrl
     have:r=4:=hrl
     subst this
     clear hrl
     go_enter Tryz.func218,Tryz.ntmps218
     go_wp2_with fail
     change Calls Tryz.prog 149 _ (j4 x w) _
     refine (jw x _).mono ?_
     rintro e w1 ⟨rfl,hb⟩
     rw[he]
     have B2:=HB.out.below hb
     have hc0:=B2.c
     have hc1:=B2.m
     have hc2:=B2.l
     have HB2:Hid (Boxed w.heap.size x w1):=B2
     clear B2
     have HS2:Hid (Sch w1):=HS.out.below hb
     have H2:Hid (Below w.heap.size w w1):=H1.out.trans (hb.mono H1.out.size)
     clear hb
     go_wp2_with fail
     refine (q28 x _ HS2.out hl).mono ?_
     rintro e w4 ⟨rfl,hb⟩
     rw[hk]
     have H4:Hid (Below w.heap.size w w4):=H2.out.trans (hb.mono H2.out.size)
     clear hb
     go_wp2
     go_ret
     exact ⟨rfl,H4.out⟩
    ·rw[hk] at hrl
     have:r=0:=hrl
     subst this
     clear hrl
     go_enter Tryz.func218,Tryz.ntmps218
     go_wp2_with fail
     change Calls Tryz.prog 149 _ (j4 x w) _
     refine (jw x _).mono ?_
     rintro e w1 ⟨rfl,hb⟩
     rw[he]
     have B2:=HB.out.below hb
     have hc0:=B2.c
     have hc1:=B2.m
     have hc2:=B2.l
     have HB2:Hid (Boxed w.heap.size x w1):=B2
     clear B2
     have HS2:Hid (Sch w1):=HS.out.below hb
     have H2:Hid (Below w.heap.size w w1):=H1.out.trans (hb.mono H1.out.size)
     clear hb
     go_wp2_with fail
     refine (q28 x _ HS2.out hl).mono ?_
     rintro e w4 ⟨rfl,hb⟩
     rw[hk]
     have H4:Hid (Below w.heap.size w w4):=H2.out.trans (hb.mono H2.out.size)
     clear hb
     go_wp2
     go_ret
     exact ⟨rfl,H4.out⟩
open Go.RowKit
namespace Dc
def errs:List It→Int
 | []=>0
 | x :: t=>if err x=0 then errs t else err x
theorem errs_step (l:List It) (k:Nat) (h:k<l.length):errs (l.drop k)=if err l[k]=0 then errs (l.drop (k+1)) else err l[k]:=by
 rw[List.drop_eq_getElem_cons h,errs]
end Dc
structure At (w:World) (b off:Nat) (l:List It):Prop where
 c:∀ i (h:i<l.length),w.cell? ⟨b,off+i*3,none⟩=some (.int .u8 l[i].c.toNat)
 m:∀ i (h:i<l.length),w.cell? ⟨b,off+i*3+1,none⟩=some (.int .i64 l[i].m)
 l:∀ i (h:i<l.length),w.cell? ⟨b,off+i*3+2,none⟩=some (.string l[i].l)
theorem At.below {w w' : World} {b off:Nat} {l:List It} (h:At w b off l) (hb:Below w.heap.size w w'):At w' b off l :=
 ⟨fun i hi=>q8 (h.c i hi) hb,fun i hi=>q8 (h.m i hi) hb,fun i hi=>q8 (h.l i hi) hb⟩
def Fit (l:List It):Prop:=∀ x ∈ l,x.l.size≤9223372036854775807
structure Doc (w:World) (ao:Option Addr) (n cap:Nat) (l:List It):Prop where
 fit:Fit l
 len:l.length=n
 room:n≤cap
 big:cap≤9223372036854775807
 lies:n≠0→∃ b off,ao=some ⟨b,off,none⟩∧At w b off l
theorem Doc.below {w w' : World} {ao:Option Addr} {n cap:Nat} {l:List It} (h:Doc w ao n cap l) (hb:Below w.heap.size w w'):Doc w' ao n cap l :=
 ⟨h.fit,h.len,h.room,h.big,fun hn=>by obtain ⟨b,off,e,hA⟩:=h.lies hn;exact ⟨b,off,e,hA.below hb⟩⟩
theorem q5c (ao:Option Addr) (n cap:Nat) (l:List It) (w:World) (hD:Doc w ao n cap l) (hS:Sch w) :
  Calls Tryz.prog 148 #[.slice ao n cap] w fun e w' => e=.returned (.int .i64 (Dc.errs l))∧Below w.heap.size w w' := by
 have HD:=hId hD
 have hn:=hD.len
 subst hn
 have hcap:=hD.room
 have hbig:=hD.big
 clear hD
 have HS:=hId hS
 clear hS
 obtain ⟨r,hr⟩:∃ r,Dc.errs l=r:=⟨_,rfl⟩
 have HR:=hId hr
 rw[hr]
 clear hr
 go_enter Tryz.func148,Tryz.ntmps148
 go_wp2
 go_loopw [8] (fun i wr=>∃ k:Nat,k≤l.length∧i=.int .i64 k∧Below w.heap.size w wr∧Dc.errs (l.drop k)=r) (fun i _=>l.length - (intOf i).toNat)
 case atStart=>exact ⟨0,Nat.zero_le _,rfl,Below.refl _ _,HR.out⟩
 case round =>
  obtain ⟨k,hk,rfl,hbr,her⟩:=hrel
  have HE:=hId her
  have HBR:=hId hbr
  clear her hbr
  by_cases hlt:k<l.length
  ·obtain ⟨b,off,rfl,A0⟩:=HD.out.lies (by omega)
   have A1:=A0.below HBR.out
   have hc0:=A1.c k hlt
   have hc1:=A1.m k hlt
   have hc2:=A1.l k hlt
   have hfx:=HD.out.fit _ (List.getElem_mem hlt)
   have HX:Hid (Dc.errs (l.drop k)=if Dc.err l[k]=0 then Dc.errs (l.drop (k+1)) else Dc.err l[k]):=Dc.errs_step l k hlt
   clear A1 A0
   generalize hx:l[k]=x at *
   have HS2:Hid (Sch (j4 x wr)):=HS.out.below (HBR.out.trans ((jr x wr).mono HBR.out.size))
   have H1:Hid (Below w.heap.size w (j4 x wr)):=HBR.out.trans ((jr x wr).mono HBR.out.size)
   clear hx
   go_wp2_with fail
   change Calls Tryz.prog 218 _ (j4 x wr) _
   refine (qbq x _ HS2.out hfx).mono ?_
   rintro e w1 ⟨rfl,hb⟩
   have H2:Hid (Below w.heap.size w w1):=H1.out.trans (hb.mono H1.out.size)
   clear hb
   by_cases h0:Dc.err x=0
   ·have HN:Hid (Dc.errs (l.drop (k+1))=r):=by show _=_;rw[← HE.out,HX.out,if_pos h0]
    rw[h0]
    clear h0
    go_wp2
    go_roundw
    case rel=>exact ⟨k+1,by omega,by go_num,H2.out,HN.out⟩
    case measure=>simp[intOf];omega
   ·have hrr:Dc.err x=r:=by rw[← HE.out,HX.out,if_neg h0]
    rw[hrr] at h0 ⊢
    clear hrr
    go_wp2
    go_ret
    exact ⟨rfl,H2.out⟩
  ·have:r=0:=by rw[← HE.out,List.drop_eq_nil_of_le (by omega)];rfl
   subst this
   go_wp2
   go_ret
   exact ⟨rfl,HBR.out⟩
open Go.RowKit
theorem q4k (x:It) (w:World) (hl:x.l.size≤9223372036854775807):Calls Tryz.prog 165 #[.agg #[.int .u8 x.c.toNat,.int .i64 x.m,.string x.l]] w fun e w' => e=.returned (.int .i64 (Dc.err x))∧Below w.heap.size w w' := by
 have H1:Hid (Below w.heap.size w (j4 x w)):=jr x w
 have CM:Hid (∀ w,Calls Tryz.prog 144 #[.string x.l] w fun e w' => e=.returned (.bool (Lk.may x.l.data.toList))∧Below w.heap.size w w'):=fun w=>q5q x.l w hl
 obtain ⟨r,hr⟩:∃ r,Dc.err x=r:=⟨_,rfl⟩
 have HR:=hId hr
 rw[hr]
 clear hr
 by_cases h10:(x.c.toNat:Int)=10
 ·have he:Dc.ends x=true:=by unfold Dc.ends;simpa using h10
  by_cases hm:x.m<0
  ·have:r=3:=HR.out.symm.trans (xg (.inl he) (.inl hm))
   subst this
   clear HR
   go_enter Tryz.func165,Tryz.ntmps165
   go_wp2
   go_ret
   exact ⟨rfl,(Below.refl _ _).alloc (Nat.le_refl _) _⟩
  ·by_cases hm3:3<x.m
   ·have:r=3:=HR.out.symm.trans (xg (.inl he) (.inr hm3))
    subst this
    clear HR
    go_enter Tryz.func165,Tryz.ntmps165
    go_wp2
    go_ret
    exact ⟨rfl,(Below.refl _ _).alloc (Nat.le_refl _) _⟩
   ·have hk:=q2d (.inl he) (by omega) (by omega)
    cases h0:x.l.toList.isEmpty
    ·rw[show Dc.link x=false by unfold Dc.link;rw[h0,he];rfl] at hk
     have:r=4:=HR.out.symm.trans (hk)
     subst this
     clear HR
     go_enter Tryz.func165,Tryz.ntmps165
     go_wp2
     go_ret
     exact ⟨rfl,(Below.refl _ _).alloc (Nat.le_refl _) _⟩
    ·rw[show Dc.link x=true by unfold Dc.link;rw[h0];rfl] at hk
     have:r=0:=HR.out.symm.trans (hk)
     subst this
     clear HR
     go_enter Tryz.func165,Tryz.ntmps165
     go_wp2
     go_ret
     exact ⟨rfl,(Below.refl _ _).alloc (Nat.le_refl _) _⟩
 ·have he:Dc.ends x=false:=by unfold Dc.ends;simpa using h10
  by_cases hlo:(x.c.toNat:Int)<32
  ·have hch:Dc.isChar x=false:=by unfold Dc.isChar;rw[decide_eq_false (by omega)];rfl
   have:r=1:=HR.out.symm.trans (q47 he hch)
   subst this
   clear HR
   go_enter Tryz.func165,Tryz.ntmps165
   go_wp2
   go_ret
   exact ⟨rfl,(Below.refl _ _).alloc (Nat.le_refl _) _⟩
  ·by_cases hhi:126<(x.c.toNat:Int)
   ·have hch:Dc.isChar x=false:=by unfold Dc.isChar;rw[decide_eq_false (show ¬ (x.c.toNat:Int)≤126 by omega)];simp
    have:r=1:=HR.out.symm.trans (q47 he hch)
    subst this
    clear HR
    go_enter Tryz.func165,Tryz.ntmps165
    go_wp2
    go_ret
    exact ⟨rfl,(Below.refl _ _).alloc (Nat.le_refl _) _⟩
   ·have hch:Dc.isChar x=true:=by unfold Dc.isChar;rw[decide_eq_true (show (x.c.toNat:Int)≤126 by omega),decide_eq_true (show 32≤(x.c.toNat:Int) by omega)];rfl
    by_cases hm:x.m<0
    ·have:r=3:=HR.out.symm.trans (xg (.inr hch) (.inl hm))
     subst this
     clear HR
     go_enter Tryz.func165,Tryz.ntmps165
     go_wp2
     go_ret
     exact ⟨rfl,(Below.refl _ _).alloc (Nat.le_refl _) _⟩
    ·by_cases hm3:3<x.m
     ·have:r=3:=HR.out.symm.trans (xg (.inr hch) (.inr hm3))
      subst this
      clear HR
      go_enter Tryz.func165,Tryz.ntmps165
      go_wp2
      go_ret
      exact ⟨rfl,(Below.refl _ _).alloc (Nat.le_refl _) _⟩
     ·have hk:=q2d (.inr hch) (by omega) (by omega)
      cases h0:x.l.toList.isEmpty
      ·cases hmay:Lk.may x.l.data.toList
       ·rw[show Dc.link x=false by unfold Dc.link;rw[h0,he,hmay];rfl] at hk
        rw[hmay] at CM
        have:r=4:=HR.out.symm.trans (hk)
        subst this
        clear HR
        go_enter Tryz.func165,Tryz.ntmps165
        go_wp2_with fail
        refine (CM.out _).mono ?_
        rintro e w2 ⟨rfl,hb⟩
        have H2:Hid (Below w.heap.size w w2):=H1.out.trans (hb.mono H1.out.size)
        clear hb
        go_wp2
        go_ret
        exact ⟨rfl,H2.out⟩
       ·rw[show Dc.link x=true by unfold Dc.link;rw[h0,he,hmay];rfl] at hk
        rw[hmay] at CM
        have:r=0:=HR.out.symm.trans (hk)
        subst this
        clear HR
        go_enter Tryz.func165,Tryz.ntmps165
        go_wp2_with fail
        refine (CM.out _).mono ?_
        rintro e w2 ⟨rfl,hb⟩
        have H2:Hid (Below w.heap.size w w2):=H1.out.trans (hb.mono H1.out.size)
        clear hb
        go_wp2
        go_ret
        exact ⟨rfl,H2.out⟩
      ·rw[show Dc.link x=true by unfold Dc.link;rw[h0];rfl] at hk
       have:r=0:=HR.out.symm.trans (hk)
       subst this
       clear HR
       go_enter Tryz.func165,Tryz.ntmps165
       go_wp2
       go_ret
       exact ⟨rfl,(Below.refl _ _).alloc (Nat.le_refl _) _⟩
theorem q0w (ao:Option Addr) (n cap:Nat) (l:List It) (w:World) (hD:Doc w ao n cap l) :
  Calls Tryz.prog 89 #[.slice ao n cap] w fun e w' => e=.returned (.int .i64 (Dc.errs l))∧Below w.heap.size w w' := by
 have HD:=hId hD
 have hn:=hD.len
 subst hn
 have hcap:=hD.room
 have hbig:=hD.big
 clear hD
 obtain ⟨r,hr⟩:∃ r,Dc.errs l=r:=⟨_,rfl⟩
 have HR:=hId hr
 rw[hr]
 clear hr
 go_enter Tryz.func89,Tryz.ntmps89
 go_wp2
 go_loopw [8] (fun i wr=>∃ k:Nat,k≤l.length∧i=.int .i64 k∧Below w.heap.size w wr∧Dc.errs (l.drop k)=r) (fun i _=>l.length - (intOf i).toNat)
 case atStart=>exact ⟨0,Nat.zero_le _,rfl,Below.refl _ _,HR.out⟩
 case round =>
  obtain ⟨k,hk,rfl,hbr,her⟩:=hrel
  have HE:=hId her
  have HBR:=hId hbr
  clear her hbr
  by_cases hlt:k<l.length
  ·obtain ⟨b,off,rfl,A0⟩:=HD.out.lies (by omega)
   have A1:=A0.below HBR.out
   have hc0:=A1.c k hlt
   have hc1:=A1.m k hlt
   have hc2:=A1.l k hlt
   have hfx:=HD.out.fit _ (List.getElem_mem hlt)
   have HX:Hid (Dc.errs (l.drop k)=if Dc.err l[k]=0 then Dc.errs (l.drop (k+1)) else Dc.err l[k]):=Dc.errs_step l k hlt
   clear A1 A0
   generalize hx:l[k]=x at *
   have H1:Hid (Below w.heap.size w (j4 x wr)):=HBR.out.trans ((jr x wr).mono HBR.out.size)
   clear hx
   go_wp2_with fail
   change Calls Tryz.prog 165 _ (j4 x wr) _
   refine (q4k x _ hfx).mono ?_
   rintro e w1 ⟨rfl,hb⟩
   have H2:Hid (Below w.heap.size w w1):=H1.out.trans (hb.mono H1.out.size)
   clear hb
   by_cases h0:Dc.err x=0
   ·have HN:Hid (Dc.errs (l.drop (k+1))=r):=by show _=_;rw[← HE.out,HX.out,if_pos h0]
    rw[h0]
    clear h0
    go_wp2
    go_roundw
    case rel=>exact ⟨k+1,by omega,by go_num,H2.out,HN.out⟩
    case measure=>simp[intOf];omega
   ·have hrr:Dc.err x=r:=by rw[← HE.out,HX.out,if_neg h0]
    rw[hrr] at h0 ⊢
    clear hrr
    go_wp2
    go_ret
    exact ⟨rfl,H2.out⟩
  ·have:r=0:=by rw[← HE.out,List.drop_eq_nil_of_le (by omega)];rfl
   subst this
   go_wp2
   go_ret
   exact ⟨rfl,HBR.out⟩
open Go.RowKit
namespace Dc
def check (l:List It):Int:=if 80<l.length then 2 else if errs l≠0 then errs l else if h:l.length - 1<l.length then (if ends l[l.length - 1] then 0 else 4) else 4
theorem check_many {l:List It} (h:80<l.length):check l=2:=by unfold check;rw[if_pos h]
theorem check_errs {l:List It} (h:¬ 80<l.length) (h0:¬ errs l=0):check l=errs l:=by unfold check;rw[if_neg h,if_pos h0]
theorem check_none {l:List It} (h0:errs l=0) (hn:l.length=0):check l=4:=by
 unfold check
 rw[if_neg (by omega),if_neg (by simpa using h0),dif_neg (by omega)]
theorem check_last {l:List It} {k:Nat} (h:¬ 80<l.length) (h0:errs l=0) (hk:k<l.length) (hl:l.length=k+1):check l=if ends l[k] then 0 else 4:=by
 unfold check
 rw[if_neg h,if_neg (by simpa using h0),dif_pos (by omega)]
 obtain rfl:k=l.length - 1:=by omega
 rfl
end Dc
theorem At.get {w:World} {b off:Nat} {l:List It} (h:At w b off l) {k:Nat} {x:It} (hx:l[k]?=some x) :
  w.cell? ⟨b,off+k*3,none⟩=some (.int .u8 x.c.toNat)∧w.cell? ⟨b,off+k*3+1,none⟩=some (.int .i64 x.m)∧w.cell? ⟨b,off+k*3+2,none⟩=some (.string x.l):=by
 obtain ⟨hk,rfl⟩:=List.getElem?_eq_some_iff.1 hx
 exact ⟨h.c k hk,h.m k hk,h.l k hk⟩
theorem q1h (ao:Option Addr) (n cap:Nat) (l:List It) (w:World) (hD:Doc w ao n cap l) (hS:Sch w) :
  Calls Tryz.prog 74 #[.slice ao n cap] w fun e w' => e=.returned (.int .i64 (Dc.check l))∧Below w.heap.size w w' := by
 have HD:=hId hD
 have HN:Hid (l.length=n):=hD.len
 have hcap:=hD.room
 have hbig:=hD.big
 have CI:Hid (Calls Tryz.prog 148 #[.slice ao n cap] w fun e w' => e=.returned (.int .i64 (Dc.errs l))∧Below w.heap.size w w'):=q5c ao _ cap l w hD hS
 clear hD hS
 obtain ⟨r,hr⟩:∃ r,Dc.check l=r:=⟨_,rfl⟩
 have HR:=hId hr
 rw[hr]
 clear hr
 by_cases h80:80<n
 ·have:r=2:=HR.out.symm.trans (Dc.check_many (by rw[HN.out];exact h80))
  subst this
  clear HR CI
  go_enter Tryz.func74,Tryz.ntmps74
  go_wp2
  go_ret
  exact ⟨rfl,Below.refl _ _⟩
 ·by_cases h0:Dc.errs l=0
  ·rw[h0] at CI
   by_cases hn0:n=0
   ·have:r=4:=HR.out.symm.trans (Dc.check_none h0 (HN.out.trans hn0))
    subst this
    subst hn0
    clear HR h0
    go_enter Tryz.func74,Tryz.ntmps74
    go_wp2_with fail
    refine CI.out.mono ?_
    rintro e w1 ⟨rfl,hb⟩
    have H1:=hId hb
    clear hb
    go_wp2
    go_ret
    exact ⟨rfl,H1.out⟩
   ·obtain ⟨k,rfl⟩:∃ k,n=k+1:=⟨n - 1,by omega⟩
    obtain ⟨b,off,rfl,A0⟩:=HD.out.lies hn0
    have HA:Hid (At w b off l):=A0
    obtain ⟨x,hx,hrl⟩:∃ x,l[k]?=some x∧r=if Dc.ends x then 0 else 4:=by
     have hl:=HN.out
     have hk:k<l.length:=by omega
     exact ⟨l[k],List.getElem?_eq_getElem hk,HR.out.symm.trans (Dc.check_last (by omega) h0 hk hl)⟩
    have HX:=hId hx
    clear HR h0 A0 hx
    cases he:Dc.ends x
    all_goals
     rw[he] at hrl
     first | (have:r=0:=hrl;subst this) | (have:r=4:=hrl;subst this)
     clear hrl
     go_enter Tryz.func74,Tryz.ntmps74
     go_wp2_with fail
     refine CI.out.mono ?_
     rintro e w1 ⟨rfl,hb⟩
     have H1:=hId hb
     obtain ⟨hc0,hc1,hc2⟩:=(HA.out.below hb).get HX.out
     clear hb
     go_wp2_with fail
     refine (jw x _).mono ?_
     rintro e w2 ⟨rfl,hb⟩
     rw[he]
     have H2:Hid (Below w.heap.size w w2):=H1.out.trans (hb.mono H1.out.size)
     clear hb
     go_wp2
     go_ret
     exact ⟨rfl,H2.out⟩
  ·have hrr:Dc.errs l=r:=(Dc.check_errs (by rw[HN.out];exact h80) h0).symm.trans HR.out
   rw[hrr] at CI h0
   clear HR hrr
   go_enter Tryz.func74,Tryz.ntmps74
   go_wp2_with fail
   refine CI.out.mono ?_
   rintro e w1 ⟨rfl,hb⟩
   have H1:=hId hb
   clear hb
   go_wp2
   go_ret
   exact ⟨rfl,H1.out⟩
theorem kj (ao:Option Addr) (n cap:Nat) (l:List It) (w:World) (hD:Doc w ao n cap l) :
  Calls Tryz.prog 27 #[.slice ao n cap] w fun e w' => e=.returned (.int .i64 (Dc.check l))∧Below w.heap.size w w' := by
 have HD:=hId hD
 have HN:Hid (l.length=n):=hD.len
 have hcap:=hD.room
 have hbig:=hD.big
 have CI:Hid (Calls Tryz.prog 89 #[.slice ao n cap] w fun e w' => e=.returned (.int .i64 (Dc.errs l))∧Below w.heap.size w w'):=q0w ao _ cap l w hD
 clear hD
 obtain ⟨r,hr⟩:∃ r,Dc.check l=r:=⟨_,rfl⟩
 have HR:=hId hr
 rw[hr]
 clear hr
 by_cases h80:80<n
 ·have:r=2:=HR.out.symm.trans (Dc.check_many (by rw[HN.out];exact h80))
  subst this
  clear HR CI
  go_enter Tryz.func27,Tryz.ntmps27
  go_wp2
  go_ret
  exact ⟨rfl,Below.refl _ _⟩
 ·by_cases h0:Dc.errs l=0
  ·rw[h0] at CI
   by_cases hn0:n=0
   ·have:r=4:=HR.out.symm.trans (Dc.check_none h0 (HN.out.trans hn0))
    subst this
    subst hn0
    clear HR h0
    go_enter Tryz.func27,Tryz.ntmps27
    go_wp2_with fail
    refine CI.out.mono ?_
    rintro e w1 ⟨rfl,hb⟩
    have H1:=hId hb
    clear hb
    go_wp2
    go_ret
    exact ⟨rfl,H1.out⟩
   ·obtain ⟨k,rfl⟩:∃ k,n=k+1:=⟨n - 1,by omega⟩
    obtain ⟨b,off,rfl,A0⟩:=HD.out.lies hn0
    have HA:Hid (At w b off l):=A0
    obtain ⟨x,hx,hrl⟩:∃ x,l[k]?=some x∧r=if Dc.ends x then 0 else 4:=by
     have hl:=HN.out
     have hk:k<l.length:=by omega
     exact ⟨l[k],List.getElem?_eq_getElem hk,HR.out.symm.trans (Dc.check_last (by omega) h0 hk hl)⟩
    have HX:=hId hx
    clear HR h0 A0 hx
    cases he:Dc.ends x
    all_goals
     rw[he] at hrl
     first | (have:r=0:=hrl;subst this) | (have:r=4:=hrl;subst this)
     clear hrl
     go_enter Tryz.func27,Tryz.ntmps27
     go_wp2_with fail
     refine CI.out.mono ?_
     rintro e w1 ⟨rfl,hb⟩
     have H1:=hId hb
     obtain ⟨hc0,hc1,hc2⟩:=(HA.out.below hb).get HX.out
     clear hb
     have hne:((x.c.toNat:Int) != 10)=(!Dc.ends x):=rfl
     rw[he] at hne
     clear he
     have hz:((k:Int)+1 == 0)=false:=by simp;omega
     simp only[Bool.not_true,Bool.not_false] at hne
     go_wp2
     go_ret
     exact ⟨rfl,H1.out⟩
  ·have hrr:Dc.errs l=r:=(Dc.check_errs (by rw[HN.out];exact h80) h0).symm.trans HR.out
   rw[hrr] at CI h0
   clear HR hrr
   go_enter Tryz.func27,Tryz.ntmps27
   go_wp2_with fail
   refine CI.out.mono ?_
   rintro e w1 ⟨rfl,hb⟩
   have H1:=hId hb
   clear hb
   go_wp2
   go_ret
   exact ⟨rfl,H1.out⟩
open Go.RowKit
def cb (c:UInt8):Value:=.int .u8 c.toNat
namespace Dc
end Dc
open Go.RowKit
def It.zero:It:=⟨0,0,⟨#[]⟩⟩
namespace Dc
end Dc
open Go.RowKit
namespace Dc
def alike (x y:It):Bool:=((x.c.toNat:Int) == (y.c.toNat:Int))&&((x.m == y.m)&&(x.l.toList == y.l.toList))
def same:List It→List It→Bool
 | [],[]=>true
 | x :: s,y :: t=>alike x y&&same s t
 | _,_=>false
theorem same_len:∀ (s t:List It),¬ s.length=t.length→same s t=false
 | [],[],h=>absurd rfl h
 | [],_ :: _,_=>rfl
 | _ :: _,[],_=>rfl
 | x :: s,y :: t,h=>by
  rw[same,same_len s t (by simpa using h),Bool.and_false]
theorem same_step (s t:List It) (k:Nat) (h:k<s.length) (h' : k<t.length):same (s.drop k) (t.drop k)=(alike s[k] t[k]&&same (s.drop (k+1)) (t.drop (k+1))):=by
 rw[List.drop_eq_getElem_cons h,List.drop_eq_getElem_cons h',same]
end Dc
theorem q9m:Tryz.prog.eqGuardType Tryz.prog.depth 39=false:=by kernel_rfl
theorem held36:Tryz.prog.stoodInHeld 39=false:=by kernel_rfl
theorem qd0:Tryz.prog.underlying 39=some (.struct (Tryz.prog.fieldsOf 39)):=by kernel_rfl
theorem q51 (x y:It) (w:World):(binOp .neq 39 (.agg #[.int .u8 x.c.toNat,.int .i64 x.m,.string x.l]) (.agg #[.int .u8 y.c.toNat,.int .i64 y.m,.string y.l])).run Tryz.prog w=.ok (.bool (!Dc.alike x y)) w:=by
 rw[run_neq_struct,run_equalIn_agg w 9999 39 _ _ qd0 held36]
 have hu:=Tryz.underlying39
 simp[go_sem,hu,Program.fieldsOf]
 unfold Dc.alike
 by_cases h1:(x.c.toNat:Int)=(y.c.toNat:Int)
 ·by_cases h2:x.m=y.m
  ·by_cases h3:x.l.toList=y.l.toList
   ·simp[h1,h2,h3]
   ·simp[h1,h2,h3]
  ·simp[h1,h2]
 ·simp[h1]
theorem q1f (ao ao' : Option Addr) (n cap n' cap' : Nat) (l l' : List It) (w:World) (hD:Doc w ao n cap l) (hD' : Doc w ao' n' cap' l') :
  Calls Tryz.prog 16 #[.slice ao n cap,.slice ao' n' cap'] w fun e w' => e=.returned (.bool (Dc.same l l'))∧∃ m,w' = w.drewN m:=by
 have HD:=hId hD
 have HD' : Hid (Doc w ao' n' cap' l'):=hD'
 have hcap:=hD.room
 have hbig:=hD.big
 clear hD hD'
 obtain ⟨r,hr⟩:∃ r,Dc.same l l' = r:=⟨_,rfl⟩
 have HR:=hId hr
 rw[hr]
 clear hr
 by_cases hnn:n=n'
 ·subst hnn
  have hg:=q9m
  go_enter Tryz.func16,Tryz.ntmps16
  go_wp2
  go_loopw [13] (fun i wr=>∃ k:Nat,k≤n∧i=.int .i64 k∧(∃ m,wr=w.drewN m)∧Dc.same (l.drop k) (l'.drop k)=r) (fun i _=>n - (intOf i).toNat)
  case atStart=>exact ⟨0,Nat.zero_le _,rfl,⟨0,rfl⟩,HR.out⟩
  case round =>
   obtain ⟨k,hk,rfl,⟨m,rfl⟩,hsm⟩:=hrel
   have HM:=hId hsm
   clear hsm
   by_cases hlt:k<n
   ·obtain ⟨b,off,rfl,A0⟩:=HD.out.lies (by omega)
    obtain ⟨b',off',rfl,A0'⟩:=HD'.out.lies (by omega)
    have h1:k<l.length:=by rw[HD.out.len];exact hlt
    have h2:k<l'.length:=by rw[HD'.out.len];exact hlt
    obtain ⟨ha0,ha1,ha2⟩:=A0.get (List.getElem?_eq_getElem h1)
    obtain ⟨hx0,hx1,hx2⟩:=A0'.get (List.getElem?_eq_getElem h2)
    have HX:Hid (Dc.same (l.drop k) (l'.drop k)=(Dc.alike l[k] l'[k]&&Dc.same (l.drop (k+1)) (l'.drop (k+1)))):=Dc.same_step l l' k h1 h2
    clear A0 A0'
    generalize l[k]=x at *
    generalize l'[k]=y at *
    clear h1 h2
    have hq:=q51 x y
    cases hal:Dc.alike x y
    ·have hrr:r=false:=by rw[← HM.out,HX.out,hal];rfl
     subst hrr
     rw[hal] at hq
     clear hal
     go_wp2
     go_quiet (fail)
     go_wp2
     go_ret
     exact ⟨rfl,_,(World.drewN_drewN _ _ _)⟩
    ·have HM2:Hid (Dc.same (l.drop (k+1)) (l'.drop (k+1))=r):=by show _=_;rw[← HM.out,HX.out,hal,Bool.true_and]
     rw[hal] at hq
     clear hal
     go_wp2
     go_quiet (fail)
     go_wp2
     go_roundw
     case rel=>exact ⟨k+1,by omega,by go_num,⟨_,rfl⟩,HM2.out⟩
     case measure=>simp[intOf];omega
   ·have hrr:r=true:=by
     rw[← HM.out,List.drop_eq_nil_of_le (by rw[HD.out.len];omega),List.drop_eq_nil_of_le (by rw[HD'.out.len];omega)]
     rfl
    subst hrr
    go_wp2
    go_ret
    exact ⟨rfl,m,rfl⟩
 ·have hrr:r=false:=HR.out.symm.trans (Dc.same_len _ _ (by rw[HD.out.len,HD'.out.len];exact hnn))
  subst hrr
  go_enter Tryz.func16,Tryz.ntmps16
  go_wp2
  go_ret
  exact ⟨rfl,0,rfl⟩
theorem q25 (ao ao' : Option Addr) (n cap n' cap' : Nat) (l l' : List It) (w:World) (hD:Doc w ao n cap l) (hD' : Doc w ao' n' cap' l') :
  Calls Tryz.prog 68 #[.slice ao n cap,.slice ao' n' cap'] w fun e w' => e=.returned (.bool (Dc.same l l'))∧∃ m,w' = w.drewN m:=by
 have HE:=q1f ao ao' n cap n' cap' l l' w hD hD'
 clear hD hD'
 generalize Dc.same l l' = r at *
 have H:Hid (Calls Tryz.prog 16 #[.slice ao n cap,.slice ao' n' cap'] w fun e w' => e=.returned (.bool r)∧∃ m,w' = w.drewN m):=HE
 clear HE
 go_enter Tryz.func68,Tryz.ntmps68
 go_wp2_with fail
 refine H.out.mono ?_
 rintro e w1 ⟨rfl,m,rfl⟩
 go_wp2
 go_ret
 exact ⟨rfl,m,rfl⟩
open Go.RowKit
def kg:List It:=[⟨97,0,⟨#[]⟩⟩,⟨98,1,⟨#[]⟩⟩,⟨10,1,⟨#[]⟩⟩,⟨60,0,⟨#[104,116,116,112,58,38]⟩⟩,⟨10,2,⟨#[]⟩⟩]
theorem q5x:Dc.check kg=0:=by decide +kernel
def qf:List It→List Value
 | []=>[]
 | x :: t=>.int .u8 x.c.toNat :: .int .i64 x.m :: .string x.l :: qf t
theorem j1:∀ (l:List It) (i:Nat) (h:i<l.length),(qf l)[i*3]?=some (.int .u8 l[i].c.toNat)∧(qf l)[i*3+1]?=some (.int .i64 l[i].m)∧(qf l)[i*3+2]?=some (.string l[i].l)
 | [],_,h=>by simp at h
 | x :: t,0,_=>⟨rfl,rfl,rfl⟩
 | x :: t,i+1,h=>by
  obtain ⟨h1,h2,h3⟩:=j1 t i (by simpa using h)
  have e:(i+1)*3=i*3+1+1+1:=by omega
  rw[e]
  exact ⟨h1,h2,h3⟩
theorem q4c {w:World} {b:Nat} {l:List It} {T:TypeId} {fr:Nat × Nat} (h:w.heap[b]?=some (.cells (qf l).toArray T fr)):At w b 0 l:=by
 have hc:∀ j,w.cell? ⟨b,j,none⟩=(qf l)[j]?:=fun j=>by
  unfold World.cell?
  rw[h]
  simp
 refine ⟨fun i hi=>?_,fun i hi=>?_,fun i hi=>?_⟩
 ·rw[Nat.zero_add,hc];exact (j1 l i hi).1
 ·rw[Nat.zero_add,hc];exact (j1 l i hi).2.1
 ·rw[Nat.zero_add,hc];exact (j1 l i hi).2.2
theorem q7n (w:World):Calls Tryz.prog 67 #[] w fun e w' => e=.returned (.slice (some ⟨w.heap.size,0,none⟩) 5 5)∧w' = w.alloc (.cells (qf kg).toArray 39):=by
 go_enter Tryz.func67,Tryz.ntmps67
 go_wp2
 go_ret
 exact ⟨rfl,rfl⟩
theorem q8l:Fit kg:=by unfold Fit;decide +kernel
theorem qaz (w:World):Doc (w.alloc (.cells (qf kg).toArray 39)) (some ⟨w.heap.size,0,none⟩) 5 5 kg :=
 ⟨q8l,rfl,Nat.le_refl _,by decide,fun _=>⟨_,_,rfl,q4c (heap_alloc_new w _)⟩⟩
theorem smallD (w:World):Calls Tryz.prog 67 #[] w fun e w' => e=.returned (.slice (some ⟨w.heap.size,0,none⟩) 5 5)∧Doc w' (some ⟨w.heap.size,0,none⟩) 5 5 kg∧Below w.heap.size w w' :=
 (q7n w).mono fun _ _ ⟨he,hw⟩=>⟨he,by rw[hw];exact qaz w,by rw[hw];exact (Below.refl _ _).alloc (Nat.le_refl _) _⟩
open Go.RowKit
theorem jp:∀ l:List It,(qf l).length=l.length*3
 | []=>rfl
 | x :: t=>by
  show (qf t).length+1+1+1=_
  rw[jp t,List.length_cons,Nat.add_mul]
theorem jz:∀ l l' : List It,qf (l++l')=qf l++qf l'
 | [],_=>rfl
 | x :: t,l' => by
  show _ :: _ :: _ :: qf (t++l')=_
  rw[jz t l']
  rfl
theorem zt:∀ l:List It,∀ u ∈ qf l,u.oneCell' = true
 | [],u,hu=>by simp[qf] at hu
 | x :: t,u,hu=>by
  simp only[qf,List.mem_cons] at hu
  rcases hu with rfl | rfl | rfl | hu
  ·rfl
  ·rfl
  ·rfl
  ·exact zt t u hu
theorem q2f {w:World} {b off:Nat} {l:List It} (h:At w b off l) (j:Nat) (u:Value) (hu:(qf l)[j]?=some u):w.cell? ((⟨b,off,none⟩:Addr).add j)=some u:=by
 have hadd:(⟨b,off,none⟩:Addr).add j=⟨b,off+j,none⟩:=by unfold Addr.add;split <;> simp_all
 rw[hadd]
 have hlt:j<l.length*3:=by rw[← jp];exact (List.getElem?_eq_some_iff.1 hu).1
 have hi:j / 3<l.length:=by omega
 obtain ⟨h1,h2,h3⟩:=j1 l (j / 3) hi
 have hr:j=j / 3*3∨j=j / 3*3+1∨j=j / 3*3+2:=by omega
 rcases hr with e | e | e
 ·rw[e,h1] at hu
  rw[e]
  exact (h.c _ hi).trans hu
 ·rw[e,h2] at hu
  rw[e,← Nat.add_assoc]
  exact (h.m _ hi).trans hu
 ·rw[e,h3] at hu
  rw[e,← Nat.add_assoc]
  exact (h.l _ hi).trans hu
theorem own_at {w:World} {B0 g cap n:Nat} {l:List It} (h:w.ownsRow B0 39 3 (.slice (some ⟨g,0,none⟩) n cap) n (qf l)):At w g 0 l:=by
 have hc:∀ j u,(qf l)[j]?=some u→w.cell? ⟨g,0+j,none⟩=some u:=fun j u hu=>by
  have:=h.cells (g:=g) rfl j u hu
  have e:(⟨g,0,none⟩:Addr).add j=⟨g,0+j,none⟩:=by unfold Addr.add;split <;> simp_all
  rw[e] at this
  exact this
 refine ⟨fun i hi=>hc _ _ (j1 l i hi).1,fun i hi=>?_,fun i hi=>?_⟩
 ·rw[Nat.add_assoc];exact hc _ _ (j1 l i hi).2.1
 ·rw[Nat.add_assoc];exact hc _ _ (j1 l i hi).2.2
open Go.RowKit
namespace Ac
structure Ch where
 set:Int
 clr:Int
 goes:Bool
 link:ByteArray
abbrev A:=Option (Ch ⊕ It)
namespace A
abbrev keep (c:Ch):A:=some (.inl c)
abbrev put (x:It):A:=some (.inr x)
abbrev cut:A:=none
end A
def nop:Ch:=⟨0,0,false,⟨#[]⟩⟩
def mark (m c s:Int):Int:=((m.toNat - (m.toNat &&& c.toNat)) ||| s.toNat:Nat)
def less (a b:Int):Int:=(a.toNat - (a.toNat &&& b.toNat):Nat)
def both (a b:Int):Int:=(a.toNat ||| b.toNat:Nat)
def change (x:It) (c:Ch):It:=⟨x.c,mark x.m c.clr c.set,if c.goes&&!Dc.ends x then c.link else x.l⟩
def m4 (m:Int):Prop:=0≤m∧m≤3
structure ChOk (c:Ch):Prop where
 set:m4 c.set
 clr:m4 c.clr
theorem m4_nat {m:Int} (h:m4 m):∃ k:Nat,k<4∧m=k:=by
 obtain ⟨h0,h3⟩:=h
 exact ⟨m.toNat,by omega,by omega⟩
def A.ok:A→Prop
 | some (.inl c)=>ChOk c
 | some (.inr x)=>m4 x.m
 | none=>True
def ap:List A→List It→Option (List It)
 | [],[]=>some []
 | [],_ :: _=>none
 | some (.inr x) :: r,d=>(ap r d).map (x :: ·)
 | some (.inl _) :: _,[]=>none
 | some (.inl c) :: r,x :: d=>(ap r d).map (change x c :: ·)
 | none :: _,[]=>none
 | none :: r,_ :: d=>ap r d
def need:List A→Nat
 | []=>0
 | some (.inr _) :: r=>need r
 | some (.inl _) :: r=>need r+1
 | none :: r=>need r+1
def leave:List A→Nat
 | []=>0
 | some (.inr _) :: r=>leave r+1
 | some (.inl _) :: r=>leave r+1
 | none :: r=>leave r
theorem ap_cut (r:List A) (x:It) (d:List It):ap (.cut :: r) (x :: d)=ap r d:=rfl
theorem qaa (c:Ch) (r:List A) (x:It) (d:List It):ap (.keep c :: r) (x :: d)=(ap r d).map (change x c :: ·):=rfl
theorem qcw (x:It) (r:List A) (d:List It):ap (.put x :: r) d=(ap r d).map (x :: ·):=by cases d <;> rfl
theorem q9a {m c s:Int} (hm:m4 m) (hc:m4 c) (hs:m4 s):m4 (mark m c s):=by
 obtain ⟨a,ha,rfl⟩:=m4_nat hm
 obtain ⟨b,hb,rfl⟩:=m4_nat hc
 obtain ⟨e,he,rfl⟩:=m4_nat hs
 have h:∀ a<4,∀ b<4,∀ e<4,((a - (a &&& b)) ||| e)≤3:=by decide
 have:=h a ha b hb e he
 refine ⟨Int.natCast_nonneg _,?_⟩
 show (((a - (a &&& b)) ||| e:Nat):Int)≤3
 omega
theorem less_m4 {a b:Int} (ha:m4 a) (hb:m4 b):m4 (less a b):=by
 obtain ⟨x,hx,rfl⟩:=m4_nat ha
 obtain ⟨y,hy,rfl⟩:=m4_nat hb
 have h:∀ a<4,∀ b<4,(a - (a &&& b))≤3:=by decide
 have:=h x hx y hy
 refine ⟨Int.natCast_nonneg _,?_⟩
 show ((x - (x &&& y):Nat):Int)≤3
 omega
theorem both_m4 {a b:Int} (ha:m4 a) (hb:m4 b):m4 (both a b):=by
 obtain ⟨x,hx,rfl⟩:=m4_nat ha
 obtain ⟨y,hy,rfl⟩:=m4_nat hb
 have h:∀ a<4,∀ b<4,(a ||| b)≤3:=by decide
 have:=h x hx y hy
 refine ⟨Int.natCast_nonneg _,?_⟩
 show ((x ||| y:Nat):Int)≤3
 omega
def behind (b a:Ch):Ch:=⟨less b.set (both a.set a.clr),less b.clr (both a.set a.clr),b.goes&&!a.goes,if a.goes then ⟨#[]⟩ else b.link⟩
def thenCh (a b:Ch):Ch:=⟨both (less a.set b.clr) b.set,both (less a.clr b.set) b.clr,a.goes || b.goes,if b.goes then b.link else a.link⟩
theorem q6b (x:It) (c:Ch):Dc.ends (change x c)=Dc.ends x:=rfl
def onto (h:Option Ch) (f:List A→List A × List A):List A→List A × List A
 | []=>([],[])
 | some (.inr y) :: b=>(.keep nop :: (onto h f b).1,.put y :: (onto h f b).2)
 | some (.inl d) :: b=>match h with
  | some c=>(.keep c :: (f b).1,.keep (behind d c) :: (f b).2)
  | none=>(.cut :: (f b).1,(f b).2)
 | none :: b=>match h with
  | some _=>((f b).1,.cut :: (f b).2)
  | none=>f b
def tails:List A→List A × List A
 | some (.inr y) :: b=>(.keep nop :: (tails b).1,.put y :: (tails b).2)
 | _=>([],[])
def turn:List A→List A→List A × List A
 | [],b=>tails b
 | some (.inr x) :: a,b=>(.put x :: (turn a b).1,.keep nop :: (turn a b).2)
 | some (.inl c) :: a,b=>onto (some c) (turn a) b
 | none :: a,b=>onto none (turn a) b
theorem qav (x:It) (a b:List A):turn (.put x :: a) b=(.put x :: (turn a b).1,.keep nop :: (turn a b).2):=rfl
theorem qd1 (c:Ch) (y:It) (a b:List A):turn (.keep c :: a) (.put y :: b)=(.keep nop :: (turn (.keep c :: a) b).1,.put y :: (turn (.keep c :: a) b).2):=rfl
theorem qd2 (y:It) (a b:List A):turn (.cut :: a) (.put y :: b)=(.keep nop :: (turn (.cut :: a) b).1,.put y :: (turn (.cut :: a) b).2):=rfl
theorem turn_kk (c d:Ch) (a b:List A):turn (.keep c :: a) (.keep d :: b)=(.keep c :: (turn a b).1,.keep (behind d c) :: (turn a b).2):=rfl
theorem turn_ck (d:Ch) (a b:List A):turn (.cut :: a) (.keep d :: b)=(.cut :: (turn a b).1,(turn a b).2):=rfl
theorem turn_kc (c:Ch) (a b:List A):turn (.keep c :: a) (.cut :: b)=((turn a b).1,.cut :: (turn a b).2):=rfl
theorem turn_cc (a b:List A):turn (.cut :: a) (.cut :: b)=turn a b:=rfl
end Ac
namespace Ac
def M4 (d:List It):Prop:=∀ x ∈ d,m4 x.m
theorem q34 {x:It} {r:List A} {d p:List It} (h:ap (.put x :: r) d=some p):∃ p',p=x :: p' ∧ ap r d=some p' := by
 rw[qcw] at h
 cases hr:ap r d with
 | none=>rw[hr] at h;cases h
 | some q=>rw[hr] at h;cases h;exact ⟨q,rfl,rfl⟩
theorem q0f {c:Ch} {r:List A} {d p:List It} (h:ap (.keep c :: r) d=some p):∃ z d' p',d=z :: d' ∧ p=change z c :: p' ∧ ap r d' = some p' := by
 cases d with
 | nil=>cases h
 | cons z d' =>
  rw[qaa] at h
  cases hr:ap r d' with
  | none=>rw[hr] at h;cases h
  | some q=>rw[hr] at h;cases h;exact ⟨z,d',q,rfl,rfl,hr⟩
theorem q36 {r:List A} {d p:List It} (h:ap (.cut :: r) d=some p):∃ z d',d=z :: d' ∧ ap r d' = some p:=by
 cases d with
 | nil=>cases h
 | cons z d' => exact ⟨z,d',rfl,h⟩
theorem q35 {d p:List It} (h:ap [] d=some p):d=[]∧p=[]:=by
 cases d with
 | nil=>cases h;exact ⟨rfl,rfl⟩
 | cons=>cases h
def into (h:Ch ⊕ It) (f:List A→List A):List A→List A
 | []=>[]
 | some (.inr y) :: b=>.put y :: into h f b
 | some (.inl e) :: b=>match h with
  | .inl c=>.keep (thenCh c e) :: f b
  | .inr x=>.put (change x e) :: f b
 | none :: b=>match h with
  | .inl _=>.cut :: f b
  | .inr _=>f b
def puts:List A→List A
 | some (.inr y) :: b=>.put y :: puts b
 | _=>[]
def join:List A→List A→List A
 | [],b=>puts b
 | none :: a,b=>.cut :: join a b
 | some h :: a,b=>into h (join a) b
theorem join_cut (a b:List A):join (.cut :: a) b=.cut :: join a b:=rfl
theorem join_kk (c e:Ch) (a b:List A):join (.keep c :: a) (.keep e :: b)=.keep (thenCh c e) :: join a b:=rfl
theorem join_kc (c:Ch) (a b:List A):join (.keep c :: a) (.cut :: b)=.cut :: join a b:=rfl
theorem join_pk (x:It) (e:Ch) (a b:List A):join (.put x :: a) (.keep e :: b)=.put (change x e) :: join a b:=rfl
theorem join_pc (x:It) (a b:List A):join (.put x :: a) (.cut :: b)=join a b:=rfl
theorem qbo (a b:List A) (y:It) (h:∀ a',a≠.cut :: a'):join a (.put y :: b)=.put y :: join a b:=by
 match a,h with
 | [],_=>rfl
 | some (.inl c) :: a,_=>rfl
 | some (.inr x) :: a,_=>rfl
 | none :: a,h=>exact absurd rfl (h a)
end Ac
namespace Ac
end Ac
namespace Ac
end Ac
namespace Ac
def group (ps:List It) (n:Nat):List A:=ps.map A.put++List.replicate n A.cut
def norm:List It→Nat→List A→List A
 | ps,n,[]=>group ps n
 | ps,n,some (.inr x) :: r=>norm (ps++[x]) n r
 | ps,n,none :: r=>norm ps (n+1) r
 | ps,n,some (.inl c) :: r=>group ps n++.keep c :: norm [] 0 r
theorem qa9:∀ (ps:List It) (l:List A) (d:List It),ap (ps.map A.put++l) d=(ap l d).map (ps++·)
 | [],l,d=>by simp
 | x :: ps,l,d=>by
  rw[List.map_cons,List.cons_append,qcw,qa9 ps l d,Option.map_map]
  rfl
theorem qab:∀ (n:Nat) (l:List A) (d:List It),ap (List.replicate n A.cut++l) d=if n≤d.length then ap l (d.drop n) else none
 | 0,l,d=>by simp
 | n+1,l,[]=>by simp[List.replicate_succ,ap]
 | n+1,l,x :: d=>by
  rw[List.replicate_succ,List.cons_append,ap_cut,qab n l d]
  simp
def Like (l l' : List A):Prop:=∀ ps n,norm ps n l=norm ps n l'
end Ac
namespace Ac
end Ac
open Go.RowKit
namespace Ac
structure Pt where
 kind:Int
 n:Int
 items:List It
 set:Int
 clr:Int
 goes:Bool
 link:ByteArray
def chOf (p:Pt):Ch:=⟨p.set,p.clr,p.goes,p.link⟩
def keepP (c:Ch) (n:Int):Pt:=⟨1,n,[],c.set,c.clr,c.goes,c.link⟩
def putP (xs:List It):Pt:=⟨2,0,xs,0,0,false,⟨#[]⟩⟩
def cutP (n:Nat):Pt:=⟨3,n,[],0,0,false,⟨#[]⟩⟩
def je (p:Pt):List A:=if p.kind=2 then p.items.map A.put else List.replicate p.n.toNat (if p.kind=1 then A.keep (chOf p) else A.cut)
def acts (o:List Pt):List A:=o.flatMap je
theorem ki:acts []=[]:=rfl
theorem js (p:Pt) (o:List Pt):acts (p :: o)=je p++acts o:=rfl
theorem jb (o o' : List Pt):acts (o++o')=acts o++acts o' := List.flatMap_append
theorem q3r (c:Ch) (n:Int):je (keepP c n)=List.replicate n.toNat (A.keep c):=rfl
theorem qaf (xs:List It):je (putP xs)=xs.map A.put:=rfl
def flushP (ps:List It) (n:Nat):List Pt:=(if ps.isEmpty then [] else [putP ps])++(if n=0 then [] else [cutP n])
def likeK (p:Pt) (c:Ch):Bool:=p.kind == 1&&p.set == c.set&&p.clr == c.clr&&p.goes == c.goes&&p.link.data.toList == c.link.data.toList
def addK:List Pt→Ch→List Pt
 | [],c=>[keepP c 1]
 | [p],c=>if likeK p c then [{ p with n:=p.n+1 }] else [p,keepP c 1]
 | p :: q :: o,c=>p :: addK (q :: o) c
theorem qbj {p:Pt} {c:Ch} (h:likeK p c=true):p.kind=1∧chOf p=c:=by
 unfold likeK at h
 simp only[Bool.and_eq_true,beq_iff_eq] at h
 obtain ⟨⟨⟨⟨h1,h2⟩,h3⟩,h4⟩,h5⟩:=h
 refine ⟨h1,?_⟩
 unfold chOf
 cases c
 simp at h2 h3 h4 h5
 have:p.link=_:=ByteArray.ext h5
 rw[h2,h3,h4,this]
def tdy:List Pt→List It→Nat→List A→List Pt
 | out,ps,n,[]=>out++flushP ps n
 | out,ps,n,some (.inr x) :: r=>tdy out (ps++[x]) n r
 | out,ps,n,none :: r=>tdy out ps (n+1) r
 | out,ps,n,some (.inl c) :: r=>tdy (addK (out++flushP ps n) c) [] 0 r
def tidy (o:List Pt):List Pt:=tdy [] [] 0 (acts o)
theorem q6m:∀ (qs:List It) (out:List Pt) (ps:List It) (n:Nat) (r:List A),tdy out ps n (qs.map A.put++r)=tdy out (ps++qs) n r
 | [],out,ps,n,r=>by simp
 | x :: qs,out,ps,n,r=>by
  rw[List.map_cons,List.cons_append,tdy,q6m qs]
  simp
theorem q6n:∀ (k:Nat) (out:List Pt) (ps:List It) (n:Nat) (r:List A),tdy out ps n (List.replicate k A.cut++r)=tdy out ps (n+k) r
 | 0,out,ps,n,r=>by simp
 | k+1,out,ps,n,r=>by
  rw[List.replicate_succ,List.cons_append,tdy,q6n k]
  congr 1
  omega
end Ac
open Go.RowKit
namespace Ac
def says (p q:Pt):Bool:=(p.set == q.set)&&((p.clr == q.clr)&&((p.goes == q.goes)&&(p.link.toList == q.link.toList)))
def same1 (p q:Pt):Bool:=(p.kind == q.kind)&&((p.n == q.n)&&(Dc.same p.items q.items&&says p q))
def sameO:List Pt→List Pt→Bool
 | [],[]=>true
 | p :: s,q :: t=>same1 p q&&sameO s t
 | _,_=>false
theorem sameO_len:∀ (s t:List Pt),¬ s.length=t.length→sameO s t=false
 | [],[],h=>absurd rfl h
 | [],_ :: _,_=>rfl
 | _ :: _,[],_=>rfl
 | x :: s,y :: t,h=>by rw[sameO,sameO_len s t (by simpa using h),Bool.and_false]
theorem sameO_step (s t:List Pt) (k:Nat) (h:k<s.length) (h' : k<t.length):sameO (s.drop k) (t.drop k)=(same1 s[k] t[k]&&sameO (s.drop (k+1)) (t.drop (k+1))):=by
 rw[List.drop_eq_getElem_cons h,List.drop_eq_getElem_cons h',sameO]
def usedP (p:Pt):Pt:=if p.kind=1 then { p with items:=[] } else if p.kind=2 then ⟨p.kind,0,p.items,0,0,false,⟨#[]⟩⟩ else ⟨p.kind,p.n,[],0,0,false,⟨#[]⟩⟩
def areM (m:Int):Bool:=decide (0≤m)&&decide (m≤3)
def errN (n:Int):Int:=if n<1∨80<n then 3 else 0
def errPut (l:List It):Int:=if l.length<1∨80<l.length then 2 else Dc.errs l
def marksBad (s c:Int):Bool:=!areM s || (!areM c || (s.toNat &&& c.toNat) != 0)
def linkBad (g:Bool) (l:ByteArray):Bool:=!l.toList.isEmpty&&(!g || !Lk.may l.data.toList)
def errK (p:Pt):Int:=if marksBad p.set p.clr then 3 else if linkBad p.goes p.link then 4 else errN p.n
def err0 (p:Pt):Int:=if p.kind=1 then errK p else if p.kind=2 then errPut p.items else if p.kind=3 then errN p.n else 4
def err1 (p:Pt):Int:=if err0 p=0 then (if same1 p (usedP p) then 0 else 4) else err0 p
def chks:Int→List Pt→Int
 | _,[]=>0
 | s,p :: t=>if err1 p=0 then (if 80<s+p.n then 2 else chks (s+p.n) t) else err1 p
def chk (o:List Pt):Int:=if o.length<1∨40<o.length then 2 else if chks 0 o=0 then (match o.getLast? with | some p=>if p.kind=1 then 0 else 4 | none=>4) else chks 0 o
def lfS (s:Int) (p:Pt):Int:=if p.kind=1∨p.kind=3 then wrap64 (s+p.n) else s
def ltS (s:Int) (p:Pt):Int:=if p.kind=1 then wrap64 (s+p.n) else if p.kind=2 then wrap64 (s+p.items.length) else s
def lf (o:List Pt):Int:=o.foldl lfS 0
def lt (o:List Pt):Int:=o.foldl ltS 0
end Ac
structure PV where
 kind:Int
 n:Int
 ao:Option Addr
 m:Nat
 cap:Nat
 items:List It
 set:Int
 clr:Int
 goes:Bool
 link:ByteArray
def PV.pt (v:PV):Ac.Pt:=⟨v.kind,v.n,v.items,v.set,v.clr,v.goes,v.link⟩
def pvC (v:PV):List Value:=[.int .i64 v.kind,.int .i64 v.n,.slice v.ao v.m v.cap,.int .i64 v.set,.int .i64 v.clr,.bool v.goes,.string v.link]
def q9 (l:List PV):List Value:=l.flatMap pvC
theorem x9 (v:PV) (l:List PV):q9 (v :: l)=.int .i64 v.kind :: .int .i64 v.n :: .slice v.ao v.m v.cap :: .int .i64 v.set :: .int .i64 v.clr :: .bool v.goes :: .string v.link :: q9 l:=rfl
theorem ky (l l' : List PV):q9 (l++l')=q9 l++q9 l' := List.flatMap_append
theorem ze (v:PV):q9 [v]=pvC v:=by simp[q9]
theorem xq:∀ l:List PV,(q9 l).length=l.length*7
 | []=>rfl
 | k :: l=>by rw[x9];simp only[List.length_cons];rw[xq l];omega
theorem yh:∀ (l:List PV) (i:Nat) (h:i<l.length),(q9 l)[i*7]?=some (.int .i64 l[i].kind)∧(q9 l)[i*7+1]?=some (.int .i64 l[i].n)∧(q9 l)[i*7+2]?=some (.slice l[i].ao l[i].m l[i].cap)∧(q9 l)[i*7+3]?=some (.int .i64 l[i].set)∧(q9 l)[i*7+4]?=some (.int .i64 l[i].clr)∧(q9 l)[i*7+5]?=some (.bool l[i].goes)∧(q9 l)[i*7+6]?=some (.string l[i].link)
 | [],_,h=>by simp at h
 | k :: l,0,_=>⟨rfl,rfl,rfl,rfl,rfl,rfl,rfl⟩
 | k :: l,i+1,h=>by
  have:=yh l i (by simpa using h)
  rw[x9,show (i+1)*7=i*7+1+1+1+1+1+1+1 by omega]
  exact this
theorem qi (l:List PV):∀ u ∈ q9 l,u.oneCell' = true:=by
 intro u hu
 obtain ⟨k,_,h⟩:=List.mem_flatMap.1 hu
 simp only[pvC,List.mem_cons,List.not_mem_nil,or_false] at h
 rcases h with rfl | rfl | rfl | rfl | rfl | rfl | rfl <;> rfl
structure Pvt (w:World) (v:PV):Prop where
 doc:Doc w v.ao v.m v.cap v.items
 fit:v.link.size≤9223372036854775807
theorem Pvt.below {w w' : World} {v:PV} (h:Pvt w v) (hb:Below w.heap.size w w'):Pvt w' v:=⟨h.doc.below hb,h.fit⟩
structure Seven (w:World) (b off:Nat) (v:PV):Prop where
 c0:w.cell? ⟨b,off,none⟩=some (.int .i64 v.kind)
 c1:w.cell? ⟨b,off+1,none⟩=some (.int .i64 v.n)
 c2:w.cell? ⟨b,off+2,none⟩=some (.slice v.ao v.m v.cap)
 c3:w.cell? ⟨b,off+3,none⟩=some (.int .i64 v.set)
 c4:w.cell? ⟨b,off+4,none⟩=some (.int .i64 v.clr)
 c5:w.cell? ⟨b,off+5,none⟩=some (.bool v.goes)
 c6:w.cell? ⟨b,off+6,none⟩=some (.string v.link)
theorem Seven.below {w w' : World} {b off:Nat} {v:PV} (h:Seven w b off v) (hb:Below w.heap.size w w'):Seven w' b off v :=
 ⟨q8 h.c0 hb,q8 h.c1 hb,q8 h.c2 hb,q8 h.c3 hb,q8 h.c4 hb,q8 h.c5 hb,q8 h.c6 hb⟩
structure Ops (w:World) (ao:Option Addr) (n cap:Nat) (vs:List PV):Prop where
 row:Row w ao n cap 7 (q9 vs)
 pts:∀ v ∈ vs,Pvt w v
theorem Ops.below {w w' : World} {ao:Option Addr} {n cap:Nat} {vs:List PV} (h:Ops w ao n cap vs) (hb:Below w.heap.size w w'):Ops w' ao n cap vs :=
 ⟨h.row.below hb,fun v hv=>(h.pts v hv).below hb⟩
theorem Ops.len {w:World} {ao:Option Addr} {n cap:Nat} {vs:List PV} (h:Ops w ao n cap vs):vs.length=n:=by
 have:=h.row.len
 rw[xq] at this
 omega
theorem Ops.get {w:World} {ao:Option Addr} {n cap:Nat} {vs:List PV} (h:Ops w ao n cap vs) (hn:n≠0):∃ b off,ao=some ⟨b,off,none⟩∧∀ i (hi:i<vs.length),Seven w b (off+i*7) vs[i]:=by
 obtain ⟨b,off,e,hc⟩:=h.row.lies hn
 refine ⟨b,off,e,fun i hi=>?_⟩
 obtain ⟨h0,h1,h2,h3,h4,h5,h6⟩:=yh vs i hi
 exact ⟨hc _ _ h0,by rw[Nat.add_assoc];exact hc _ _ h1,by rw[Nat.add_assoc];exact hc _ _ h2,by rw[Nat.add_assoc];exact hc _ _ h3,by rw[Nat.add_assoc];exact hc _ _ h4,by rw[Nat.add_assoc];exact hc _ _ h5,by rw[Nat.add_assoc];exact hc _ _ h6⟩
def boxp (v:PV) (w:World):World:=w.alloc (.cells #[.int .i64 v.kind,.int .i64 v.n,.slice v.ao v.m v.cap,.int .i64 v.set,.int .i64 v.clr,.bool v.goes,.string v.link] 162)
theorem qg (v:PV) (w:World):Below w.heap.size w (boxp v w):=(Below.refl _ _).alloc (Nat.le_refl _) _
theorem zr (v:PV) (w:World):(boxp v w).heap.size=w.heap.size+1:=World.size_alloc ..
theorem zz (v:PV) (w:World):Blk (boxp v w) w.heap.size (pvC v) 162:=Blk.new w _ _
theorem q8p {w:World} {b:Nat} {v:PV} (h:Blk w b (pvC v) 162):Seven w b 0 v:=⟨h.cell 0,h.cell 1,h.cell 2,h.cell 3,h.cell 4,h.cell 5,h.cell 6⟩
theorem j6 (v:PV) (w:World):Seven (boxp v w) w.heap.size 0 v:=q8p (zz v w)
theorem yz (v u:PV) (w:World):Below w.heap.size w (boxp u (boxp v w)):=(qg v w).trans ((qg u _).mono (qg v w).size)
theorem xh (v u:PV) (w:World):Seven (boxp u (boxp v w)) w.heap.size 0 v:=(j6 v w).below (qg u _)
theorem xz (v u:PV) (w:World):Seven (boxp u (boxp v w)) (w.heap.size+1) 0 u:=by
 have:=j6 u (boxp v w)
 rw[zr] at this
 exact this
theorem Tryz.infP:(Tryz.prog.info? 162).map (fun i=>(i.zero,i.size,i.bytes))=some (some (.agg #[.int .i64 0,.int .i64 0,.slice none 0 0,.int .i64 0,.int .i64 0,.bool false,.string ⟨#[]⟩]),7,80):=by kernel_rfl
end Go.Proofs.YtbhcklkbckacpaaGreatDoor

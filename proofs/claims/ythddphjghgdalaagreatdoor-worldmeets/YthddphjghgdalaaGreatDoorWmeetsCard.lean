/-
  WorldMeets: whatever document, number of clients and script it is called with, the law returns true and leaves them as they were: where all is served and heard, and all are joined, all have the same: what the server has; nothing is on its way, and nothing waits; and the closed fact of the law holds.
  Conditions: the tied card's own: the package variables that the row lists (tied to the program's text in the pruned copy of the project; nothing is said of its other packages, commands or tests) read as listed; of 'internal/bytealg.MaxLen' nothing is asked. The statement is the full one, 'Rows.WorldMeetsCardSaid'.
-/
import Derived.Test.YthddphjghgdalaaGreatDoorP48
import Derived.Test.YthddphjghgdalaaGreatDoorWmeetsCardF
set_option maxRecDepth 100000
namespace Go.Proofs.YthddphjghgdalaaGreatDoor
open Go.Proofs.Tryz
open Go.ChangeShapes Go.WideShapes Go.ChangeAt Go.WideMaps Go.WideElems Go.RowKit
theorem vV (os:Os) (started:os.Started) (H:Type) (enc:TypeId × Value->H) :
  ReturnsInHanded {} Tryz.checked os 4 .any (fun w args=>(Rows.worldMeetsSpec.pre enc prog Tryz.f4 [] false w args/\laidMetH prog jv w)/\sizedMet enc prog Tryz.f4 (OpenSpec.ofChange Rows.worldMeetsSpec) false w args)
   (Rows.worldMeetsSpec.post enc prog Tryz.f4 false true false false):=by
 refine qw (C:=Tryz.checked) (X:=fun w _=>laidMetH prog jv w) (fun _ _ _ hh h=>h.of_heap hh) P8 started (by kernel_rfl) func4
  (ChangeSpec.witness_shaped (enc:=enc) (C:=Tryz.checked) (os:=os) (X:=fun w _=>laidMetH prog jv w) false (World.laidAll prog os jv) #[.slice none 0 0,.int .i64 0,.slice none 0 0] 8 (World.laidAll_os _ _ _) (World.shaped_of_ZipB (by kernel_rfl) (by kernel_rfl)) (by kernel_rfl) (by kernel_rfl) (by kernel_rfl) (QJ os _)) ?_
 intro W base args ds gs before hval0 hW _ hsh hL;have hval:∀ (j:Nat) t v,Tryz.f4.params[j]?=some t->args[j]?=some v->Value.okWide prog W .any base t v:=hval0;have hW':=hW;obtain ⟨p,q,hA0,hV,rfl,hfz,hnd⟩:=hW;have hA:DataW.TrodAll enc prog W 0 (fun _=>true) true Tryz.f4.params.toList args.toList ds p:=hA0;rw[Tryz.params4] at hA hval;obtain ⟨v0,v1,v2,d0,d1,d2,p0,p1,p2,rfl,rfl,rfl,h0,h1,h2⟩:=trodAll_three hA;obtain ⟨rfl,rfl⟩:=trodVars_none hV;obtain ⟨a0,n0,c0,rfl⟩:=okWide_slice underlying23 (hval 0 23 v0 rfl rfl);obtain ⟨i1,rfl⟩:=okWide_int underlying3 (hval 1 3 v1 rfl rfl);obtain ⟨a2,n2,c2,rfl⟩:=okWide_slice underlying45 (hval 2 45 v2 rfl rfl);have hlt:∀ y ∈ p0++(p1++p2),y.block<W.heap.size:=fun y hy=>by simpa using hW'.lt y (by simpa using hy)
 clear hA0 hval0;simp only[VY] at hW'
 have D0:∃ l,cy W a0 n0 c0 l:=by obtain ⟨fuel,hf⟩:=h0;exact ju underlying23 (by simpa [Value.cells] using hf)
 have D2:∃ xs:List HV,Row W a2 n2 c2 5 (eI xs)/\∀ x ∈ xs,qq W x:=by obtain ⟨fuel,hf⟩:=h2;exact wQ (by simpa [Value.cells] using hf)
 obtain ⟨l0,D0⟩:=D0;obtain ⟨l2,D2,E2⟩:=D2;refine (Bu a0 n0 c0 l0 i1 a2 n2 c2 l2 W D0 D2 E2 (uG hL hsh)).mono fun e W' ⟨he,hb⟩=>?_
 subst he;refine ⟨_,rfl,_,_,_,[],p0++(p1++p2),[],hW',trodAll_mk1 (shut_bool underlying4 _),?_,rfl,hb.frame _,fun h=>by cases h⟩
 exact trodAll_mk3 (Below.trod jD (by kernel_rfl) (XS (by kernel_rfl)) h0 hb (fun y hy=>hlt y (by simp[hy]))) (Below.trod jD (by kernel_rfl) (XS (by kernel_rfl)) h1 hb (fun y hy=>hlt y (by simp[hy]))) (Below.trod jD (by kernel_rfl) (XS (by kernel_rfl)) h2 hb (fun y hy=>hlt y (by simp[hy])))
theorem wmeets_holds:Rows.WorldMeetsSaid :=
 OpenClaim.holds_of_wide 4 Tryz.f4 rfl rfl rfl rfl rfl rfl rfl ⟨rfl,rfl,rfl,rfl,rfl⟩ rfl rfl rfl rfl rfl (by kernel_rfl) func4 F8
  (XS (by kernel_rfl)) (by unfold Func.isWrapper;first | (rw[VC (by decide +kernel)];kernel_rfl) | (rw[VD (by decide +kernel)];exact ⟨rfl,rfl⟩))
  (fun os started H enc _=>vV os started H enc)
theorem worldMeets_holds:Rows.WorldMeetsCardSaid :=
 Claim7.holds_tied_plain_at .later [] [.data,.data,.data,.data,.data,.pinned] true (true, "c98cc06c3afee6af8be172c0f36aeef9a006c53ee95c49d329b53689307d84ca") false
  wmeets_holds (fun _ h=>by cases h) (by kernel_rfl) (fun _ h=>by cases h) worldMeets_row_tie rfl ⟨rfl,rfl⟩ F6 rfl
  (fun f fn hf hfn=>by
   obtain rfl:f=4:=WU ((show prog.funcNamed "manyhands/manyhandslaw.WorldMeets"=some 4 by kernel_rfl).symm.trans hf) |>.symm;obtain rfl:fn=Tryz.f4:=(WU (func4.symm.trans hfn)).symm;exact ⟨F7,fun j t ht=>by
    rw[Tryz.params4] at ht;have hm:t ∈ [23,3,45]:=by simpa using Array.mem_of_getElem? ht
    have hall:([23,3,45].all fun u=>!prog.wantsStandIn u)=true:=by kernel_rfl
    exact (show prog.wantsStandIn t=false by simpa using XR.1 hall t hm)⟩)
  F9
#print axioms worldMeets_holds

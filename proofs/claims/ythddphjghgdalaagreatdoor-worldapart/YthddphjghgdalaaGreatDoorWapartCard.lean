/-
  WorldApart: whatever world and happening it is called with, the law returns true and leaves them as they were: what one client does changes no other one, nor the server; what the server takes changes no client; and the closed fact of the law holds.
  Conditions: the tied card's own: the package variables that the row lists (tied to the program's text in the pruned copy of the project; nothing is said of its other packages, commands or tests) read as listed; of 'internal/bytealg.MaxLen' nothing is asked. The statement is the full one, 'Rows.WorldApartCardSaid'.
-/
import Derived.Test.YthddphjghgdalaaGreatDoorP40
import Derived.Test.YthddphjghgdalaaGreatDoorP41
import Derived.Test.YthddphjghgdalaaGreatDoorWapartCardF
set_option maxRecDepth 100000
namespace Go.Proofs.YthddphjghgdalaaGreatDoor
open Go.Proofs.Tryz
open Go.ChangeShapes Go.WideShapes Go.ChangeAt Go.WideMaps Go.WideElems Go.RowKit
theorem vX (os:Os) (started:os.Started) (H:Type) (enc:TypeId × Value->H) :
  ReturnsInHanded {} Tryz.checked os 3 .any (fun w args=>(Rows.worldApartSpec.pre enc prog Tryz.f3 [] false w args/\laidMetH prog jv w)/\sizedMet enc prog Tryz.f3 (OpenSpec.ofChange Rows.worldApartSpec) false w args)
   (Rows.worldApartSpec.post enc prog Tryz.f3 false true false false):=by
 refine qw (C:=Tryz.checked) (X:=fun w _=>laidMetH prog jv w) (fun _ _ _ hh h=>h.of_heap hh) P8 started (by kernel_rfl) func3
  (ChangeSpec.witness_shaped (enc:=enc) (C:=Tryz.checked) (os:=os) (X:=fun w _=>laidMetH prog jv w) false (World.laidAll prog os jv) #[.agg #[.slice none 0 0,.slice none 0 0,.slice none 0 0,.slice none 0 0,.slice none 0 0,.slice none 0 0],.agg #[.int .i64 0,.int .i64 0,.int .i64 0,.slice none 0 0,.slice none 0 0]] 8 (World.laidAll_os _ _ _) (World.shaped_of_ZipB (by kernel_rfl) (by kernel_rfl)) (by kernel_rfl) (by kernel_rfl) (by kernel_rfl) (QJ os _)) ?_
 intro W base args ds gs before hval0 hW _ hsh hL;have hval:∀ (j:Nat) t v,Tryz.f3.params[j]?=some t->args[j]?=some v->Value.okWide prog W .any base t v:=hval0;have hW':=hW;obtain ⟨p,q,hA0,hV,rfl,hfz,hnd⟩:=hW;have hA:DataW.TrodAll enc prog W 0 (fun _=>true) true Tryz.f3.params.toList args.toList ds p:=hA0;rw[Tryz.params3] at hA hval;obtain ⟨v0,v1,d0,d1,p0,p1,rfl,rfl,rfl,h0,h1⟩:=trodAll_two hA;obtain ⟨rfl,rfl⟩:=trodVars_none hV;obtain ⟨c0,rfl,-⟩:=okWide_struct underlying30 (hval 0 30 v0 rfl rfl);obtain ⟨c1,rfl,-⟩:=okWide_struct underlying35 (hval 1 35 v1 rfl rfl);have hlt:∀ y ∈ p0++p1,y.block<W.heap.size:=fun y hy=>by simpa using hW'.lt y (by simpa using hy)
 clear hA0 hval0;simp only[VY] at hW'
 have D0:∃ x:WV,c0.toList=eo x/\gD W x:=by obtain ⟨fuel,hf⟩:=h0;exact JZ (by simpa [Value.cells] using hf)
 have D1:∃ x:HV,c1.toList=uO x/\qq W x:=by obtain ⟨fuel,hf⟩:=h1;exact qT (by simpa [Value.cells] using hf)
 obtain ⟨x0,e0,D0⟩:=D0;obtain rfl:c0=(eo x0).toArray:=by rw[<- e0]
 obtain ⟨x1,e1,D1⟩:=D1;obtain rfl:c1=(uO x1).toArray:=by rw[<- e1]
 refine (Bz x0 x1 W D0 D1 (uG hL hsh)).mono fun e W' ⟨he,hb⟩=>?_
 subst he;refine ⟨_,rfl,_,_,_,[],p0++p1,[],hW',trodAll_mk1 (shut_bool underlying4 _),?_,rfl,hb.frame _,fun h=>by cases h⟩
 exact trodAll_mk2 (Below.trod jD (by kernel_rfl) (XS (by kernel_rfl)) h0 hb (fun y hy=>hlt y (by simp[hy]))) (Below.trod jD (by kernel_rfl) (XS (by kernel_rfl)) h1 hb (fun y hy=>hlt y (by simp[hy])))
theorem wapart_holds:Rows.WorldApartSaid :=
 OpenClaim.holds_of_wide 3 Tryz.f3 rfl rfl rfl rfl rfl rfl rfl ⟨rfl,rfl,rfl,rfl,rfl⟩ rfl rfl rfl rfl rfl (by kernel_rfl) func3 GX
  (XS (by kernel_rfl)) (by unfold Func.isWrapper;first | (rw[VC (by decide +kernel)];kernel_rfl) | (rw[VD (by decide +kernel)];exact ⟨rfl,rfl⟩))
  (fun os started H enc _=>vX os started H enc)
theorem worldApart_holds:Rows.WorldApartCardSaid :=
 Claim7.holds_tied_plain_at .later [] [.data,.data,.data,.data,.data,.pinned] true (true, "c98cc06c3afee6af8be172c0f36aeef9a006c53ee95c49d329b53689307d84ca") false
  wapart_holds (fun _ h=>by cases h) (by kernel_rfl) (fun _ h=>by cases h) worldApart_row_tie rfl ⟨rfl,rfl⟩ GV rfl
  (fun f fn hf hfn=>by
   obtain rfl:f=3:=WU ((show prog.funcNamed "manyhands/manyhandslaw.WorldApart"=some 3 by kernel_rfl).symm.trans hf) |>.symm;obtain rfl:fn=Tryz.f3:=(WU (func3.symm.trans hfn)).symm;exact ⟨GW,fun j t ht=>by
    rw[Tryz.params3] at ht;have hm:t ∈ [30,35]:=by simpa using Array.mem_of_getElem? ht
    have hall:([30,35].all fun u=>!prog.wantsStandIn u)=true:=by kernel_rfl
    exact (show prog.wantsStandIn t=false by simpa using XR.1 hall t hm)⟩)
  GY
#print axioms worldApart_holds

/-
  ClientSays: whatever document, client, operation, number and message it is called with, the law returns true and leaves them as they were: any client is made, checked, does any operation, hears any message, as the document's own reckoning says, errors too; and the closed fact of the law holds.
  Conditions: the tied card's own: the package variable 'schemes' of package link (tied to the program's text in the pruned copy of the project; nothing is said of its other packages, commands or tests) reads as listed; of 'internal/bytealg.MaxLen' nothing is asked. The statement is the full one, 'Rows.ClientSaysCardSaid'.
-/
import Derived.Test.YtbhcklkbckacpaaGreatDoorYr
import Derived.Test.YtbhcklkbckacpaaGreatDoorYo
import Derived.Test.YtbhcklkbckacpaaGreatDoorDocLaid
import Derived.Test.YtbhcklkbckacpaaGreatDoorTie
import Derived.Test.YtbhcklkbckacpaaGreatDoorCards
import Derived.Test.YtbhcklkbckacpaaGreatDoorCsaysCardF
import Derived.SevenTiedAt
import Derived.Carry
namespace Go.Proofs.YtbhcklkbckacpaaGreatDoor
open Go.ChangeShapes Go.WideShapes Go.ChangeAt Go.WideMaps Go.WideElems Go.RowKit
theorem q3u {H:Type} {enc:TypeId × Value→H} {P:Program} {w:World} {base:Nat} {spare:Nat→Bool} {held:Bool} {t0 t1 t2 t3 t4:TypeId} {args:Array Value} {ds:List (DataW H)} {ps:List MemPlace} (h:DataW.TrodAll enc P w base spare held [t0,t1,t2,t3,t4] args.toList ds ps) :
  ∃ v0 v1 v2 v3 v4 d0 d1 d2 d3 d4 p0 p1 p2 p3 p4,args=#[v0,v1,v2,v3,v4]∧ds=[d0,d1,d2,d3,d4]∧ps=p0++(p1++(p2++(p3++p4)))∧DataW.Trod enc P w base spare held t0 v0 d0 p0∧DataW.Trod enc P w base spare held t1 v1 d1 p1∧DataW.Trod enc P w base spare held t2 v2 d2 p2∧DataW.Trod enc P w base spare held t3 v3 d3 p3∧DataW.Trod enc P w base spare held t4 v4 d4 p4:=by
 obtain ⟨v0,s0,d0,e0,p0,q0,hargs,rfl,rfl,h0,r0⟩:=trodAll_cons h
 obtain ⟨v1,s1,d1,e1,p1,q1,rfl,rfl,rfl,h1,r1⟩:=trodAll_cons r0
 obtain ⟨v2,s2,d2,e2,p2,q2,rfl,rfl,rfl,h2,r2⟩:=trodAll_cons r1
 obtain ⟨v3,s3,d3,e3,p3,q3,rfl,rfl,rfl,h3,r3⟩:=trodAll_cons r2
 obtain ⟨v4,s4,d4,e4,p4,q4,rfl,rfl,rfl,h4,r4⟩:=trodAll_cons r3
 obtain ⟨rfl,rfl,rfl⟩:=trodAll_nil r4
 exact ⟨v0,v1,v2,v3,v4,d0,d1,d2,d3,d4,p0,p1,p2,p3,p4,by cases args;simp_all,rfl,by simp,h0,h1,h2,h3,h4⟩
theorem q4q {H:Type} {enc:TypeId × Value→H} {P:Program} {w:World} {base:Nat} {spare:Nat→Bool} {held:Bool} {t0 t1 t2 t3 t4:TypeId} {v0 v1 v2 v3 v4:Value} {d0 d1 d2 d3 d4:DataW H} {p0 p1 p2 p3 p4:List MemPlace} (h0:DataW.Trod enc P w base spare held t0 v0 d0 p0) (h1:DataW.Trod enc P w base spare held t1 v1 d1 p1) (h2:DataW.Trod enc P w base spare held t2 v2 d2 p2) (h3:DataW.Trod enc P w base spare held t3 v3 d3 p3) (h4:DataW.Trod enc P w base spare held t4 v4 d4 p4) :
  DataW.TrodAll enc P w base spare held [t0,t1,t2,t3,t4] [v0,v1,v2,v3,v4] [d0,d1,d2,d3,d4] (p0++(p1++(p2++(p3++p4)))):=⟨p0,_,h0,trodAll_mk4 h1 h2 h3 h4,rfl⟩
set_option maxRecDepth 100000 in
theorem q5g (os:Os) (started:os.Started) (H:Type) (enc:TypeId × Value→H) :
  ReturnsInHanded {} Tryz.checked os 6 .any (fun w args=>(Rows.clientSaysSpec.pre enc Tryz.prog Tryz.f6 [] false w args∧laidMetH Tryz.prog q67 w)∧sizedMet enc Tryz.prog Tryz.f6 (OpenSpec.ofChange Rows.clientSaysSpec) false w args)
   (Rows.clientSaysSpec.post enc Tryz.prog Tryz.f6 false true false false):=by
 refine returnsInHanded_of_change_and (C:=Tryz.checked) (X:=fun w _=>laidMetH Tryz.prog q67 w) (fun _ _ _ hh h=>h.of_heap hh) own started (by kernel_rfl) Tryz.func6
  (ChangeSpec.witness_shaped (enc:=enc) (C:=Tryz.checked) (os:=os) (X:=fun w _=>laidMetH Tryz.prog q67 w) false (World.laidAll Tryz.prog os q67) #[.slice none 0 0,.agg #[.int .i64 0,.slice none 0 0,.slice none 0 0,.int .i64 0,.slice none 0 0,.slice none 0 0,.bool false],.slice none 0 0,.int .i64 0,.agg #[.int .i64 0,.int .i64 0,.int .i64 0,.slice none 0 0]] 8 (World.laidAll_os _ _ _) (World.shaped_of_ZipB (by kernel_rfl) (by kernel_rfl)) (by kernel_rfl) (by kernel_rfl) (by kernel_rfl) (met1 os _)) ?_
 intro W base args ds gs before hval0 hW _ _ hL _
 have hval:∀ (j:Nat) t v,Tryz.f6.params[j]?=some t→args[j]?=some v→Value.okWide Tryz.prog W .any base t v:=hval0
 have hW' := hW
 obtain ⟨p,q,hA0,hV,rfl,hfz,hnd⟩:=hW
 have hA:DataW.TrodAll enc Tryz.prog W 0 (fun _=>true) true Tryz.f6.params.toList args.toList ds p:=hA0
 rw[Tryz.params6] at hA hval
 obtain ⟨v0,v1,v2,v3,v4,d0,d1,d2,d3,d4,p0,p1,p2,p3,p4,rfl,rfl,rfl,h0,h1,h2,h3,h4⟩:=q3u hA
 obtain ⟨rfl,rfl⟩:=trodVars_none hV
 obtain ⟨a0,n0,c0,rfl⟩:=okWide_slice Tryz.underlying34 (hval 0 34 v0 rfl rfl)
 obtain ⟨c1,rfl,-⟩:=okWide_struct Tryz.underlying60 (hval 1 60 v1 rfl rfl)
 obtain ⟨a2,n2,c2,rfl⟩:=okWide_slice Tryz.underlying44 (hval 2 44 v2 rfl rfl)
 obtain ⟨i3,rfl⟩:=okWide_int Tryz.underlying3 (hval 3 3 v3 rfl rfl)
 obtain ⟨c4,rfl,-⟩:=okWide_struct Tryz.underlying62 (hval 4 62 v4 rfl rfl)
 have hlt:∀ y ∈ p0++(p1++(p2++(p3++p4))),y.block<W.heap.size:=fun y hy=>by simpa using hW'.lt y (by simpa using hy)
 clear hA0 hval0
 simp only[List.append_nil] at hW'
 have D0:∃ l,Doc W a0 n0 c0 l:=by obtain ⟨fuel,hf⟩:=h0;exact q27 Tryz.underlying34 (by simpa [Value.cells] using hf)
 have D1:∃ x:CV,c1.toList=cvC x∧Cli W x:=by obtain ⟨fuel,hf⟩:=h1;exact q9t (by simpa [Value.cells] using hf)
 have D2:∃ l,Ops W a2 n2 c2 l:=by obtain ⟨fuel,hf⟩:=h2;exact q26 Tryz.underlying44 (by simpa [Value.cells] using hf)
 have D4:∃ x:MV,c4.toList=mgC x∧(-9223372036854775808≤x.mr∧x.mr≤9223372036854775807)∧Ops W x.e.ao x.e.n x.e.cap x.e.vs:=by obtain ⟨fuel,hf⟩:=h4;exact q7v (by simpa [Value.cells] using hf)
 obtain ⟨l0,D0⟩:=D0
 obtain ⟨x1,e1,D1⟩:=D1
 obtain rfl:c1=(cvC x1).toArray:=by rw[← e1]
 obtain ⟨l2,D2⟩:=D2
 obtain ⟨x4,e4,D4⟩:=D4
 obtain rfl:c4=(mgC x4).toArray:=by rw[← e4]
 refine (q9q a0 n0 c0 l0 x1 a2 n2 c2 l2 i3 x4 W D0 D1 D2 D4 (of_laid hL)).mono fun e W' ⟨he,hb⟩=>?_
 subst he
 refine ⟨_,rfl,_,_,_,[],p0++(p1++(p2++(p3++p4))),[],hW',trodAll_mk1 (shut_bool Tryz.underlying4 _),?_,rfl,hb.frame _,fun h=>by cases h⟩
 exact q4q (Below.trod q2t (by kernel_rfl) (of_decide_eq_true (by kernel_rfl)) h0 hb (fun y hy=>hlt y (by simp[hy]))) (Below.trod q2t (by kernel_rfl) (of_decide_eq_true (by kernel_rfl)) h1 hb (fun y hy=>hlt y (by simp[hy]))) (Below.trod q2t (by kernel_rfl) (of_decide_eq_true (by kernel_rfl)) h2 hb (fun y hy=>hlt y (by simp[hy]))) (Below.trod q2t (by kernel_rfl) (of_decide_eq_true (by kernel_rfl)) h3 hb (fun y hy=>hlt y (by simp[hy]))) (Below.trod q2t (by kernel_rfl) (of_decide_eq_true (by kernel_rfl)) h4 hb (fun y hy=>hlt y (by simp[hy])))
theorem csays_holds:Rows.ClientSaysSaid :=
 OpenClaim.holds_of_wide 6 Tryz.f6 rfl rfl rfl rfl rfl rfl rfl ⟨rfl,rfl,rfl,rfl,rfl⟩ rfl rfl rfl rfl rfl (by kernel_rfl) Tryz.func6 qc0
  (of_decide_eq_true (by kernel_rfl)) (by unfold Func.isWrapper;first | (rw[if_pos (by decide +kernel)];kernel_rfl) | (rw[if_neg (by decide +kernel)];exact ⟨rfl,rfl⟩))
  (fun os started H enc _=>q5g os started H enc)
theorem clientSays_holds:Rows.ClientSaysCardSaid :=
 Claim7.holds_tied_plain_at .later [] [.data] true (true, "82d97f48944c5f9f30ab22310f317914aea937d8e5cea6f0706545cc9ef9aff8") true
  csays_holds (fun _ h=>by cases h) (by kernel_rfl) (fun _ h=>by cases h) clientSays_row_tie rfl ⟨rfl,rfl⟩ qby rfl
  (fun f fn hf hfn=>by
   obtain rfl:f=6:=Option.some.inj ((show Tryz.prog.funcNamed "manyhands/manyhandslaw.ClientSays"=some 6 by kernel_rfl).symm.trans hf) |>.symm
   obtain rfl:fn=Tryz.f6:=(Option.some.inj (Tryz.func6.symm.trans hfn)).symm
   exact ⟨qbz,fun j t ht=>by
    rw[Tryz.params6] at ht
    have hm:t ∈ [34,60,44,3,62]:=by simpa using Array.mem_of_getElem? ht
    have hall:([34,60,44,3,62].all fun u=>!Tryz.prog.wantsStandIn u)=true:=by kernel_rfl
    exact (show Tryz.prog.wantsStandIn t=false by simpa using List.all_eq_true.1 hall t hm)⟩)
  qc1
#print axioms clientSays_holds
end Go.Proofs.YtbhcklkbckacpaaGreatDoor

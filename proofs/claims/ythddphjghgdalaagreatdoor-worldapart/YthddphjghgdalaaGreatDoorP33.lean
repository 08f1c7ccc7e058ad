/- A part. -/
import Derived.Test.YthddphjghgdalaaGreatDoorP32
set_option maxRecDepth 100000
set_option maxHeartbeats 3200000
namespace Go.Proofs.YthddphjghgdalaaGreatDoor
open Go.RowKit Go.Proofs.Tryz
theorem Blk.under{w w':World}{g:Nat}{cs:List Value}{t:TypeId}(h:Blk w g cs t)(a:Below w.heap.size w w'):Blk w' g cs t:=(a.block g h.lt).trans h
theorem Blk.beside{w w':World}{g b:Nat}{cs:List Value}{t:TypeId}(h:Blk w g cs t)(c:Kept w w' [b])(a:g≠b):Blk w' g cs t:=c.aM h (by simpa using a)
def zT (w:World):World:=w.alloc (.cells (tQ Eg).toArray 147)
theorem xj(w:World):(zT w).heap.size=w.heap.size+1:=WO ..
theorem lX(w:World):Blk (zT w) w.heap.size (tQ Eg) 147:=Blk.new w (tQ Eg) 147
theorem bI(w:World):Below w.heap.size w (zT w):=(VE _ _).alloc (UZ _) _
theorem zQ{s:Bool}{u:List UInt8}(h:Tk.attr (u.dropWhile Tk.oP) none=none):Tk.tag s u=([],[]):=by unfold Tk.tag;rw[h]
theorem zP{s:Bool}{u r:List UInt8}{h:Option (List UInt8)}(e:Tk.attr (u.dropWhile Tk.oP) none=some (h,r)):Tk.tag s u=([⟨if s then 3 else 2,Lk.small (u.takeWhile Tk.oP),[],if s then[]else Esc.rd (h.getD [])⟩],r):=by unfold Tk.tag;rw[e]
def left (b:Nat) (w:World):Nat:=match w.cell? ⟨b,0,none⟩ with
 | some (.string s)=>s.size
 | _=>0
theorem jY{b:Nat}{w:World}{l:List UInt8}(h:Rd w b l):left b w=l.length:=by
 unfold left;rw[h.cell];exact cI l
theorem yX(p:UInt8->Bool):∀(l:List UInt8)(c:UInt8)(t:List UInt8),l.dropWhile p=c::t->p c=false
 |[],_,_,h=>by cases h
 |x::r,c,t,h=>by
  rw[WS]at h;split at h
  ·exact yX p r c t h
  ·cases h
   rename_i a;exact Bool.eq_false_iff.2 a
structure PS (w:World) (b rb tb:Nat) (kd:Int) (nm:List UInt8) (R:Option (Option (List UInt8) × List UInt8)) (m:Value) (wr:World) (l:List UInt8) (h:Option (List UInt8)):Prop where
 rest:Rd wr b l
 tok:Blk wr tb (tQ ⟨kd,nm,[],if kd=2 then Esc.rd (h.getD []) else []⟩) 147
 iM:Blk wr rb (tQ Eg) 147
 may:m=.bool (kd == 2&&h.isNone)
 go:Tk.attr l h=R
 len:l.length<=20000
 kept:Kept w wr [b]
 env:Env wr b
theorem Ru(b:Nat)(u:List UInt8)(w:World)(n:Rd w b u)(hE:Env w b)(hl:u.length<=20000):
  Calls prog 134 #[.pointer (some ⟨b,0,none⟩),.int .i64 2] w fun e w'=>∃k V a5,e=.returned (.tuple #[wC k,.bool V])/\Tk.tag false u=(if V then[k]else[],a5)/\Rd w' b a5/\Kept w w' [b]:=by
 obtain⟨R,ah⟩:∃R,Tk.attr (u.dropWhile Tk.oP) none=R:=⟨_,rfl⟩;have HR:=hId ah;clear ah;have b1:=n.lt;have R0:=hId (n.cu (bI w));have K0:Hd (Kept w (zT w) [b]):=Kept.of (bI w) _;have E0:=hId (hE.below (bI w));have S0:=hId (lX w);have d1:=Tk.cd Tk.oP u;have d2:=q9 Tk.oP u;clear n hE;go_enter func134,ntmps134
 go_wp2_with fail
 refine(gn [32,9,10,13,12,47,62] _).mono ?_
 rintro e w1⟨rfl,F,a⟩;have A1:Hd (Blk w1 (w.heap.size+1) [.string (B [32,9,10,13,12,47,62])] 9):=by rw[<-xj w];exact F
 have R1:=hId (R0.o.cu a);have K1:=hId (K0.o.cu a);have E1:=hId (E0.o.below a);have S1:=hId (S0.o.under a);clear F a;go_wp2_with fail
 refine(iy _ b (Tk.oP) [32,9,10,13,12,47,62] (u) w1 (fun c=>Tk.LU c) R1.o A1.o hl).mono ?_
 rintro e w2⟨rfl,n,d⟩;have R2:=hId n;have K2:=hId (K1.o.trans d);have E2:=hId (E1.o.kept d (UZ _));have S2:=hId (S1.o.beside d (by omega));clear n d;go_wp2_with fail
 refine(lY (u.takeWhile Tk.oP) w2 (by omega)).mono ?_
 rintro e X⟨rfl,a⟩;have R3:=hId (R2.o.cu a);have K3:=hId (K2.o.cu a);have E3:=hId (E2.o.below a);have S3:=hId (S2.o.under a);clear a;obtain⟨W,a8⟩:∃W,Lk.small (u.takeWhile Tk.oP)=W:=⟨_,rfl⟩;have HN:=hId a8;rw[a8];clear a8;have ax:=R3.o.lt;have ay:=S3.o.lt;go_wp2
 go_loopw [7] (fun m wr=>∃l h,PS w b w.heap.size X.heap.size 2 W R m wr l h) (fun _ wr=>left b wr)
 case atStart=>
  have a:=(VE X.heap.size X).alloc (UZ _) (.cells #[.int .i64 2,.string (B W),.string ⟨#[]⟩,.string ⟨#[]⟩] 147);exact⟨_,none,R3.o.cu a,Blk.new X (tQ ⟨2,W,[],[]⟩) 147,S3.o.under a,rfl,HR.o,by omega,K3.o.cu a,E3.o.below a⟩
 case round=>
  obtain⟨l,h,Y⟩:=hrel;have O:=hId Y.rest;have T:=hId Y.kept;have U:=hId Y.env;have S:=hId Y.iM;have Q:Hd (Blk wr X.heap.size (tQ ⟨2,W,[],Esc.rd (h.getD [])⟩) 147):=Y.tok;have J:=Y.len;have HG:=hId Y.go;have hm:u7=.bool (h.isNone):=Y.may;rw[hm];clear Y hm;have M:=hId (jY O.o);obtain⟨l1,a0⟩:∃l1,l.dropWhile Tk.sl=l1:=⟨_,rfl⟩;have HL:=hId a0;have N:Tk.attr l1 h=R:=by rw[<-a0,Tk.Fs];exact HG.o
  have ae:l1.length<=l.length:=by rw[<-a0];exact Tk.cd _ _
  clear a0
  cases l1 with
  |nil=>
   have hn:Tk.attr (u.dropWhile Tk.oP) none=none:=HR.o.trans N.symm;have HF:Hd (Tk.tag false u=([],[])):=zQ hn;clear hn N;go_wp2_with fail
   refine(dg [32,9,10,13,12,47] _).mono ?_
   rintro e p⟨rfl,F,a⟩;have E:Hd (Blk p _ [.string (B [32,9,10,13,12,47])] 9):=F;have z:=hId (O.o.cu a);have C:=hId (T.o.cu a);have D:=hId (U.o.below a);have s:=hId (S.o.under a);have r:=hId (Q.o.under a);clear F a;go_wp2_with fail
   refine(eK _ b (Tk.sl) [32,9,10,13,12,47] (l) p (fun c=>VQ _ (Tk.rz c)) z.o E.o J).mono ?_
   rintro e g⟨rfl,n,d⟩;have y:=hId n;have A:=hId (C.o.trans d);have I:=hId (D.o.kept d (UZ _));have i:=hId (s.o.beside d (by omega));have G:=hId (r.o.beside d (by omega));clear n d;have f:Hd (Rd g b []):=by rw[<-HL.o];exact y.o
   have Z:=f.o.cell;have e0:(B []).toList.isEmpty=true:=by rw[jn];rfl
   have s0:=i.o.c0;have am:=i.o.frozen 0;have s1:=i.o.c1;have al:=i.o.frozen 1;have s2:=i.o.c2;have ak:=i.o.frozen 2;have s3:=i.o.c3;have aj:=i.o.frozen 3;go_wp2
   change bodyPost prog _ _ Exit.ret _ (pB g w.heap.size Eg);exact VL (fU (k:=Eg) rfl _ rfl (fB i.o)) rfl ⟨Eg,false,[],rfl,HF.o,Rd.over f.o (bK _ _ _ _ (UY.2 rfl)) (by omega),A.o.bZ (bK _ _ _ _ (UY.2 rfl)) (fun x hx=>by rw[UY.1 hx];exact .inr (UZ _))⟩
  |cons c t=>
   simp only[VG]at ae
   have e0:(B (c::t)).toList.isEmpty=false:=by rw[jn];rfl
   have d3:=Tk.cd Tk.ej t;have d4:=q9 Tk.ej t;have d5:=Tk.wV (t.dropWhile Tk.ej);have d6:=Tk.B4 (t.dropWhile Tk.ej);by_cases a1:c=62
   ·subst a1;have hs:Tk.attr (u.dropWhile Tk.oP) none=some (h,t):=HR.o.trans N.symm;have HF:Hd (Tk.tag false u=([⟨2,Lk.small (u.takeWhile Tk.oP),[],Esc.rd (h.getD [])⟩],t)):=zP hs;rw[HN.o]at HF;clear hs N;go_wp2_with fail
    refine(dg [32,9,10,13,12,47] _).mono ?_
    rintro e p⟨rfl,F,a⟩;have E:Hd (Blk p _ [.string (B [32,9,10,13,12,47])] 9):=F;have z:=hId (O.o.cu a);have C:=hId (T.o.cu a);have D:=hId (U.o.below a);have s:=hId (S.o.under a);have r:=hId (Q.o.under a);clear F a;go_wp2_with fail
    refine(eK _ b (Tk.sl) [32,9,10,13,12,47] (l) p (fun c=>VQ _ (Tk.rz c)) z.o E.o J).mono ?_
    rintro e g⟨rfl,n,d⟩;have y:=hId n;have A:=hId (C.o.trans d);have I:=hId (D.o.kept d (UZ _));have i:=hId (s.o.beside d (by omega));have G:=hId (r.o.beside d (by omega));clear n d;have f:Hd (Rd g b (62::t)):=by rw[<-HL.o];exact y.o
    have Z:=f.o.cell;have b0:b≠w.heap.size:=by omega
    go_wp2_with fail
    refine(ie b (62::t) [62] g f.o (by simp[List.isPrefixOf])).mono ?_
    rintro e K⟨rfl,n,d⟩;have H:Hd (Rd K b (t)):=n;have L:=hId (A.o.trans d);have P:=hId (I.o.kept d (UZ _));have o:=hId (i.o.beside d (by omega));have q:=hId (G.o.beside d (by omega));clear n d;have s0:=o.o.c0;have am:=o.o.frozen 0;have s1:=o.o.c1;have al:=o.o.frozen 1;have s2:=o.o.c2;have ak:=o.o.frozen 2;have s3:=o.o.c3;have aj:=o.o.frozen 3;have t0:=q.o.c0;have t1:=q.o.c1;have t2:=q.o.c2;have t3:=q.o.c3;go_wp2
    change bodyPost prog _ _ Exit.ret _ (pB K w.heap.size ⟨2,W,[],Esc.rd (h.getD [])⟩);exact VL (fU (k:=⟨2,W,[],Esc.rd (h.getD [])⟩) rfl _ rfl (fB o.o)) rfl ⟨⟨2,W,[],Esc.rd (h.getD [])⟩,true,t,rfl,HF.o,Rd.over H.o (bK _ _ _ _ (UY.2 rfl)) (by omega),L.o.bZ (bK _ _ _ _ (UY.2 rfl)) (fun x hx=>by rw[UY.1 hx];exact .inr (UZ _))⟩
   ·have hp:([62]:List UInt8).isPrefixOf (c::t)=false:=by
     have:((62:UInt8)==c)=false:=by simpa using(fun e=>a1 e.symm)
     simp[List.isPrefixOf,this]
    have HP:=hId hp;have ag:=yX Tk.sl l c t HL.o;have HA:Hd (Tk.attr (Tk.mX (t.dropWhile Tk.ej)) (if Lk.small (c::t.takeWhile Tk.ej)==Tk.nL&&h.isNone then some (Tk.value (t.dropWhile Tk.ej)).1 else h)=R):=by
     rw[<-Tk.Ft c t h (by simpa using a1) ag];exact N
    clear hp ag N a1
    cases h with
    |some x=>
     rw[show(if Lk.small (c::t.takeWhile Tk.ej)==Tk.nL&&(some x).isNone then some (Tk.value (t.dropWhile Tk.ej)).1 else some x)=some x by simp]at HA;go_wp2_with fail
     refine(dg [32,9,10,13,12,47] _).mono ?_
     rintro e p⟨rfl,F,a⟩;have E:Hd (Blk p _ [.string (B [32,9,10,13,12,47])] 9):=F;have z:=hId (O.o.cu a);have C:=hId (T.o.cu a);have D:=hId (U.o.below a);have s:=hId (S.o.under a);have r:=hId (Q.o.under a);clear F a;go_wp2_with fail
     refine(eK _ b (Tk.sl) [32,9,10,13,12,47] (l) p (fun c=>VQ _ (Tk.rz c)) z.o E.o J).mono ?_
     rintro e g⟨rfl,n,d⟩;have y:=hId n;have A:=hId (C.o.trans d);have I:=hId (D.o.kept d (UZ _));have i:=hId (s.o.beside d (by omega));have G:=hId (r.o.beside d (by omega));clear n d;have f:Hd (Rd g b (c::t)):=by rw[<-HL.o];exact y.o
     have Z:=f.o.cell;go_wp2_with fail
     refine(fq b (c::t) [62] g f.o HP.o).mono ?_
     rintro e a4⟨rfl,hw⟩;rw[hw];clear hw;go_wp2_with fail
     refine(qh b c t g f.o (by omega)).mono ?_
     rintro e K⟨rfl,n,d⟩;have H:=hId n;have L:=hId (A.o.trans d);have P:=hId (I.o.kept d (UZ _));have o:=hId (i.o.beside d (by omega));have q:=hId (G.o.beside d (by omega));clear n d;go_wp2
     go_roundw
     case rel=>exact⟨_,some x,H.o,q.o,o.o,rfl,HA.o,by omega,L.o,P.o⟩
     case measure=>
      rw[jY H.o,M.o];omega
    |none=>
     obtain⟨sm,a7⟩:∃sm,Lk.small (c::t.takeWhile Tk.ej)=sm:=⟨_,rfl⟩;obtain⟨v,hv⟩:∃v,(Tk.value (t.dropWhile Tk.ej)).1=v:=⟨_,rfl⟩;have HS:=hId a7;have HV:=hId hv;rw[a7,hv]at HA;rw[hv]at d6;clear a7 hv;have hq:((B sm).toList==[104,114,101,102])=(sm==Tk.nL):=by
      rw[jn];rfl
     cases a9:(sm==Tk.nL)
     all_goals rw[a9]at hq HA
     ·clear a9;rw[show(if false&&(none:Option (List UInt8)).isNone then some v else none)=none from rfl]at HA;go_wp2_with fail
      refine(dg [32,9,10,13,12,47] _).mono ?_
      rintro e p⟨rfl,F,a⟩;have E:Hd (Blk p _ [.string (B [32,9,10,13,12,47])] 9):=F;have z:=hId (O.o.cu a);have C:=hId (T.o.cu a);have D:=hId (U.o.below a);have s:=hId (S.o.under a);have r:=hId (Q.o.under a);clear F a;go_wp2_with fail
      refine(eK _ b (Tk.sl) [32,9,10,13,12,47] (l) p (fun c=>VQ _ (Tk.rz c)) z.o E.o J).mono ?_
      rintro e g⟨rfl,n,d⟩;have y:=hId n;have A:=hId (C.o.trans d);have I:=hId (D.o.kept d (UZ _));have i:=hId (s.o.beside d (by omega));have G:=hId (r.o.beside d (by omega));clear n d;have f:Hd (Rd g b (c::t)):=by rw[<-HL.o];exact y.o
      have Z:=f.o.cell;go_wp2_with fail
      refine(fq b (c::t) [62] g f.o HP.o).mono ?_
      rintro e a4⟨rfl,hw⟩;rw[hw];clear hw;go_wp2_with fail
      refine(qh b c t g f.o (by omega)).mono ?_
      rintro e K⟨rfl,n,d⟩;have H:=hId n;have L:=hId (A.o.trans d);have P:=hId (I.o.kept d (UZ _));have o:=hId (i.o.beside d (by omega));have q:=hId (G.o.beside d (by omega));clear n d;rw[HV.o];go_wp2_with fail
      refine(lY (c::t.takeWhile Tk.ej) K (by simp only[VG];omega)).mono ?_
      rintro e af⟨rfl,a⟩;have a2:=hId (H.o.cu a);have ad:=hId (L.o.cu a);have a3:=hId (P.o.below a);have ac:=hId (o.o.under a);have ab:=hId (q.o.under a);clear a;rw[HS.o];go_wp2
      go_roundw
      case rel=>exact⟨_,none,a2.o,ab.o,ac.o,rfl,HA.o,by omega,ad.o,a3.o⟩
      case measure=>
       rw[jY a2.o,M.o];omega
     ·clear a9;rw[show(if true&&(none:Option (List UInt8)).isNone then some v else none)=some v from rfl]at HA;go_wp2_with fail
      refine(dg [32,9,10,13,12,47] _).mono ?_
      rintro e p⟨rfl,F,a⟩;have E:Hd (Blk p _ [.string (B [32,9,10,13,12,47])] 9):=F;have z:=hId (O.o.cu a);have C:=hId (T.o.cu a);have D:=hId (U.o.below a);have s:=hId (S.o.under a);have r:=hId (Q.o.under a);clear F a;go_wp2_with fail
      refine(eK _ b (Tk.sl) [32,9,10,13,12,47] (l) p (fun c=>VQ _ (Tk.rz c)) z.o E.o J).mono ?_
      rintro e g⟨rfl,n,d⟩;have y:=hId n;have A:=hId (C.o.trans d);have I:=hId (D.o.kept d (UZ _));have i:=hId (s.o.beside d (by omega));have G:=hId (r.o.beside d (by omega));clear n d;have f:Hd (Rd g b (c::t)):=by rw[<-HL.o];exact y.o
      have Z:=f.o.cell;go_wp2_with fail
      refine(fq b (c::t) [62] g f.o HP.o).mono ?_
      rintro e a4⟨rfl,hw⟩;rw[hw];clear hw;go_wp2_with fail
      refine(qh b c t g f.o (by omega)).mono ?_
      rintro e K⟨rfl,n,d⟩;have H:=hId n;have L:=hId (A.o.trans d);have P:=hId (I.o.kept d (UZ _));have o:=hId (i.o.beside d (by omega));have q:=hId (G.o.beside d (by omega));clear n d;rw[HV.o];go_wp2_with fail
      refine(lY (c::t.takeWhile Tk.ej) K (by simp only[VG];omega)).mono ?_
      rintro e af⟨rfl,a⟩;have a2:=hId (H.o.cu a);have ad:=hId (L.o.cu a);have a3:=hId (P.o.below a);have ac:=hId (o.o.under a);have ab:=hId (q.o.under a);clear a;rw[HS.o];go_wp2_with fail
      refine(v8 v af a3.o.uB (by omega)).mono ?_
      rintro e a6⟨rfl,a⟩;have aq:=hId (a2.o.cu a);have au:=hId (ad.o.cu a);have aw:=hId (a3.o.below a);have ap:=hId (ac.o.under a);have aa:=hId (ab.o.under a);clear a;have t3:=aa.o.c3;have az:=aa.o.frozen 3;have hk:Kept a6 (a6.setCell ⟨X.heap.size,3,none⟩ (.string (B (Esc.rd v)))) [X.heap.size]:=(Kept.refl _ _).setCell _ _ (.inl (UY.2 rfl));have ai:=hId (aq.o.over hk (by omega));have ao:=hId (ap.o.beside hk (by omega));have an:Hd (Blk (a6.setCell ⟨X.heap.size,3,none⟩ (.string (B (Esc.rd v)))) X.heap.size (tQ ⟨2,W,[],Esc.rd v⟩) 147):=aa.o.set 3 _;have ar:=hId (au.o.bZ hk (fun x hx=>by rw[UY.1 hx];exact .inr (by omega)));have av:=hId (aw.o.kept hk (by omega));clear hk;go_wp2
      go_roundw
      case rel=>exact⟨_,some v,ai.o,an.o,ao.o,rfl,HA.o,by omega,ar.o,av.o⟩
      case measure=>
       rw[jY ai.o,M.o];omega
theorem Rt(b:Nat)(u:List UInt8)(w:World)(n:Rd w b u)(hE:Env w b)(hl:u.length<=20000):
  Calls prog 134 #[.pointer (some ⟨b,0,none⟩),.int .i64 3] w fun e w'=>∃k H Q,e=.returned (.tuple #[wC k,.bool H])/\Tk.tag true u=(if H then[k]else[],Q)/\Rd w' b Q/\Kept w w' [b]:=by
 obtain⟨R,a3⟩:∃R,Tk.attr (u.dropWhile Tk.oP) none=R:=⟨_,rfl⟩;have HR:=hId a3;clear a3;have ac:=n.lt;have R0:=hId (n.cu (bI w));have K0:Hd (Kept w (zT w) [b]):=Kept.of (bI w) _;have E0:=hId (hE.below (bI w));have S0:=hId (lX w);have d1:=Tk.cd Tk.oP u;have d2:=q9 Tk.oP u;clear n hE;go_enter func134,ntmps134
 go_wp2_with fail
 refine(gn [32,9,10,13,12,47,62] _).mono ?_
 rintro e w1⟨rfl,s,a⟩;have A1:Hd (Blk w1 (w.heap.size+1) [.string (B [32,9,10,13,12,47,62])] 9):=by rw[<-xj w];exact s
 have R1:=hId (R0.o.cu a);have K1:=hId (K0.o.cu a);have E1:=hId (E0.o.below a);have S1:=hId (S0.o.under a);clear s a;go_wp2_with fail
 refine(iy _ b (Tk.oP) [32,9,10,13,12,47,62] (u) w1 (fun c=>Tk.LU c) R1.o A1.o hl).mono ?_
 rintro e w2⟨rfl,n,d⟩;have R2:=hId n;have K2:=hId (K1.o.trans d);have E2:=hId (E1.o.kept d (UZ _));have S2:=hId (S1.o.beside d (by omega));clear n d;go_wp2_with fail
 refine(lY (u.takeWhile Tk.oP) w2 (by omega)).mono ?_
 rintro e w3⟨rfl,a⟩;have R3:=hId (R2.o.cu a);have K3:=hId (K2.o.cu a);have E3:=hId (E2.o.below a);have S3:=hId (S2.o.under a);clear a;obtain⟨I,T⟩:∃I,Lk.small (u.takeWhile Tk.oP)=I:=⟨_,rfl⟩;have HN:=hId T;rw[T];clear T;have aa:=R3.o.lt;go_wp2
 go_loopw [7] (fun m wr=>∃l h,PS w b w.heap.size w3.heap.size 3 I R m wr l h) (fun _ wr=>left b wr)
 case atStart=>
  have a:=(VE w3.heap.size w3).alloc (UZ _) (.cells #[.int .i64 3,.string (B I),.string ⟨#[]⟩,.string ⟨#[]⟩] 147);exact⟨_,none,R3.o.cu a,Blk.new w3 (tQ ⟨3,I,[],[]⟩) 147,S3.o.under a,rfl,HR.o,by omega,K3.o.cu a,E3.o.below a⟩
 case round=>
  obtain⟨l,h,J⟩:=hrel;have O:=hId J.rest;have X:=hId J.kept;have Y:=hId J.env;have V:=hId J.iM;have U:Hd (Blk wr w3.heap.size (tQ ⟨3,I,[],[]⟩) 147):=J.tok;have G:=J.len;have HG:=hId J.go;have hm:u7=.bool (false):=J.may;rw[hm];clear J hm;have a0:=hId (jY O.o);obtain⟨l1,K⟩:∃l1,l.dropWhile Tk.sl=l1:=⟨_,rfl⟩;have HL:=hId K;have q:Tk.attr l1 h=R:=by rw[<-K,Tk.Fs];exact HG.o
  have Z:l1.length<=l.length:=by rw[<-K];exact Tk.cd _ _
  clear K
  cases l1 with
  |nil=>
   have hn:Tk.attr (u.dropWhile Tk.oP) none=none:=HR.o.trans q.symm;have HF:Hd (Tk.tag true u=([],[])):=zQ hn;clear hn q;go_wp2_with fail
   refine(dg [32,9,10,13,12,47] _).mono ?_
   rintro e p⟨rfl,s,a⟩;have F:Hd (Blk p _ [.string (B [32,9,10,13,12,47])] 9):=s;have A:=hId (O.o.cu a);have D:=hId (X.o.cu a);have E:=hId (Y.o.below a);have y:=hId (V.o.under a);have v:=hId (U.o.under a);clear s a;go_wp2_with fail
   refine(eK _ b (Tk.sl) [32,9,10,13,12,47] (l) p (fun c=>VQ _ (Tk.rz c)) A.o F.o G).mono ?_
   rintro e o⟨rfl,n,d⟩;have z:=hId n;have C:=hId (D.o.trans d);have P:=hId (E.o.kept d (UZ _));have g:=hId (y.o.beside d (by omega));have M:=hId (v.o.beside d (by omega));clear n d;have f:Hd (Rd o b []):=by rw[<-HL.o];exact z.o
   have a1:=f.o.cell;have e0:(B []).toList.isEmpty=true:=by rw[jn];rfl
   have s0:=g.o.c0;have a8:=g.o.frozen 0;have s1:=g.o.c1;have a7:=g.o.frozen 1;have s2:=g.o.c2;have a6:=g.o.frozen 2;have s3:=g.o.c3;have a5:=g.o.frozen 3;go_wp2
   change bodyPost prog _ _ Exit.ret _ (pB o w.heap.size Eg);exact VL (fU (k:=Eg) rfl _ rfl (fB g.o)) rfl ⟨Eg,false,[],rfl,HF.o,Rd.over f.o (bK _ _ _ _ (UY.2 rfl)) (by omega),C.o.bZ (bK _ _ _ _ (UY.2 rfl)) (fun x hx=>by rw[UY.1 hx];exact .inr (UZ _))⟩
  |cons c t=>
   simp only[VG]at Z
   have e0:(B (c::t)).toList.isEmpty=false:=by rw[jn];rfl
   have d3:=Tk.cd Tk.ej t;have d5:=Tk.wV (t.dropWhile Tk.ej);by_cases L:c=62
   ·subst L;have hs:Tk.attr (u.dropWhile Tk.oP) none=some (h,t):=HR.o.trans q.symm;have HF:Hd (Tk.tag true u=([⟨3,Lk.small (u.takeWhile Tk.oP),[],[]⟩],t)):=zP hs;rw[HN.o]at HF;clear hs q;go_wp2_with fail
    refine(dg [32,9,10,13,12,47] _).mono ?_
    rintro e p⟨rfl,s,a⟩;have F:Hd (Blk p _ [.string (B [32,9,10,13,12,47])] 9):=s;have A:=hId (O.o.cu a);have D:=hId (X.o.cu a);have E:=hId (Y.o.below a);have y:=hId (V.o.under a);have v:=hId (U.o.under a);clear s a;go_wp2_with fail
    refine(eK _ b (Tk.sl) [32,9,10,13,12,47] (l) p (fun c=>VQ _ (Tk.rz c)) A.o F.o G).mono ?_
    rintro e o⟨rfl,n,d⟩;have z:=hId n;have C:=hId (D.o.trans d);have P:=hId (E.o.kept d (UZ _));have g:=hId (y.o.beside d (by omega));have M:=hId (v.o.beside d (by omega));clear n d;have f:Hd (Rd o b (62::t)):=by rw[<-HL.o];exact z.o
    have a1:=f.o.cell;have ab:b≠w.heap.size:=by omega
    go_wp2_with fail
    refine(ie b (62::t) [62] o f.o (by simp[List.isPrefixOf])).mono ?_
    rintro e S⟨rfl,n,d⟩;have N:Hd (Rd S b (t)):=n;have W:=hId (C.o.trans d);have a4:=hId (P.o.kept d (UZ _));have i:=hId (g.o.beside d (by omega));have r:=hId (M.o.beside d (by omega));clear n d;have s0:=i.o.c0;have a8:=i.o.frozen 0;have s1:=i.o.c1;have a7:=i.o.frozen 1;have s2:=i.o.c2;have a6:=i.o.frozen 2;have s3:=i.o.c3;have a5:=i.o.frozen 3;have t0:=r.o.c0;have t1:=r.o.c1;have t2:=r.o.c2;have t3:=r.o.c3;go_wp2
    change bodyPost prog _ _ Exit.ret _ (pB S w.heap.size ⟨3,I,[],[]⟩);exact VL (fU (k:=⟨3,I,[],[]⟩) rfl _ rfl (fB i.o)) rfl ⟨⟨3,I,[],[]⟩,true,t,rfl,HF.o,Rd.over N.o (bK _ _ _ _ (UY.2 rfl)) (by omega),W.o.bZ (bK _ _ _ _ (UY.2 rfl)) (fun x hx=>by rw[UY.1 hx];exact .inr (UZ _))⟩
   ·have hp:([62]:List UInt8).isPrefixOf (c::t)=false:=by
     have:((62:UInt8)==c)=false:=by simpa using(fun e=>L e.symm)
     simp[List.isPrefixOf,this]
    have HP:=hId hp;have a2:=yX Tk.sl l c t HL.o;have HA:Hd (Tk.attr (Tk.mX (t.dropWhile Tk.ej)) (if Lk.small (c::t.takeWhile Tk.ej)==Tk.nL&&h.isNone then some (Tk.value (t.dropWhile Tk.ej)).1 else h)=R):=by
     rw[<-Tk.Ft c t h (by simpa using L) a2];exact q
    clear hp a2 q L;go_wp2_with fail
    refine(dg [32,9,10,13,12,47] _).mono ?_
    rintro e p⟨rfl,s,a⟩;have F:Hd (Blk p _ [.string (B [32,9,10,13,12,47])] 9):=s;have A:=hId (O.o.cu a);have D:=hId (X.o.cu a);have E:=hId (Y.o.below a);have y:=hId (V.o.under a);have v:=hId (U.o.under a);clear s a;go_wp2_with fail
    refine(eK _ b (Tk.sl) [32,9,10,13,12,47] (l) p (fun c=>VQ _ (Tk.rz c)) A.o F.o G).mono ?_
    rintro e o⟨rfl,n,d⟩;have z:=hId n;have C:=hId (D.o.trans d);have P:=hId (E.o.kept d (UZ _));have g:=hId (y.o.beside d (by omega));have M:=hId (v.o.beside d (by omega));clear n d;have f:Hd (Rd o b (c::t)):=by rw[<-HL.o];exact z.o
    have a1:=f.o.cell;go_wp2_with fail
    refine(fq b (c::t) [62] o f.o HP.o).mono ?_
    rintro e a9⟨rfl,hw⟩;rw[hw];clear hw;go_wp2_with fail
    refine(qh b c t o f.o (by omega)).mono ?_
    rintro e S⟨rfl,n,d⟩;have N:=hId n;have W:=hId (C.o.trans d);have a4:=hId (P.o.kept d (UZ _));have i:=hId (g.o.beside d (by omega));have r:=hId (M.o.beside d (by omega));clear n d;go_wp2
    go_roundw
    case rel=>exact⟨_,_,N.o,r.o,i.o,rfl,HA.o,by omega,W.o,a4.o⟩
    case measure=>
     rw[jY N.o,a0.o];omega
theorem CX(b:Nat)(c:UInt8)(t:List UInt8)(w:World)(g:Rd w b (c::t))(q:Env w b)(hl:t.length<=19999)(o:((c.toNat:Int)!=60)=true):
  Calls prog 108 #[.pointer (some ⟨b,0,none⟩)] w fun e w'=>e=.returned (.tuple #[wC (Tk.ou (Esc.rd ((c::t).takeWhile (Tk.not 60)))),.bool true])/\Rd w' b ((c::t).dropWhile (Tk.not 60))/\Kept w w' [b]:=by
 have V:=g.lt;have r0:=g.cell;have G:=hId (g.cu (bI w));have K:Hd (Kept w (zT w) [b]):=Kept.of (bI w) _;have O:=hId (q.below (bI w));have C:=hId (lX w);have i:=cI (c::t);have n:=aq (B (c::t)) 0 (by rw[i];simp);have a:(B (c::t))[0]'(by rw[i];simp)=c:=by simp[B,WZ]
 rw[a]at n;have s:((((B (c::t))[0]'(by rw[i];simp)).toNat:Int)!=60)=true:=by rw[a];exact o
 simp only[VG]at i
 clear g q a;have y:=q9 (Tk.not 60) (c::t);simp only[VG]at y
 obtain⟨x,h⟩:∃x,Esc.rd ((c::t).takeWhile (Tk.not 60))=x:=⟨_,rfl⟩;have L:=hId h;rw[h];clear h;go_enter func108,ntmps108
 go_wp2_with fail
 refine(gn [60] _).mono ?_
 rintro e p⟨rfl,r,d⟩;have P:Hd (Blk p (w.heap.size+1) [.string (B [60])] 9):=by rw[<-xj w];exact r
 have F:=hId (G.o.cu d);have J:=hId (K.o.cu d);have N:=hId (O.o.below d);have A:=hId (C.o.under d);clear r d;go_wp2_with fail
 refine(iy _ b (Tk.not 60) [60] (c::t) p (fun c=>Tk.DS 60 c) F.o P.o (by simp only[VG];omega)).mono ?_
 rintro e v⟨rfl,g,l⟩;have E:=hId g;have I:=hId (J.o.trans l);have M:=hId (N.o.kept l (UZ _));have z:=hId (A.o.beside l (by omega));clear g l;go_wp2_with fail
 refine(zH ((c::t).takeWhile (Tk.not 60)) v M.o.uB (by omega)).mono ?_
 rintro e u⟨rfl,d⟩;have D:=hId (E.o.cu d);have H:=hId (I.o.cu d);have f:=hId (z.o.under d);clear d;rw[L.o];unfold wC Tk.ou;simp only
 have Z:=f.o.c0;have U:=f.o.frozen 0;have Y:=f.o.c1;have T:=f.o.frozen 1;have X:=f.o.c2;have S:=f.o.frozen 2;have W:=f.o.c3;have Q:=f.o.frozen 3;have m:b≠w.heap.size:=by omega
 go_wp2
 change bodyPost prog _ _ Exit.ret _ (pB u w.heap.size (Tk.ou x));exact VL (fU (k:=(Tk.ou x)) rfl _ rfl (fB f.o)) rfl ⟨rfl,Rd.over D.o (bK _ _ _ _ (UY.2 rfl)) m,H.o.bZ (bK _ _ _ _ (UY.2 rfl)) (fun x h=>by rw[UY.1 h];exact .inr (UZ _))⟩
theorem vZ(b:Nat)(t:List UInt8)(w:World)(c:Rd w b (60::t))(o:Env w b)(V:t.length<=19999)(h:([60,33,45,45]:List UInt8).isPrefixOf (60::t)=true):
  Calls prog 108 #[.pointer (some ⟨b,0,none⟩)] w fun e w'=>e=.returned (.tuple #[wC Tk.mh,.bool true])/\Rd w' b ((Tk.after [45,45,62] (t.drop 3)).getD [])/\Kept w w' [b]:=by
 have O:=c.lt;have U:=c.cell;have p:=hId (c.cu (bI w));have F:Hd (Kept w (zT w) [b]):=Kept.of (bI w) _;have I:=hId (o.below (bI w));have z:=hId (lX w);have g:=cI (60::t);have l:=aq (B (60::t)) 0 (by rw[g];simp);have a:(B (60::t))[0]'(by rw[g];simp)=60:=by simp[B,WZ]
 rw[a]at l;have q:((((B (60::t))[0]'(by rw[g];simp)).toNat:Int)!=60)=false:=by rw[a];rfl
 simp only[VG]at g
 clear c o a;have N:3<=t.length:=by have:=(List.isPrefixOf_iff_prefix.1 h).length_le;simp at this;omega
 have v:(t.drop 3).length<=20000:=by simp;omega
 have G:=hId h;clear h;go_enter func108,ntmps108
 go_wp2_with fail
 refine(bS b (60::t) [60,33,45,45] _ p.o).mono ?_
 rintro e r⟨rfl,n⟩;rw[n,G.o];clear n r;go_wp2_with fail
 refine(fp b 4 (60::t) _ p.o (by simp;omega)).mono ?_
 rintro e m⟨rfl,c,f⟩;have C:Hd (Rd m b (t.drop 3)):=c;have E:=hId (F.o.trans f);have H:=hId (I.o.kept f (UZ _));have y:=hId (z.o.beside f (by omega));clear c f;go_wp2_with fail
 refine(mu b (t.drop 3) [45,45,62] m C.o H.o v (by simp)).mono ?_
 rintro e s⟨rfl,c,f⟩;have A:=hId c;have D:=hId (E.o.trans f);have d:=hId (y.o.beside f (by omega));clear c f;have T:=d.o.c0;have M:=d.o.frozen 0;have S:=d.o.c1;have L:=d.o.frozen 1;have Q:=d.o.c2;have K:=d.o.frozen 2;have P:=d.o.c3;have J:=d.o.frozen 3;have i:b≠w.heap.size:=by omega
 go_wp2
 change bodyPost prog _ _ Exit.ret _ (pB s w.heap.size Tk.mh);exact VL (fU (k:=Tk.mh) rfl _ rfl (fB d.o)) rfl ⟨rfl,Rd.over A.o (bK _ _ _ _ (UY.2 rfl)) i,D.o.bZ (bK _ _ _ _ (UY.2 rfl)) (fun x u=>by rw[UY.1 u];exact .inr (UZ _))⟩
theorem Cb(b:Nat)(t:List UInt8)(w:World)(d:Rd w b (60::t))(o:Env w b)(P:t.length<=19999)(q:([60,33,45,45]:List UInt8).isPrefixOf (60::t)=false)(p:([60,33]:List UInt8).isPrefixOf (60::t)=true):
  Calls prog 108 #[.pointer (some ⟨b,0,none⟩)] w fun e w'=>e=.returned (.tuple #[wC Tk.mh,.bool true])/\Rd w' b ((Tk.after [62] (60::t)).getD [])/\Kept w w' [b]:=by
 have J:=d.lt;have O:=d.cell;have l:=hId (d.cu (bI w));have A:Hd (Kept w (zT w) [b]):=Kept.of (bI w) _;have E:=hId (o.below (bI w));have v:=hId (lX w);have g:=cI (60::t);have n:=aq (B (60::t)) 0 (by rw[g];simp);have a:(B (60::t))[0]'(by rw[g];simp)=60:=by simp[B,WZ]
 rw[a]at n;have r:((((B (60::t))[0]'(by rw[g];simp)).toNat:Int)!=60)=false:=by rw[a];rfl
 simp only[VG]at g
 clear d o a;have D:=hId q;have C:=hId p;clear q p;go_enter func108,ntmps108
 go_wp2_with fail
 refine(bS b (60::t) [60,33,45,45] _ l.o).mono ?_
 rintro e h⟨rfl,f⟩;rw[f,D.o];clear f h;go_wp2_with fail
 refine(bS b (60::t) [60,33] _ l.o).mono ?_
 rintro e h⟨rfl,f⟩;rw[f,C.o];clear f h;go_wp2_with fail
 refine(mu b (60::t) [62] _ l.o E.o (by simp only[VG];omega) (by simp)).mono ?_
 rintro e s⟨rfl,d,i⟩;have y:=hId d;have z:=hId (A.o.trans i);have c:=hId (v.o.beside i (by omega));clear d i;have N:=c.o.c0;have I:=c.o.frozen 0;have M:=c.o.c1;have H:=c.o.frozen 1;have L:=c.o.c2;have G:=c.o.frozen 2;have K:=c.o.c3;have F:=c.o.frozen 3;have m:b≠w.heap.size:=by omega
 go_wp2
 change bodyPost prog _ _ Exit.ret _ (pB s w.heap.size Tk.mh);exact VL (fU (k:=Tk.mh) rfl _ rfl (fB c.o)) rfl ⟨rfl,Rd.over y.o (bK _ _ _ _ (UY.2 rfl)) m,z.o.bZ (bK _ _ _ _ (UY.2 rfl)) (fun x u=>by rw[UY.1 u];exact .inr (UZ _))⟩
theorem zC(b:Nat)(t:List UInt8)(w:World)(f:Rd w b (60::t))(o:Env w b)(S:t.length<=19999)(r:([60,33,45,45]:List UInt8).isPrefixOf (60::t)=false)(q:([60,33]:List UInt8).isPrefixOf (60::t)=false)(p:([60,63]:List UInt8).isPrefixOf (60::t)=true):
  Calls prog 108 #[.pointer (some ⟨b,0,none⟩)] w fun e w'=>e=.returned (.tuple #[wC Tk.mh,.bool true])/\Rd w' b ((Tk.after [62] (60::t)).getD [])/\Kept w w' [b]:=by
 have L:=f.lt;have Q:=f.cell;have i:=hId (f.cu (bI w));have C:Hd (Kept w (zT w) [b]):=Kept.of (bI w) _;have G:=hId (o.below (bI w));have y:=hId (lX w);have h:=cI (60::t);have n:=aq (B (60::t)) 0 (by rw[h];simp);have a:(B (60::t))[0]'(by rw[h];simp)=60:=by simp[B,WZ]
 rw[a]at n;have s:((((B (60::t))[0]'(by rw[h];simp)).toNat:Int)!=60)=false:=by rw[a];rfl
 simp only[VG]at h
 clear f o a;have F:=hId r;have E:=hId q;have D:=hId p;clear r q p;go_enter func108,ntmps108
 go_wp2_with fail
 refine(bS b (60::t) [60,33,45,45] _ i.o).mono ?_
 rintro e g⟨rfl,d⟩;rw[d,F.o];clear d g;go_wp2_with fail
 refine(bS b (60::t) [60,33] _ i.o).mono ?_
 rintro e g⟨rfl,d⟩;rw[d,E.o];clear d g;go_wp2_with fail
 refine(bS b (60::t) [60,63] _ i.o).mono ?_
 rintro e g⟨rfl,d⟩;rw[d,D.o];clear d g;go_wp2_with fail
 refine(mu b (60::t) [62] _ i.o G.o (by simp only[VG];omega) (by simp)).mono ?_
 rintro e u⟨rfl,f,l⟩;have z:=hId f;have A:=hId (C.o.trans l);have c:=hId (y.o.beside l (by omega));clear f l;have P:=c.o.c0;have K:=c.o.frozen 0;have O:=c.o.c1;have J:=c.o.frozen 1;have N:=c.o.c2;have I:=c.o.frozen 2;have M:=c.o.c3;have H:=c.o.frozen 3;have m:b≠w.heap.size:=by omega
 go_wp2
 change bodyPost prog _ _ Exit.ret _ (pB u w.heap.size Tk.mh);exact VL (fU (k:=Tk.mh) rfl _ rfl (fB c.o)) rfl ⟨rfl,Rd.over z.o (bK _ _ _ _ (UY.2 rfl)) m,A.o.bZ (bK _ _ _ _ (UY.2 rfl)) (fun x v=>by rw[UY.1 v];exact .inr (UZ _))⟩
theorem Ca(b:Nat)(t:List UInt8)(w:World)(g:Rd w b (60::t))(z:Env w b)(hl:t.length<=19999)(E:([60,33,45,45]:List UInt8).isPrefixOf (60::t)=false)(D:([60,33]:List UInt8).isPrefixOf (60::t)=false)(C:([60,63]:List UInt8).isPrefixOf (60::t)=false)(A:wu [60] (60::t)=true):
  Calls prog 108 #[.pointer (some ⟨b,0,none⟩)] w fun e w'=>∃k a c,e=.returned (.tuple #[wC k,.bool a])/\Tk.tag false t=(if a then[k]else[],c)/\Rd w' b c/\Kept w w' [b]:=by
 have a1:=g.lt;have r0:=g.cell;have m:=hId (g.cu (bI w));have O:Hd (Kept w (zT w) [b]):=Kept.of (bI w) _;have W:=hId (z.below (bI w));have J:=hId (lX w);have n:=cI (60::t);have u:=aq (B (60::t)) 0 (by rw[n];simp);have f:(B (60::t))[0]'(by rw[n];simp)=60:=by simp[B,WZ]
 rw[f]at u;have F:((((B (60::t))[0]'(by rw[n];simp)).toNat:Int)!=60)=false:=by rw[f];rfl
 simp only[VG]at n
 clear g z f;have U:=hId E;have T:=hId D;have S:=hId C;have Q:=hId A;clear E D C A;go_enter func108,ntmps108
 go_wp2_with fail
 refine(bS b (60::t) [60,33,45,45] _ m.o).mono ?_
 rintro e l⟨rfl,d⟩;rw[d,U.o];clear d l;go_wp2_with fail
 refine(bS b (60::t) [60,33] _ m.o).mono ?_
 rintro e l⟨rfl,d⟩;rw[d,T.o];clear d l;go_wp2_with fail
 refine(bS b (60::t) [60,63] _ m.o).mono ?_
 rintro e l⟨rfl,d⟩;rw[d,S.o];clear d l;go_wp2_with fail
 refine(qK b (60::t) [60] _ m.o).mono ?_
 rintro e l⟨rfl,d⟩;rw[d,Q.o];clear d l;go_wp2_with fail
 refine(fp b 1 (60::t) _ m.o (by simp)).mono ?_
 rintro e v⟨rfl,g,i⟩;have L:Hd (Rd v b (t)):=g;have N:=hId (O.o.trans i);have V:=hId (W.o.kept i (UZ _));have I:=hId (J.o.beside i (by omega));clear g i;go_wp2_with fail
 refine(Ru b (t) v L.o V.o (by simp at*;omega)).mono ?_
 rintro e G⟨k,a,c,rfl,y,g,i⟩;obtain⟨q,p,o,r⟩:=k;have P:=hId y;have K:=hId g;have M:=hId (N.o.trans i);have h:=hId (I.o.beside i (by omega));clear g i y;unfold wC;simp only
 have s0:=h.o.c0;have a0:=h.o.frozen 0;have s1:=h.o.c1;have Z:=h.o.frozen 1;have s2:=h.o.c2;have Y:=h.o.frozen 2;have s3:=h.o.c3;have X:=h.o.frozen 3;have s:b≠w.heap.size:=by omega
 go_wp2
 change bodyPost prog _ _ Exit.ret _ (pB G w.heap.size ⟨q,p,o,r⟩);exact VL (fU (k:=⟨q,p,o,r⟩) rfl _ rfl (fB h.o)) rfl ⟨⟨q,p,o,r⟩,a,c,rfl,P.o,Rd.over K.o (bK _ _ _ _ (UY.2 rfl)) s,M.o.bZ (bK _ _ _ _ (UY.2 rfl)) (fun x H=>by rw[UY.1 H];exact .inr (UZ _))⟩
theorem CZ(b:Nat)(t:List UInt8)(w:World)(g:Rd w b (60::t))(A:Env w b)(hl:t.length<=19999)(F:([60,33,45,45]:List UInt8).isPrefixOf (60::t)=false)(E:([60,33]:List UInt8).isPrefixOf (60::t)=false)(D:([60,63]:List UInt8).isPrefixOf (60::t)=false)(C:wu [60] (60::t)=false)(o:wu [60,47] (60::t)=true):
  Calls prog 108 #[.pointer (some ⟨b,0,none⟩)] w fun e w'=>∃k a d,e=.returned (.tuple #[wC k,.bool a])/\Tk.tag true (t.drop 1)=(if a then[k]else[],d)/\Rd w' b d/\Kept w w' [b]:=by
 have a5:=g.lt;have r0:=g.cell;have m:=hId (g.cu (bI w));have Q:Hd (Kept w (zT w) [b]):=Kept.of (bI w) _;have Z:=hId (A.below (bI w));have L:=hId (lX w);have n:=cI (60::t);have v:=aq (B (60::t)) 0 (by rw[n];simp);have f:(B (60::t))[0]'(by rw[n];simp)=60:=by simp[B,WZ]
 rw[f]at v;have G:((((B (60::t))[0]'(by rw[n];simp)).toNat:Int)!=60)=false:=by rw[f];rfl
 simp only[VG]at n
 clear g A f;have a4:1<=t.length:=by
  have J:([60,47]:List UInt8).isPrefixOf (60::t)=true:=by unfold wu at o;exact(WD _ _▸o).1
  have:=(List.isPrefixOf_iff_prefix.1 J).length_le;simp at this
  omega
 have X:=hId F;have W:=hId E;have V:=hId D;have U:=hId C;have T:=hId o;clear F E D C o;go_enter func108,ntmps108
 go_wp2_with fail
 refine(bS b (60::t) [60,33,45,45] _ m.o).mono ?_
 rintro e h⟨rfl,c⟩;rw[c,X.o];clear c h;go_wp2_with fail
 refine(bS b (60::t) [60,33] _ m.o).mono ?_
 rintro e h⟨rfl,c⟩;rw[c,W.o];clear c h;go_wp2_with fail
 refine(bS b (60::t) [60,63] _ m.o).mono ?_
 rintro e h⟨rfl,c⟩;rw[c,V.o];clear c h;go_wp2_with fail
 refine(qK b (60::t) [60] _ m.o).mono ?_
 rintro e h⟨rfl,c⟩;rw[c,U.o];clear c h;go_wp2_with fail
 refine(qK b (60::t) [60,47] _ m.o).mono ?_
 rintro e h⟨rfl,c⟩;rw[c,T.o];clear c h;go_wp2_with fail
 refine(fp b 2 (60::t) _ m.o (by simp;omega)).mono ?_
 rintro e y⟨rfl,g,l⟩;have N:Hd (Rd y b (t.drop 1)):=g;have P:=hId (Q.o.trans l);have Y:=hId (Z.o.kept l (UZ _));have K:=hId (L.o.beside l (by omega));clear g l;go_wp2_with fail
 refine(Rt b (t.drop 1) y N.o Y.o (by simp at*;omega)).mono ?_
 rintro e H⟨k,a,d,rfl,z,g,l⟩;obtain⟨r,q,p,s⟩:=k;have S:=hId z;have M:=hId g;have O:=hId (P.o.trans l);have i:=hId (K.o.beside l (by omega));clear g l z;unfold wC;simp only
 have s0:=i.o.c0;have a3:=i.o.frozen 0;have s1:=i.o.c1;have a2:=i.o.frozen 1;have s2:=i.o.c2;have a1:=i.o.frozen 2;have s3:=i.o.c3;have a0:=i.o.frozen 3;have u:b≠w.heap.size:=by omega
 go_wp2
 change bodyPost prog _ _ Exit.ret _ (pB H w.heap.size ⟨r,q,p,s⟩);exact VL (fU (k:=⟨r,q,p,s⟩) rfl _ rfl (fB i.o)) rfl ⟨⟨r,q,p,s⟩,a,d,rfl,S.o,Rd.over M.o (bK _ _ _ _ (UY.2 rfl)) u,O.o.bZ (bK _ _ _ _ (UY.2 rfl)) (fun x I=>by rw[UY.1 I];exact .inr (UZ _))⟩
theorem kL(b:Nat)(t:List UInt8)(w:World)(g:Rd w b (60::t))(q:Env w b)(y:([60,33,45,45]:List UInt8).isPrefixOf (60::t)=false)(v:([60,33]:List UInt8).isPrefixOf (60::t)=false)(u:([60,63]:List UInt8).isPrefixOf (60::t)=false)(s:wu [60] (60::t)=false)(r:wu [60,47] (60::t)=false):
  Calls prog 108 #[.pointer (some ⟨b,0,none⟩)] w fun e w'=>e=.returned (.tuple #[wC (Tk.ou [60]),.bool true])/\Rd w' b t/\Kept w w' [b]:=by
 have W:=g.lt;have r0:=g.cell;have h:=hId (g.cu (bI w));have J:Hd (Kept w (zT w) [b]):=Kept.of (bI w) _;have Q:=hId (q.below (bI w));have E:=hId (lX w);have i:=cI (60::t);have o:=aq (B (60::t)) 0 (by rw[i];simp);have c:(B (60::t))[0]'(by rw[i];simp)=60:=by simp[B,WZ]
 rw[c]at o;have z:((((B (60::t))[0]'(by rw[i];simp)).toNat:Int)!=60)=false:=by rw[c];rfl
 simp only[VG]at i
 clear g q c;have O:=hId y;have N:=hId v;have M:=hId u;have L:=hId s;have K:=hId r;clear y v u s r;go_enter func108,ntmps108
 go_wp2_with fail
 refine(bS b (60::t) [60,33,45,45] _ h.o).mono ?_
 rintro e d⟨rfl,a⟩;rw[a,O.o];clear a d;go_wp2_with fail
 refine(bS b (60::t) [60,33] _ h.o).mono ?_
 rintro e d⟨rfl,a⟩;rw[a,N.o];clear a d;go_wp2_with fail
 refine(bS b (60::t) [60,63] _ h.o).mono ?_
 rintro e d⟨rfl,a⟩;rw[a,M.o];clear a d;go_wp2_with fail
 refine(qK b (60::t) [60] _ h.o).mono ?_
 rintro e d⟨rfl,a⟩;rw[a,L.o];clear a d;go_wp2_with fail
 refine(qK b (60::t) [60,47] _ h.o).mono ?_
 rintro e d⟨rfl,a⟩;rw[a,K.o];clear a d;go_wp2_with fail
 refine(fp b 1 (60::t) _ h.o (by simp)).mono ?_
 rintro e p⟨rfl,g,m⟩;have G:Hd (Rd p b (t)):=g;have I:=hId (J.o.trans m);have P:=hId (Q.o.kept m (UZ _));have D:=hId (E.o.beside m (by omega));clear g m;go_wp2_with fail
 refine(zH [60] p P.o.uB (by simp)).mono ?_
 rintro e A⟨rfl,l⟩;have F:=hId (G.o.cu l);have H:=hId (I.o.cu l);have f:=hId (D.o.under l);clear l;rw[show Esc.rd [60]=[60]by decide];unfold wC Tk.ou;simp only
 have s0:=f.o.c0;have V:=f.o.frozen 0;have Z:=f.o.c1;have U:=f.o.frozen 1;have Y:=f.o.c2;have T:=f.o.frozen 2;have X:=f.o.c3;have S:=f.o.frozen 3;have n:b≠w.heap.size:=by omega
 go_wp2
 change bodyPost prog _ _ Exit.ret _ (pB A w.heap.size (Tk.ou [60]));exact VL (fU (k:=(Tk.ou [60])) rfl _ rfl (fB f.o)) rfl ⟨rfl,Rd.over F.o (bK _ _ _ _ (UY.2 rfl)) n,H.o.bZ (bK _ _ _ _ (UY.2 rfl)) (fun x C=>by rw[UY.1 C];exact .inr (UZ _))⟩

/-
  What the document's Append of layer 9 does.
-/
import Derived.Test.YthpammbgcidloaaGreatMathW9
set_option maxHeartbeats 8000000
set_option maxRecDepth 100000
namespace Go.Proofs.YthpammbgcidloaaGreat
open Go.RowKit
set_option linter.all false
theorem TW {f:Fsd} {W:Wl} (h:fM f W=0):kg f (uR W)=0∧yB f (uR W)=gP f W:=by
 obtain ⟨b,a⟩:=XI h;obtain ⟨c,a2,_⟩:=SE (f:=f) (V:=uR W) b (by show uR (fP f W.1)=uR W;rw [a]);exact ⟨c,by rw [a2];show gP f (fP f W.1)=_;rw [a]⟩
theorem JN {f:Fsd} {W:Wl} {r:ak} (h:fM f W=0) (m:r.length<=16384) (c:¬max W.2.2.2.1 W.2.2.2.2.1=4294967295):dQ (ww W) r=0∧lm W r=0∧lF W r=l8 (ww W) r∧Xa (ww W):=by
 obtain ⟨d,g⟩:=XI h;obtain ⟨_,_,i,a,_⟩:=MS d;have j:W.2.1≠0:=by
  have:=i.1
  rw [g] at a;rw [a];exact this
 have e1:dQ (ww W) r=0:=by
  unfold dQ ww;rw [if_neg (by rintro (h | h);exact j h;simp at h),if_neg (by omega)]
 have b:lm W r=0:=by unfold lm;rw [if_neg (by omega),if_neg c];exact e1
 obtain ⟨k,n,l,o,_⟩:=I5 h;refine ⟨e1,b,by unfold lF l8;rw [if_neg (fun e=>e b),if_pos e1],k, ?_, ?_,l⟩
 ·show W.2.2.1+1<4294967296;omega
 ·show max W.2.2.2.1 W.2.2.2.2.1+1<4294967296;omega
theorem yI (x:FsV) (f:Fsd) (W:Wl) (ar:au) (nr cr:Nat) (r:ak) (w:World) (h:RdX w x f) (hw:WfX f) (hr:Rd w (.slice ar nr cr) r) (hb:fM f W=0):
  Calls Tryz.prog 11 #[x.val,pR W,.slice ar nr cr] w fun e w'=>∃v,e=.returned (.tuple #[v,pR (appW f W r).2.1,.int .i64 (appW f W r).2.2])∧aW w' w.heap.size v (appW f W r).1∧ah w w':=by
 have HW:=ag hw;have HX:=ag h;have HR:=ag hr;have HN:=ag (show nr=r.length by obtain ⟨_,_,e⟩:=hr.form;cases e;rfl);have fF:=ag hb;have mK:=ag (I5 hb);obtain ⟨w1,ew⟩:=aj ((((w.alloc (.cells x.cs 32)).alloc (.cells (o7 W) 34)).alloc (.cells #[.slice none 0 0,.slice none 0 0,.slice none 0 0,.int .u32 0,.slice none 0 0,.slice none 0 0] 32)).alloc (.cells #[.string ⟨#[]⟩,.int .u32 0,.int .i64 0,.int .u32 0,.int .u32 0,.int .i64 0] 34));have eO:=ag (show tK w w1 x W by rw [<-ew];exact tK.start w x W);have t:=qio x f (uR W) w1 (HX.o.a eO.o.b) HW.o;rw [(TW hb).1,(TW hb).2] at t;have cz:=ag t;clear h hw hr hb t;unfold FsV.val;unfold FsV.cs o7 at ew;obtain ⟨gJ,Q,T,fT,gy,gK⟩:=aV eO.o.f;obtain ⟨U,X,Y,Z,aa,ab⟩:=jJ eO.o.l;go_enter Tryz.func11,Tryz.ntmps11;go_wp2_with fail
 try rw [ew]
 refine cz.o.mono ?_
 rintro e w2 ⟨rfl,aF⟩;have fo:=ag (eO.o.a aF);clear aF ew gJ Q T fT gy gK U X Y Z aa ab;obtain ⟨fr,ap⟩:=ai (gP f W);have yP:=ag ap;rw [<-ap];clear ap;by_cases u:16384<nr
 ·have HE:=ag (show appW f W r=(fz,wz,3) by
   have e3:lm W r=3:=by unfold lm;rw [if_pos (by rw [<-HN.o];exact u)]
   rw [I4 fF.o (by rw [e3];decide),e3])
  have aq:(16384:Int)<nr:=by omega
  clear u;have dK:=fo.o.r;have gQ:=fo.o.q;have dx:=ag fo.o.b;try clear gJ Q T fT gy gK
  try clear U X Y Z aa ab
  obtain ⟨⟨d0,e0⟩,⟨d1,e1⟩,⟨d2,e2⟩,⟨d3,e3⟩,⟨d4,e4⟩,⟨d5,e5⟩,d⟩:=dK.cells;have f0:=d 0;have f1:=d 1;have f2:=d 2;have f3:=d 3;have f4:=d 4;have f5:=d 5;obtain ⟨_,_,_,_,_,_,dN⟩:=dK;obtain ⟨K,C⟩:=aa0 dN;obtain ⟨mH,e8⟩:=ab0 w2 (w.heap.size+2);rw [e8] at K C;obtain ⟨_,_,_,_,_,_,dO⟩:=gQ;have c:=dO.grown C (by omega);obtain ⟨c0,c1,c2,c3,c4,c5⟩:=cu c;have g0:=c.fz 0;have u:=c.fz 1;have g2:=c.fz 2;have g3:=c.fz 3;have g4:=c.fz 4;have g5:=c.fz 5;obtain ⟨M,N⟩:=ac0 c;obtain ⟨ws,es⟩:=ae0 mH (w.heap.size+2+1);rw [es] at M N;have gF:=ag (K.grown N (by omega));have gG:=ag M;have eX:=ag (show ah w ws from (dx.o.grown C dx.o.size (by intro k E;cases E;omega)).grown N (aC dx.o.size C.size) (by intro k E;cases E;omega));unfold bV at e8 es;clear K C M N c dN dO d;go_wp2;obtain ⟨p0,p1,p2,p3,p4,p5⟩:=cu gF.o;obtain ⟨r0,r1,r2,r3,r4,r5⟩:=cu gG.o;refine bodyPost_ret (v:=.tuple #[.agg #[.slice none 0 0,.slice none 0 0,.slice none 0 0,.int .u32 0,.slice none 0 0,.slice none 0 0],.agg #[.string ⟨#[]⟩,.int .u32 0,.int .i64 0,.int .u32 0,.int .u32 0,.int .i64 0],.int .i64 3]) ?_ rfl ⟨.agg #[.slice none 0 0,.slice none 0 0,.slice none 0 0,.int .u32 0,.slice none 0 0,.slice none 0 0], ?_, ?_,eX.o⟩
  ·simp [results,Tryz.results11,go_sem,p0,p1,p2,p3,p4,p5,r0,r1,r2,r3,r4,r5]
  ·rw [HE.o];rfl
  ·rw [HE.o];exact jO _ _
 have aq:decide ((16384:Int)<nr)=false:=decide_eq_false (by omega);have aH:=ag (show r.length<=16384 by rw [<-HN.o];omega);clear u;obtain ⟨S,bO⟩:=ai (max W.2.2.2.1 W.2.2.2.2.1);have be:(if W.2.2.2.1<W.2.2.2.2.1 then (W.2.2.2.2.1:Int) else (W.2.2.2.1:Int))=(S:Int):=by rw [bO];split<;>omega
 have aK:(if (W.2.2.2.1:Int)<(W.2.2.2.2.1:Int) then (W.2.2.2.2.1:Int) else (W.2.2.2.1:Int))=(S:Int):=by rw [bO];split<;>omega
 have CS:=ag bO;have bg:S<4294967296:=by have h3:=mK.o.2.2.1;have h4:=mK.o.2.2.2.1;rw [bO];exact Nat.max_lt.2 ⟨h3,h4⟩
 clear bO;by_cases g2:S=4294967295
 ·have HE:=ag (show appW f W r=(fz,wz,9) by
   have e3:lm W r=9:=by unfold lm;rw [if_neg (by have:=aH.o;omega),if_pos (by rw [<-CS.o];exact g2)]
   rw [I4 fF.o (by rw [e3];decide),e3])
  have aN:((S:Int)==4294967295)=true:=by simpa using (by omega:(S:Int)=4294967295)
  clear g2;obtain ⟨U,X,Y,Z,aa,ab⟩:=jJ fo.o.l;have dK:=fo.o.r;have gQ:=fo.o.q;have dx:=ag fo.o.b;try clear gJ Q T fT gy gK
  skip
  obtain ⟨⟨d0,e0⟩,⟨d1,e1⟩,⟨d2,e2⟩,⟨d3,e3⟩,⟨d4,e4⟩,⟨d5,e5⟩,d⟩:=dK.cells;have f0:=d 0;have f1:=d 1;have f2:=d 2;have f3:=d 3;have f4:=d 4;have f5:=d 5;obtain ⟨_,_,_,_,_,_,dN⟩:=dK;obtain ⟨K,C⟩:=aa0 dN;obtain ⟨mH,e8⟩:=ab0 w2 (w.heap.size+2);rw [e8] at K C;obtain ⟨_,_,_,_,_,_,dO⟩:=gQ;have c:=dO.grown C (by omega);obtain ⟨c0,c1,c2,c3,c4,c5⟩:=cu c;have g0:=c.fz 0;have u:=c.fz 1;have g2:=c.fz 2;have g3:=c.fz 3;have g4:=c.fz 4;have g5:=c.fz 5;obtain ⟨M,N⟩:=ac0 c;obtain ⟨ws,es⟩:=ae0 mH (w.heap.size+2+1);rw [es] at M N;have gF:=ag (K.grown N (by omega));have gG:=ag M;have eX:=ag (show ah w ws from (dx.o.grown C dx.o.size (by intro k E;cases E;omega)).grown N (aC dx.o.size C.size) (by intro k E;cases E;omega));unfold bV at e8 es;clear K C M N c dN dO d;go_wp2;obtain ⟨p0,p1,p2,p3,p4,p5⟩:=cu gF.o;obtain ⟨r0,r1,r2,r3,r4,r5⟩:=cu gG.o;refine bodyPost_ret (v:=.tuple #[.agg #[.slice none 0 0,.slice none 0 0,.slice none 0 0,.int .u32 0,.slice none 0 0,.slice none 0 0],.agg #[.string ⟨#[]⟩,.int .u32 0,.int .i64 0,.int .u32 0,.int .u32 0,.int .i64 0],.int .i64 9]) ?_ rfl ⟨.agg #[.slice none 0 0,.slice none 0 0,.slice none 0 0,.int .u32 0,.slice none 0 0,.slice none 0 0], ?_, ?_,eX.o⟩
  ·simp [results,Tryz.results11,go_sem,p0,p1,p2,p3,p4,p5,r0,r1,r2,r3,r4,r5]
  ·rw [HE.o];rfl
  ·rw [HE.o];exact jO _ _
 have aN:((S:Int)==4294967295)=false:=by simpa using (by omega:¬(S:Int)=4294967295)
 have ut:=ag (JN fF.o aH.o (by rw [<-CS.o];exact g2));obtain ⟨a1,a2⟩:=qo7 W.2.2.1 mK.o.2.1;have a3:IntKind.u32.wrap ((S:Int)+1)=((S+1:Nat):Int):=by rw [IntKind.wrap_u32'];omega
 have t:=qmv (ww W) ar nr cr r w2 ut.o.2.2.2 (HR.o.a fo.o.b);rw [ut.o.1,<-ut.o.2.2.1] at t;unfold ww at t;dsimp only at t;rw [<-CS.o] at t;have cz:=ag t;have qH:=ag g2;clear g2 t;obtain ⟨U,X,Y,Z,aa,ab⟩:=jJ fo.o.l;go_wp2_with fail
 have bh:=mK.o.2.1;have bi:=qH.o;rw [show ((W.2.2.1:Int)+1) % 4294967296=((W.2.2.1+1:Nat):Int) by omega,show ((S:Int)+1)=((S+1:Nat):Int) by omega];clear bh bi;refine cz.o.mono ?_
 rintro e w3 ⟨v3,rfl,av,aS⟩;obtain ⟨bj,c4,rfl⟩:=av.form;have pM:=ag (fo.o.a aS);have I6:=ag (av.mono (show w.heap.size+1<=w2.heap.size from Nat.le_of_lt fo.o.l.lt));have aw:=ag (qo8 ut.o.2.1);obtain ⟨L,hL⟩:=ai (lF W r);rw [<-hL] at I6 aw ⊢;have Aa:=ag hL;obtain ⟨m,hm⟩:=ai L.length;rw [<-hm] at I6 aw ⊢;have HM:=ag hm;have wT:m<=154:=aw.o;clear aS av hL hm a1 a2 a3 be aK aq aN bg U X Y Z aa ab;by_cases u:fr<(m:Int)
 ·have HE:=ag (show appW f W r=(fz,wz,90) by exact Rx fF.o ut.o.2.1 (by rw [<-yP.o,<-Aa.o,<-HM.o];exact u))
  have dK:=pM.o.r;have gQ:=pM.o.q;have dx:=ag pM.o.b;try clear gJ Q T fT gy gK
  try clear U X Y Z aa ab
  obtain ⟨⟨d0,e0⟩,⟨d1,e1⟩,⟨d2,e2⟩,⟨d3,e3⟩,⟨d4,e4⟩,⟨d5,e5⟩,d⟩:=dK.cells;have f0:=d 0;have f1:=d 1;have f2:=d 2;have f3:=d 3;have f4:=d 4;have f5:=d 5;obtain ⟨_,_,_,_,_,_,dN⟩:=dK;obtain ⟨K,C⟩:=aa0 dN;obtain ⟨mH,e8⟩:=ab0 w3 (w.heap.size+2);rw [e8] at K C;obtain ⟨_,_,_,_,_,_,dO⟩:=gQ;have c:=dO.grown C (by omega);obtain ⟨c0,c1,c2,c3,c4,c5⟩:=cu c;have g0:=c.fz 0;have u:=c.fz 1;have g2:=c.fz 2;have g3:=c.fz 3;have g4:=c.fz 4;have g5:=c.fz 5;obtain ⟨M,N⟩:=ac0 c;obtain ⟨ws,es⟩:=ae0 mH (w.heap.size+2+1);rw [es] at M N;have gF:=ag (K.grown N (by omega));have gG:=ag M;have eX:=ag (show ah w ws from (dx.o.grown C dx.o.size (by intro k E;cases E;omega)).grown N (aC dx.o.size C.size) (by intro k E;cases E;omega));unfold bV at e8 es;clear K C M N c dN dO d;go_wp2;obtain ⟨p0,p1,p2,p3,p4,p5⟩:=cu gF.o;obtain ⟨r0,r1,r2,r3,r4,r5⟩:=cu gG.o;refine bodyPost_ret (v:=.tuple #[.agg #[.slice none 0 0,.slice none 0 0,.slice none 0 0,.int .u32 0,.slice none 0 0,.slice none 0 0],.agg #[.string ⟨#[]⟩,.int .u32 0,.int .i64 0,.int .u32 0,.int .u32 0,.int .i64 0],.int .i64 90]) ?_ rfl ⟨.agg #[.slice none 0 0,.slice none 0 0,.slice none 0 0,.int .u32 0,.slice none 0 0,.slice none 0 0], ?_, ?_,eX.o⟩
  ·simp [results,Tryz.results11,go_sem,p0,p1,p2,p3,p4,p5,r0,r1,r2,r3,r4,r5]
  ·rw [HE.o];rfl
  ·rw [HE.o];exact jO _ _
 have aq:decide (fr<(m:Int))=false:=decide_eq_false u;have ym:=ag (show ((lF W r).length:Int)<=gP f W by rw [<-yP.o,<-Aa.o,<-HM.o];omega);clear u;obtain ⟨B,hB⟩:=ai W.2.2.2.2.2;have jH:=ag hB;obtain ⟨eU,ac⟩:=ai (1+B);have aT:=ag (show (1+(W.2.2.2.2.2:Int))=(eU:Int) by rw [<-hB];omega);have bt:eU<=5000:=by have:=mK.o.2.2.2.2;omega
 have a4:wrap64 (1+(B:Int))=(eU:Int):=by have:=mK.o.2.2.2.2;unfold wrap64;omega
 have a5:IntKind.i64.wrap (1+(B:Int))=(eU:Int):=by have:=mK.o.2.2.2.2;rw [IntKind.wrap_i64];omega
 have bv:B<=4096:=by rw [hB];exact mK.o.2.2.2.2
 clear hB ac;go_wp2;go_loopw [14] (fun i wr=>∃(k:Nat) (J:FsV),k<=m∧i=.int .i64 k∧af ((j6 f W.1 eU L k).2=0)∧af (tK w wr J W)∧af (yj w wr x J f (j6 f W.1 eU L k).1)∧af (bu wr (w.heap.size+1) (.slice bj m c4) L)) (fun i _=>m - (intOf i).toNat)
 case atStart=>exact ⟨0,x,Nat.zero_le _,rfl,ag rfl,pM,ag (.inl ⟨rfl,rfl⟩),I6⟩
 case round=>
  obtain ⟨k,J,E,rfl,hE,O,hP,an⟩:=hrel;by_cases bk:k<m
  ·have ao:(k:Int)<m:=by omega
   have a0:k<L.length:=by rw [<-HM.o];exact bk
   obtain ⟨P,h9⟩:∃P:Fsd × Int,P=j6 f W.1 eU L (k+1):=⟨_,rfl⟩;have rP:=ag h9;have ax:=qs7 (f:=f) (s:=W.1) (eU:=eU) hE.o a0;rw [<-h9] at ax;obtain ⟨rb,ro,ry,rz,rfl,a6,a7⟩:=an.o.rdL.at k a0;have EY:=ag (show gu wr rb (ro+k) (.slice ry (L[k]).length rz) from a6)
   have pU:=ag (show ∀G:World,ah wr G->Calls Tryz.prog 30 #[J.val,.string (bs W.1),.int .i64 (eU+(k:Int)),.slice ry (L[k]).length rz] G fun e w'=>∃v,e=.returned (.tuple #[v,.int .i64 P.2])∧aW w' G.heap.size v P.1∧ah G w' by
    intro G H;have hh:=qtl J (j6 f W.1 eU L k).1 W.1 (eU+(k:Int)) ry (L[k]).length rz L[k] G ((hP.o.rd HX.o O.o.b).a H) (XH HW.o k hE.o) (a7.a H);rw [<-ax] at hh;exact hh)
   obtain ⟨a1,a2,a3⟩:=Ru eU k (by omega) (by omega);have bl:=EY.o;have bm:=an;clear a6 a7 h9 ax hP hE an;go_wp2_with fail
   clear bl;refine oK (α:=Nat × FsV) (F:=fun bx a=>(((((((((((((((((((a.put (some 75) (.agg #[.slice J.a1 J.n1 J.c1,.slice J.a2 J.n2 J.c2,.slice J.a3 J.n3 J.c3,.int .u32 J.g,.slice J.a4 J.n4 J.c4,.slice J.a5 J.n5 J.c5])).put (some 76) (.pointer (some ⟨w.heap.size+1,0,none⟩))).put (some 77) (.string (bs W.1))).put (some 78) (.pointer (some ⟨w.heap.size+1,5,none⟩))).put (some 79) (.int .i64 B)).put (some 80) (.int .i64 eU)).put (some 81) (.int .i64 k)).put (some 82) (.int .i64 ((eU:Int)+(k:Int)))).put (some 83) (.slice (some ⟨rb,ro,none⟩) m c4)).put (some 84) (.int .i64 k)).put (some 85) (.pointer (some ⟨rb,ro+k,none⟩))).put (some 86) (.slice ry (L[k]).length rz)).put (some 87) (.tuple #[bx.2.val,.int .i64 P.2])).put (some 74) (.tuple #[bx.2.val,.int .i64 P.2])).put (some 88) bx.2.val).put (some 89) (.int .i64 P.2)).put (some 15) (.pointer (some ⟨bx.1,0,none⟩))).put none undef).put (some 16) (.int .i64 P.2))) (R:=fun bx wz=>bf wz bx.1 bx.2∧wr.heap.size<=bx.1∧aW wz w.heap.size bx.2.val P.1∧ah wr wz) ?TY ?TZ
   case TY=>
    have hK:aL (fun G=>ah wr G):=fun w1 w2 h hb=>h.trans (hb.mono h.size)
    have bn:(fun G=>ah wr G) wr:=aB;refine gH hK (by kernel_rfl) bn ?_
    intro p;generalize wr.drew=wd at *;refine dm [0,1,2,3,4,5,6,7,8,9,10,11] (fuel:=7) (a':=?qa1a) (by kernel_rfl) (by kernel_rfl) (by kernel_rfl) ?qa1p p ?qa1n
    case qa1p=>
     iterate 12 (apply Yl.cons rfl (by kernel_rfl);focus (rintro G H;obtain ⟨k0,k1,k2,k3,k4,k5⟩:=aV (O.o.f.a H);obtain ⟨l0,l1,l2,l3,l4,l5⟩:=jJ (O.o.l.a H);rw [<-jH.o] at l5;have r1:G.cell? ⟨rb,ro+k,none⟩=some (.slice ry (L[k]).length rz):=gu.a EY.o H;clear H;go_simp<;>with_reducible rfl);try simp only [az])
     exact Yl.nil
    try simp only [az]
    refine WT (i:=12) (j:=16) (by kernel_rfl) ?_ ?_
    ·skip
     refine WV (R:=fun v wy=>∃y:FsV,v=.tuple #[y.val,.int .i64 P.2]∧aW wy w.heap.size y.val P.1∧ah wd wy) rfl (by kernel_rfl) (by go_simp;try rfl) ((pU.o wd p).mono fun e wy ⟨v,h1,h2,h3⟩=>by obtain ⟨y,ey,_,h4⟩:=h2.bx;subst ey;exact ⟨_,h1,y,rfl,h4.mono (aC O.o.b.size p.size),h3⟩) ?_
     rintro v9 D5 ⟨y9,rfl,h8,I⟩;have z:=hK _ _ p I;refine ⟨z, ?_⟩;have a8:=h8;clear h8;clear p I;have p:=z;clear z;try simp only [az]
     refine dm [13,14,15] (fuel:=3) (a':=?qa4a) (by kernel_rfl) (by kernel_rfl) (by kernel_rfl) ?qa4p p ?qa4n
     case qa4p=>
      iterate 3 (apply Yl.cons rfl (by kernel_rfl);focus (rintro G H;obtain ⟨k0,k1,k2,k3,k4,k5⟩:=aV (O.o.f.a H);obtain ⟨l0,l1,l2,l3,l4,l5⟩:=jJ (O.o.l.a H);rw [<-jH.o] at l5;have r1:G.cell? ⟨rb,ro+k,none⟩=some (.slice ry (L[k]).length rz):=gu.a EY.o H;clear H;go_simp<;>with_reducible rfl);try simp only [az])
      exact Yl.nil
     try simp only [az]
     obtain ⟨D6,xu⟩:=aj (D5.alloc (.cells #[.slice none 0 0,.slice none 0 0,.slice none 0 0,.int .u32 0,.slice none 0 0,.slice none 0 0] 32));have I:ah D5 D6:=by rw [<-xu];exact ae
     have z:=hK _ _ p I;have a9:=a8.a I;obtain ⟨Bn,xw⟩:=ai D5.heap.size;have JO:dE D6 Bn:=by rw [<-xu,xw];exact dE.new D5
     have JP:wr.heap.size<=Bn:=by rw [xw];exact p.size
     refine uS (i:=16) (v:=.pointer (some ⟨Bn,0,none⟩)) (w':=D6) rfl (by kernel_rfl) (by kernel_rfl) (by rw [<-xu,xw];go_simp) z ?_
     clear p I xu xw;have p:=z;clear z;try simp only [az]
     obtain ⟨⟨d0,e0⟩,⟨d1,e1⟩,⟨d2,e2⟩,⟨d3,e3⟩,⟨d4,e4⟩,⟨d5,e5⟩,d⟩:=JO.cells;have f0:=d 0;have f1:=d 1;have f2:=d 2;have f3:=d 3;have f4:=d 4;have f5:=d 5;obtain ⟨ac,n⟩:=JO.put y9;obtain ⟨ba,ql⟩:=aj (aY D6 Bn y9);rw [ql] at ac n;have z:=p.grown n p.size (by intro k E;cases E;exact JP);have al:=O.o.b.trans (p.mono O.o.b.size);have A:=a9.assign JO (w0:=w) al (aC O.o.b.size JP);rw [ql] at A;have ad:=A.1;clear A al;have T9:=ac;unfold aY at ql;try dsimp only at ql
     clear n d;refine nL (i:=17) (w':=ba) rfl (by kernel_rfl) (by kernel_rfl) (by rw [<-ql];go_simp) z ?_
     clear p ql e0 e1 e2 e3 e4 e5 f0 f1 f2 f3 f4 f5;have p:=z;clear z;try simp only [az]
     refine dm [18] (fuel:=0) (a':=?qa9a) (by kernel_rfl) (by kernel_rfl) (by kernel_rfl) ?qa9p p ?qa9n
     case qa9p=>
      iterate 1 (apply Yl.cons rfl (by kernel_rfl);focus (rintro G H;obtain ⟨k0,k1,k2,k3,k4,k5⟩:=aV (O.o.f.a H);obtain ⟨l0,l1,l2,l3,l4,l5⟩:=jJ (O.o.l.a H);rw [<-jH.o] at l5;have r1:G.cell? ⟨rb,ro+k,none⟩=some (.slice ry (L[k]).length rz):=gu.a EY.o H;clear H;go_simp<;>with_reducible rfl);try simp only [az])
      exact Yl.nil
     try simp only [az]
     refine wpAnyH_done (by kernel_rfl) ?_ _
     refine NoPanic.normal ?_
     exact ⟨rfl,(Bn,y9),by simp only [az],ac,JP,ad,p⟩
    ·skip
     obtain ⟨uu,rC⟩:=aj (wd.alloc (.cells #[.slice none 0 0,.slice none 0 0,.slice none 0 0,.int .u32 0,.slice none 0 0,.slice none 0 0] 32));have I:ah wd uu:=by rw [<-rC];exact ae
     have z:=hK _ _ p I;obtain ⟨uw,rD⟩:=ai wd.heap.size;have Ua:dE uu uw:=by rw [<-rC,rD];exact dE.new wd
     have Bo:wr.heap.size<=uw:=by rw [rD];exact p.size
     refine WU (v:=.pointer (some ⟨uw,0,none⟩)) (w':=uu) rfl (by kernel_rfl) (by rw [<-rC,rD];go_simp) ⟨z, ?_⟩;clear p I rC rD;have p:=z;clear z;try simp only [az]
     refine nZ (i:=12) (R:=fun v wy=>∃y:FsV,v=.tuple #[y.val,.int .i64 P.2]∧aW wy w.heap.size y.val P.1∧ah uu wy) rfl (by kernel_rfl) (by kernel_rfl) (by go_simp;try rfl) ((pU.o uu p).mono fun e wy ⟨v,h1,h2,h3⟩=>by obtain ⟨y,ey,_,h4⟩:=h2.bx;subst ey;exact ⟨_,h1,y,rfl,h4.mono (aC O.o.b.size p.size),h3⟩) ?_
     rintro v9 Ub ⟨y9,rfl,h8,I⟩;have z:=hK _ _ p I;refine ⟨z, ?_⟩;have Bp:=Ua.a I;have Uc:=h8;clear h8;clear p I;have p:=z;clear z;try simp only [az]
     refine dm [13,14,15] (fuel:=2) (a':=?qa15a) (by kernel_rfl) (by kernel_rfl) (by kernel_rfl) ?Ud p ?qa15n
     case Ud=>
      iterate 3 (apply Yl.cons rfl (by kernel_rfl);focus (rintro G H;obtain ⟨k0,k1,k2,k3,k4,k5⟩:=aV (O.o.f.a H);obtain ⟨l0,l1,l2,l3,l4,l5⟩:=jJ (O.o.l.a H);rw [<-jH.o] at l5;have r1:G.cell? ⟨rb,ro+k,none⟩=some (.slice ry (L[k]).length rz):=gu.a EY.o H;clear H;go_simp<;>with_reducible rfl);try simp only [az])
      exact Yl.nil
     try simp only [az]
     obtain ⟨⟨d0,e0⟩,⟨d1,e1⟩,⟨d2,e2⟩,⟨d3,e3⟩,⟨d4,e4⟩,⟨d5,e5⟩,d⟩:=Bp.cells;have f0:=d 0;have f1:=d 1;have f2:=d 2;have f3:=d 3;have f4:=d 4;have f5:=d 5;obtain ⟨ac,n⟩:=Bp.put y9;obtain ⟨Ue,ni⟩:=aj (aY Ub uw y9);rw [ni] at ac n;have z:=p.grown n p.size (by intro k E;cases E;exact Bo);have al:=O.o.b.trans (p.mono O.o.b.size);have A:=Uc.assign Bp (w0:=w) al (aC O.o.b.size Bo);rw [ni] at A;have ad:=A.1;clear A al;have T9:=ac;unfold aY at ni;try dsimp only at ni
     clear n d;refine nL (i:=17) (w':=Ue) rfl (by kernel_rfl) (by kernel_rfl) (by rw [<-ni];go_simp) z ?_
     clear p ni e0 e1 e2 e3 e4 e5 f0 f1 f2 f3 f4 f5;have p:=z;clear z;try simp only [az]
     refine dm [18] (fuel:=0) (a':=?qa17a) (by kernel_rfl) (by kernel_rfl) (by kernel_rfl) ?Uf p ?qa17n
     case Uf=>
      iterate 1 (apply Yl.cons rfl (by kernel_rfl);focus (rintro G H;obtain ⟨k0,k1,k2,k3,k4,k5⟩:=aV (O.o.f.a H);obtain ⟨l0,l1,l2,l3,l4,l5⟩:=jJ (O.o.l.a H);rw [<-jH.o] at l5;have r1:G.cell? ⟨rb,ro+k,none⟩=some (.slice ry (L[k]).length rz):=gu.a EY.o H;clear H;go_simp<;>with_reducible rfl);try simp only [az])
      exact Yl.nil
     try simp only [az]
     refine wpAnyH_done (by kernel_rfl) ?_ _
     refine NoPanic.normal ?_
     exact ⟨rfl,(uw,y9),by simp only [az],ac,Bo,ad,p⟩
   case TZ=>
    rintro ⟨q9,y9⟩ wv ⟨Ug,bo,ad,ay⟩;simp only [az];have JQ:=ag (O.o.a ay);have Uh:=ag (show bf wv q9 y9 from Ug);have Ui:=ag ad;have Uj:=ag (bm.o.a ay);clear Ug bo ad ay a1 a3;by_cases u:¬P.2=0
    ·have HE:=ag (show appW f W r=(fz,wz,P.2) by exact Ry fF.o ut.o.2.1 ym.o (by rw [rP.o,aT.o,<-Aa.o];exact (qxi (by rw [<-rP.o];exact u) (by omega)).symm) u)
     obtain ⟨e,he⟩:=ai P.2;have iB:=ag he;rw [<-he] at u ⊢;have ge:(e==0)=false:=by simpa using u
     clear he u;have dK:=JQ.o.r;have gQ:=JQ.o.q;have dx:=ag JQ.o.b;try clear gJ Q T fT gy gK
     try clear U X Y Z aa ab
     obtain ⟨⟨d0,e0⟩,⟨d1,e1⟩,⟨d2,e2⟩,⟨d3,e3⟩,⟨d4,e4⟩,⟨d5,e5⟩,d⟩:=dK.cells;have f0:=d 0;have f1:=d 1;have f2:=d 2;have f3:=d 3;have f4:=d 4;have f5:=d 5;obtain ⟨_,_,_,_,_,_,dN⟩:=dK;obtain ⟨K,C⟩:=aa0 dN;obtain ⟨mH,e8⟩:=ab0 wv (w.heap.size+2);rw [e8] at K C;obtain ⟨_,_,_,_,_,_,dO⟩:=gQ;have c:=dO.grown C (by omega);obtain ⟨c0,c1,c2,c3,c4,c5⟩:=cu c;have g0:=c.fz 0;have u:=c.fz 1;have g2:=c.fz 2;have g3:=c.fz 3;have g4:=c.fz 4;have g5:=c.fz 5;obtain ⟨M,N⟩:=ac0 c;obtain ⟨ws,es⟩:=ae0 mH (w.heap.size+2+1);rw [es] at M N;have gF:=ag (K.grown N (by omega));have gG:=ag M;have eX:=ag (show ah w ws from (dx.o.grown C dx.o.size (by intro k E;cases E;omega)).grown N (aC dx.o.size C.size) (by intro k E;cases E;omega));unfold bV at e8 es;clear K C M N c dN dO d;go_wp2;obtain ⟨p0,p1,p2,p3,p4,p5⟩:=cu gF.o;obtain ⟨r0,r1,r2,r3,r4,r5⟩:=cu gG.o;refine bodyPost_ret (v:=.tuple #[.agg #[.slice none 0 0,.slice none 0 0,.slice none 0 0,.int .u32 0,.slice none 0 0,.slice none 0 0],.agg #[.string ⟨#[]⟩,.int .u32 0,.int .i64 0,.int .u32 0,.int .u32 0,.int .i64 0],.int .i64 e]) ?_ rfl ⟨.agg #[.slice none 0 0,.slice none 0 0,.slice none 0 0,.int .u32 0,.slice none 0 0,.slice none 0 0], ?_, ?_,eX.o⟩
     ·simp [results,Tryz.results11,go_sem,p0,p1,p2,p3,p4,p5,r0,r1,r2,r3,r4,r5]
     ·rw [HE.o,<-iB.o];rfl
     ·rw [HE.o];exact jO _ _
    rw [Decidable.not_not] at u;rw [u];have Uk:=ag u;clear u;obtain ⟨gJ,Q,T,fT,gy,gK⟩:=aV Uh.o;obtain ⟨dJ,n⟩:=JQ.o.set y9;have A:=Ui.o.assign (dE.of JQ.o.f) (w0:=w) JQ.o.b aI;obtain ⟨⟨d0,e0⟩,⟨d1,e1⟩,⟨d2,e2⟩,⟨d3,e3⟩,⟨d4,e4⟩,⟨d5,e5⟩,d⟩:=(dE.of JQ.o.f).cells;have f0:=d 0;have f1:=d 1;have f2:=d 2;have f3:=d 3;have f4:=d 4;have f5:=d 5;obtain ⟨wa,wX⟩:=aj (aY wv w.heap.size y9);rw [wX] at A dJ n;have qg:=ag dJ;have AP:=ag A.1;have Ul:=ag (Uj.o.grown n (Nat.lt_succ_self _));unfold aY at wX;have bp:=ag wX;clear dJ n A d wX;go_wp2;rw [bp.o];go_roundw
    case rel=>exact ⟨k+1,y9,by omega,rfl,ag (by rw [<-rP.o];exact Uk.o),qg,ag (.inr (by rw [<-rP.o];exact AP.o)),Ul⟩
    case measure=>simp only [intOf];omega
  ·have ao:decide ((k:Int)<m)=false:=decide_eq_false (by omega)
   have om:k=L.length:=by rw [<-HM.o];omega
   obtain ⟨P,h9⟩:∃P:Fsd × Int,P=j6 f W.1 eU L k:=⟨_,rfl⟩;have mh:=ag (show P=uO f W.1 (1+(W.2.2.2.2.2:Int)) (lF W r) by rw [aT.o,<-Aa.o,h9,om];rfl);have aD:=hE.o;rw [<-h9] at aD;have Uk:=ag aD;have HY:=ag (show RdX wr J P.1 by rw [h9];exact hP.o.rd HX.o O.o.b);have br:=ag (show WfX P.1 by rw [h9];exact XH HW.o k hE.o);obtain ⟨D,hD⟩:∃D:Fsd × Int,D=jc P.1:=⟨_,rfl⟩;have wD:=ag hD;have t:=qza J P.1 wr HY.o br.o;rw [<-hD] at t;have cz:=ag t;clear t hD aD h9 hE hP an om;obtain ⟨gJ,Q,T,fT,gy,gK⟩:=aV O.o.f
   go_wp2_with fail
   refine cz.o.mono ?_
   rintro e w6 ⟨v6,rfl,lu,bb⟩;obtain ⟨y6,e6,bc,BZ⟩:=lu.bx;subst e6;have si:=O.o.a bb;obtain ⟨w7,oH⟩:=aj (w6.alloc (.cells y6.cs 32));have bH:ah w6 w7:=by rw [<-oH];exact ae
   obtain ⟨p9,MZ⟩:=aj w6.heap.size;have Bd:=ag (show bf w7 p9 y6 by rw [<-oH,<-MZ];exact Bq.new _ _ _);have qR:=ag (si.a bH);have DC:=ag (bc.a bH);have Ew:=ag ((BZ.a bH).mono O.o.b.size);have pJ:=ag (show w.heap.size+2+1<p9 by rw [<-MZ];obtain ⟨_,_,_,_,_,_,h9⟩:=si.q;exact h9.lt);unfold FsV.cs at oH;unfold FsV.val;clear si bH bb lu bc BZ ao gJ Q T fT gy gK;by_cases u:¬D.2=0
   ·have HE:=ag (show appW f W r=(fz,wz,D.2) by rw [wD.o] at u ⊢;exact Rz fF.o ut.o.2.1 ym.o mh.o Uk.o u)
    obtain ⟨e,he⟩:=ai D.2;have iB:=ag he;rw [<-he] at u ⊢;have ge:(e==0)=false:=by simpa using u
    clear he u;have dK:=qR.o.r;have gQ:=qR.o.q;have dx:=ag qR.o.b;try clear gJ Q T fT gy gK
    try clear U X Y Z aa ab
    obtain ⟨⟨d0,e0⟩,⟨d1,e1⟩,⟨d2,e2⟩,⟨d3,e3⟩,⟨d4,e4⟩,⟨d5,e5⟩,d⟩:=dK.cells;have f0:=d 0;have f1:=d 1;have f2:=d 2;have f3:=d 3;have f4:=d 4;have f5:=d 5;obtain ⟨_,_,_,_,_,_,dN⟩:=dK;obtain ⟨K,C⟩:=aa0 dN;obtain ⟨mH,e8⟩:=ab0 w7 (w.heap.size+2);rw [e8] at K C;obtain ⟨_,_,_,_,_,_,dO⟩:=gQ;have c:=dO.grown C (by omega);obtain ⟨c0,c1,c2,c3,c4,c5⟩:=cu c;have g0:=c.fz 0;have u:=c.fz 1;have g2:=c.fz 2;have g3:=c.fz 3;have g4:=c.fz 4;have g5:=c.fz 5;obtain ⟨M,N⟩:=ac0 c;obtain ⟨ws,es⟩:=ae0 mH (w.heap.size+2+1);rw [es] at M N;have gF:=ag (K.grown N (by omega));have gG:=ag M;have eX:=ag (show ah w ws from (dx.o.grown C dx.o.size (by intro k E;cases E;omega)).grown N (aC dx.o.size C.size) (by intro k E;cases E;omega));unfold bV at e8 es;clear K C M N c dN dO d;go_wp2;obtain ⟨p0,p1,p2,p3,p4,p5⟩:=cu gF.o;obtain ⟨r0,r1,r2,r3,r4,r5⟩:=cu gG.o;refine bodyPost_ret (v:=.tuple #[.agg #[.slice none 0 0,.slice none 0 0,.slice none 0 0,.int .u32 0,.slice none 0 0,.slice none 0 0],.agg #[.string ⟨#[]⟩,.int .u32 0,.int .i64 0,.int .u32 0,.int .u32 0,.int .i64 0],.int .i64 e]) ?_ rfl ⟨.agg #[.slice none 0 0,.slice none 0 0,.slice none 0 0,.int .u32 0,.slice none 0 0,.slice none 0 0], ?_, ?_,eX.o⟩
    ·simp [results,Tryz.results11,go_sem,p0,p1,p2,p3,p4,p5,r0,r1,r2,r3,r4,r5]
    ·rw [HE.o,<-iB.o];rfl
    ·rw [HE.o];exact jO _ _
   rw [Decidable.not_not] at u;rw [u];have HE:=ag (show appW f W r=(D.1,fP D.1 W.1,0) by
    have g2:=u;rw [wD.o] at g2 ⊢;rw [RA fF.o ut.o.2.1 ym.o mh.o Uk.o g2,qag2 (XI fF.o).1 mh.o Uk.o g2])
   have zB:=ag (show WfX D.1 by have g2:=u;rw [wD.o] at g2 ⊢;exact RB g2);clear u;obtain ⟨gJ,Q,T,fT,gy,gK⟩:=aV Bd.o;obtain ⟨U,X,Y,Z,aa,ab⟩:=jJ qR.o.l;go_wp2_with fail
   refine (Oz y6 D.1 W.1 w7 DC.o zB.o).mono ?_
   rintro e w8 ⟨rv,rfl,zl,dD⟩;have qU:=qR.o.a dD;obtain ⟨V,hV⟩:=ai (fP D.1 W.1);have HV:=ag hV;rw [<-hV];obtain ⟨w9,E5⟩:=aj (w8.alloc (.cells #[.string (bs V.1),.int .u32 V.2.1,.int .i64 V.2.2.1,.int .u32 V.2.2.2.1,.int .u32 V.2.2.2.2.1,.int .i64 V.2.2.2.2.2] 34));have bI:ah w8 w9:=by rw [<-E5];exact ae
   obtain ⟨p8,bd⟩:=aj w8.heap.size;have Um:=ag (show iw w9 p8 V by rw [<-E5,<-bd];exact Bq.new _ _ _);have nX:=ag (qU.a bI);have DX:=ag ((Bd.o.a dD).a bI);have I8:=ag ((Ew.o.a dD).a bI);have Un:=ag (show w.heap.size+2+1<p8 by rw [<-bd];obtain ⟨_,_,_,_,_,_,h9⟩:=qU.q;exact h9.lt);clear qU dD bI hV zl oH MZ gJ Q T fT gy gK U X Y Z aa ab;go_wp2_with fail
   have hK:aL (fun G=>tK w G J W∧bf G p9 y6∧iw G p8 V∧aW G w.heap.size y6.val D.1):=fun _ _ h hb=>⟨h.1.a hb,h.2.1.a hb,h.2.2.1.a hb,h.2.2.2.a hb⟩
   refine gH hK (by kernel_rfl) ⟨nX.o,DX.o,Um.o,I8.o⟩ ?_
   intro p;generalize w9.drew=wd at *;refine dm [0,1] (fuel:=3) (a':=?zza1) (by kernel_rfl) (by kernel_rfl) (by kernel_rfl) ?zzp1 p ?zzn1
   case zzp1=>
    iterate 2 (apply Yl.cons rfl (by kernel_rfl);focus (rintro G ⟨x1,x2,x3,x4⟩;obtain ⟨k0,k1,k2,k3,k4,k5⟩:=aV x2;obtain ⟨l0,l1,l2,l3,l4,l5⟩:=jJ x3;clear x1 x2 x3 x4;go_simp<;>with_reducible rfl);try simp only [az])
    exact Yl.nil
   try simp only [az]
   obtain ⟨⟨d0,e0⟩,⟨d1,e1⟩,⟨d2,e2⟩,⟨d3,e3⟩,⟨d4,e4⟩,⟨d5,e5⟩,d⟩:=p.1.r.cells;have f0:=d 0;have f1:=d 1;have f2:=d 2;have f3:=d 3;have f4:=d 4;have f5:=d 5;obtain ⟨K,n⟩:=p.1.r.put y6;have A:=p.2.2.2.assign p.1.r (w0:=w) p.1.b (by omega);obtain ⟨wb,DF⟩:=aj (aY wd (w.heap.size+2) y6);rw [DF] at K n A;have aE:=pJ.o;have JR:=Un.o;have z:tK w wb J W∧bf wb p9 y6∧iw wb p8 V∧aW wb w.heap.size y6.val D.1:=⟨⟨p.1.f.grown n (by omega),p.1.l.grown n (by omega),dE.of K,p.1.q.grown n (by omega),p.1.b.grown n p.1.b.size (by intro k E;cases E;omega)⟩,p.2.1.grown n (by omega),p.2.2.1.grown n (by omega),A.1⟩;unfold aY at DF;clear d n A aE JR;refine nL (i:=2) (w':=wb) rfl (by kernel_rfl) (by kernel_rfl) (by rw [<-DF];go_simp) z ?_
   clear p DF e0 e1 e2 e3 e4 e5 f0 f1 f2 f3 f4 f5;try simp only [az]
   obtain ⟨v0,v1,v2,v3,v4,v5,c⟩:=z.1.q;obtain ⟨c0,c1,c2,c3,Tn,c5⟩:=cu c;have g0:=c.fz 0;have u:=c.fz 1;have g2:=c.fz 2;have g3:=c.fz 3;have g4:=c.fz 4;have g5:=c.fz 5;obtain ⟨M,n⟩:=bK c (.string (bs V.1)) (.int .u32 V.2.1) (.int .i64 V.2.2.1) (.int .u32 V.2.2.2.1) (.int .u32 V.2.2.2.2.1) (.int .i64 V.2.2.2.2.2);obtain ⟨ws,bP⟩:=aj (bV wb (w.heap.size+2+1) (.string (bs V.1)) (.int .u32 V.2.1) (.int .i64 V.2.2.1) (.int .u32 V.2.2.2.1) (.int .u32 V.2.2.2.2.1) (.int .i64 V.2.2.2.2.2));rw [bP] at M n;have aE:=pJ.o;have JR:=Un.o;have am:tK w ws J W∧bf ws p9 y6∧iw ws p8 V∧aW ws w.heap.size y6.val D.1:=⟨⟨z.1.f.grown n (by omega),z.1.l.grown n (by omega),z.1.r.grown n (by omega),⟨_,_,_,_,_,_,M⟩,z.1.b.grown n z.1.b.size (by intro k E;cases E;omega)⟩,z.2.1.grown n (by omega),z.2.2.1.grown n (by omega),z.2.2.2.keptS n c (by decide) (by decide) (by decide) (by decide) (by decide)⟩;have gF:=ag (K.grown n (by omega));have gG:=ag M;unfold bV at bP;clear n aE JR c K M;refine nL (i:=3) (w':=ws) rfl (by kernel_rfl) (by kernel_rfl) (by rw [<-bP];go_simp) am ?_
   clear bP c0 c1 c2 c3 Tn c5 g0 u g2 g3 g4 g5 z;try simp only [az]
   refine dm [4] (fuel:=0) (a':=?zza2) (by kernel_rfl) (by kernel_rfl) (by kernel_rfl) ?zzp2 am ?zzn2
   case zzp2=>
    iterate 1 (apply Yl.cons rfl (by kernel_rfl);focus (rintro G ⟨x1,x2,x3,x4⟩;clear x1 x2 x3 x4;go_simp<;>with_reducible rfl);try simp only [az])
    exact Yl.nil
   refine wpAnyH_done (by kernel_rfl) ?_ _
   refine NoPanic.normal ?_
   try simp only [az]
   have eX:=ag am.1.b;have oU:=ag am.2.2.2;clear am hK;go_wp2;obtain ⟨p0,p1,p2,p3,p4,p5⟩:=aV gF.o;obtain ⟨r0,r1,r2,r3,r4,r5⟩:=jJ (show iw ws (w.heap.size+2+1) V from gG.o);refine bodyPost_ret (v:=.tuple #[y6.val,pR V,.int .i64 0]) ?_ rfl ⟨y6.val, ?_, ?_,eX.o⟩
   ·simp [results,Tryz.results11,go_sem,p0,p1,p2,p3,p4,p5,r0,r1,r2,r3,r4,r5]
   ·rw [HE.o,HV.o]
   ·rw [HE.o];exact oU.o
end Go.Proofs.YthpammbgcidloaaGreat

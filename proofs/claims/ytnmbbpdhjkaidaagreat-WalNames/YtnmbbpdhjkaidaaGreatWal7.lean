/-
  What wal's refused does; the frame of Append and New.
-/
import Derived.Test.YtnmbbpdhjkaidaaGreatMathFr
import Derived.Test.YtnmbbpdhjkaidaaGreatMathFs3
import Derived.Test.YtnmbbpdhjkaidaaGreatMathFs6
import Derived.Test.YtnmbbpdhjkaidaaGreatWal5
import Derived.Test.YtnmbbpdhjkaidaaGreatFsTop3
set_option maxHeartbeats 4000000
set_option maxRecDepth 100000
set_option linter.unusedVariables false
namespace Go.Proofs.YtnmbbpdhjkaidaaGreat
def ab7:List Fl:=[([97],[(34,1)])]
section
variable {x:List UInt8}
end
theorem qacr {n k:Nat} (h:128*k+128≤n):blk (List.replicate n 0) k=List.replicate 128 0:=by
 unfold blk;rw [List.drop_replicate,List.take_replicate,Nat.min_eq_left (by omega)]
end Go.Proofs.YtnmbbpdhjkaidaaGreat
namespace Go.Proofs.YtnmbbpdhjkaidaaGreat
open Go.RowKit
set_option linter.all false
def CellAt (w:World) (b o:Nat) (v:Value):Prop:=w.cell? ⟨b,o,none⟩=some v
theorem CellAt.carry {w w':World} {b o:Nat} {v:Value} (h:CellAt w b o v) (hb:Below w.heap.size w w'):CellAt w' b o v:=qaa _ _ _ _ h hb
theorem qlt {f:Fsd} (h:okFs f):WfX f:=by
 have h4:=((qcg f.1).1 (qaw h).1).2.2.1;have hk:=(qby (qte h)).2;refine ⟨(qkv h).2, ?_, ?_⟩
 ·intro g hg x hx
  have:=qd8 (qfm h).2.2.1 x ((qlf hg).subset hx)
  unfold wfX;omega
 ·intro g hg x hx
  have:=qd8 hk.2.2.1 x ((qlf hg).subset hx)
  unfold wfX;omega
def BelW (w0 w:World):Prop:=Below w0.heap.size w0 w
theorem BelW.refl (w:World):BelW w w:=Below.refl _ _
theorem BelW.carry {w0 w w':World} (h:BelW w0 w) (hb:Below w.heap.size w w'):BelW w0 w':=Below.trans h (hb.mono (Below.size h))
theorem BelW.size {w0 w:World} (h:BelW w0 w):w0.heap.size≤w.heap.size:=Below.size h
theorem qaf0 {x y:FsV} (h:x.val=y.val):x=y:=by
 cases x;cases y
 simp at h
 simp [h]
 omega
def PutI (w wr:World) (x xk:FsV) (f d:Fsd):Prop:=(xk=x∧d=f)∨OwFs wr w.heap.size xk.val d
theorem PutI.rd {w wr:World} {x xk:FsV} {f d:Fsd} (h:PutI w wr x xk f d) (hx:RdX w x f) (hb:Below w.heap.size w wr):RdX wr xk d:=by
 rcases h with ⟨rfl,rfl⟩ | h
 ·exact hx.carry hb
 ·obtain ⟨y,e,hy,_⟩:=h.bx
  have:xk=y:=qaf0 e
  rw [this];exact hy
theorem qze {f:Fsd} {s:List UInt8} {at0:Int} {l:List (List UInt8)} (hw:WfX f):∀k,(qdt f s at0 l k).2=0→WfX (qdt f s at0 l k).1
 | 0,_=>hw
 | k+1,h=>by
  rw [qdt] at h ⊢
  by_cases h0:(qdt f s at0 l k).2=0
  ·rw [if_neg (fun e=>e h0)] at h ⊢
   exact qlt (qoe h).1
  ·rw [if_pos h0] at h;exact absurd h h0
theorem qzf {f:Fsd} {s:List UInt8} {at0:Int} {l:List (List UInt8)} {k:Nat} (h0:(qdt f s at0 l k).2=0) (hk:k<l.length):qdt f s at0 l (k+1)=qcm (qdt f s at0 l k).1 s (at0+k) l[k]:=by
 rw [qdt,if_neg (fun e=>e h0),List.getD_eq_getElem?_getD,List.getElem?_eq_getElem hk];rfl
theorem qacs {f:Fsd} {s:List UInt8} {at0:Int} {l:List (List UInt8)} {k:Nat} (h0:¬(qdt f s at0 l k).2=0) (hk:k≤l.length):qep f s at0 l=qdt f s at0 l k:=by
 have:=qqg h0 (l.length - k)
 unfold qep
 rw [←this];congr 1;omega
theorem qaf1 (at0 k:Nat) (ha:at0≤100000) (hk:k≤100000):wrap64 ((at0:Int)+(k:Int))=(at0:Int)+(k:Int)∧wrap64 ((k:Int)+1)=((k+1:Nat):Int)∧IntKind.i64.wrap ((at0:Int)+(k:Int))=(at0:Int)+(k:Int):=by
 refine ⟨by unfold wrap64;omega,by unfold wrap64;omega,by rw [IntKind.wrap_i64];omega⟩
theorem qaf2 (x:FsV) (f:Fsd) (s:List UInt8) (at0:Nat) (a:Option Addr) (n c:Nat) (l:List (List UInt8)) (w:World) (h:RdX w x f) (hw:WfX f) (hl:RdL w (.slice a n c) l) (ha:at0≤100000) (hn4:n≤100000):
  Calls Tryz.prog 32 #[x.val,.string (bs s),.int .i64 at0,.slice a n c] w fun e w'=>∃y:FsV,e=.returned (.tuple #[y.val,.int .i64 (qep f s at0 l).2])∧PutI w w' x y f (qep f s at0 l).1∧Below w.heap.size w w':=by
 have HX:=hide h;have HW:=hide hw;have HL:=hide hl;have HN:=hide hl.le.1;have q0:Below w.heap.size w (w.alloc (.cells x.cs 33)):=(Below.refl _ _).alloc (Nat.le_refl _) _
 have hsz:(w.alloc (.cells x.cs 33)).heap.size=w.heap.size+1:=by simp
 obtain ⟨w1,ew⟩:∃w1,(w.alloc (.cells x.cs 33)).alloc (.cells #[.slice none 0 0,.slice none 0 0,.slice none 0 0,.int .u32 0,.slice none 0 0,.slice none 0 0] 33)=w1:=⟨_,rfl⟩
 have q1:Below (w.alloc (.cells x.cs 33)).heap.size (w.alloc (.cells x.cs 33)) w1:=by rw [←ew];exact (Below.refl _ _).alloc (Nat.le_refl _) _
 have qbo:=hide (show FsAt w1 w.heap.size x from (Bq.new w 33 x.cs).carry q1);have HG_w1:=hide (show FsB w1 (w.heap.size+1) by rw [←ew,←hsz];exact FsB.new _);have qaf:=hide (show Below w.heap.size w w1 from q0.trans (q1.mono (by omega)));obtain ⟨k0,k1,k2,k3,k4,k5⟩:=qab qbo.out;obtain ⟨hat,hgr⟩:=HG_w1.out.put x;obtain ⟨⟨d0,e0⟩,⟨d1,e1⟩,⟨d2,e2⟩,⟨d3,e3⟩,⟨d4,e4⟩,⟨d5,e5⟩,ff⟩:=HG_w1.out.cells;have f0:=ff 0;have f1:=ff 1;have f2:=ff 2;have f3:=ff 3;have f4:=ff 4;have f5:=ff 5;obtain ⟨w2,ew2⟩:∃w2,set6 w1 (w.heap.size+1) x=w2:=⟨_,rfl⟩;rw [ew2] at hat hgr;have qf0:=hide hat;have qan:=hide (show Below w.heap.size w w2 from qaf.out.grown hgr qaf.out.size (by intro k hk;cases hk;omega));unfold set6 at ew2;have EW2:=hide ew2;clear h hw hl q0 q1 hsz hat hgr ff ew2;unfold FsV.val;unfold FsV.cs at ew
 go_enter Tryz.func32,Tryz.ntmps32
 go_wp2;rw [EW2.out];clear k0 k1 k2 k3 k4 k5 e0 e1 e2 e3 e4 e5 f0 f1 f2 f3 f4 f5 ew EW2
 go_loopw [10,9] (fun i e wr=>∃(k:Nat) (xk:FsV),k≤n∧i=.int .i64 k∧e=.int .i64 (qdt f s at0 l k).2∧Hid (FsAt wr (w.heap.size+1) xk)∧Hid (PutI w wr x xk f (qdt f s at0 l k).1)∧Hid (Below w.heap.size w wr)) (fun i _ _=>n - (intOf i).toNat)
 case atStart=>exact ⟨0,x,Nat.zero_le _,rfl,rfl,qf0,hide (.inl ⟨rfl,rfl⟩),qan⟩
 case round=>
  obtain ⟨k,xk,hk,rfl,rfl,hF,hP,HB⟩:=hrel;obtain ⟨E,hE⟩:∃E,E=(qdt f s at0 l k).2:=⟨_,rfl⟩;have HE:=hide hE;rw [←hE];clear hE
  by_cases hgo:k<n∧E=0
  ·obtain ⟨hlt,hE0⟩:=hgo
   subst hE0
   have hlt':(k:Int)<n:=by omega
   have hkl:k<l.length:=by rw [←HN.out];exact hlt
   obtain ⟨⟨F9,E9⟩,h9⟩:∃D:Fsd × Int,D=qdt f s at0 l (k+1):=⟨_,rfl⟩;have HN9:=hide h9;have hnx:=qzf (f:=f) (s:=s) (at0:=at0) HE.out.symm hkl;rw [←h9] at hnx;obtain ⟨rb,ro,ry,rz,rfl,hrc,hrr⟩:=HL.out.at k hkl;have HRC:=hide (show CellAt wr rb (ro+k) (.slice ry (l[k]).length rz) from CellAt.carry hrc HB.out);have HRR:=hide (hrr.carry HB.out)
   have HPUT:=hide (show ∀wx:World,BelW wr wx→Calls Tryz.prog 42 #[xk.val,.string (bs s),.int .i64 ((at0:Int)+(k:Int)),.slice ry (l[k]).length rz] wx fun e w'=>∃v,e=.returned (.tuple #[v,.int .i64 E9])∧OwFs w' wx.heap.size v F9∧Below wx.heap.size wx w' by
    intro wx hx;have hh:=qac9 xk (qdt f s at0 l k).1 s ((at0:Int)+(k:Int)) ry (l[k]).length rz l[k] wx ((hP.out.rd HX.out HB.out).carry hx) (qze HW.out k HE.out.symm) (HRR.out.carry hx);rw [←hnx] at hh
    exact hh)
   obtain ⟨a1,a2,a3⟩:=qaf1 at0 k ha (by omega);have hs1:=hF.out;clear hrc hrr h9 hnx hP HE;go_wp2
   have hK:Keeps (fun wx=>FsAt wx (w.heap.size+1) xk∧BelW wr wx):=fun _ _ h hb=>⟨h.1.carry hb,h.2.carry hb⟩
   refine qdm hK 13 (by kernel_rfl) ⟨hF.out,BelW.refl wr⟩ ?_
   intro hS;clear hs1 hF;generalize wr.drew=wd at *
   refine qca [0,1,2,3,4,5,6,7,8] (fuel:=6) (a':=?zp1a) (by kernel_rfl) (by kernel_rfl) (by kernel_rfl) ?zp1p hS ?zp1n
   case zp1p=>
    iterate 9 (apply Yl.cons rfl (by kernel_rfl);focus (rintro wx ⟨x1,x2⟩;obtain ⟨j0,j1,j2,j3,j4,j5⟩:=qab x1;(have r1:wx.cell? ⟨rb,ro+k,none⟩=some (.slice ry (l[k]).length rz):=CellAt.carry HRC.out x2);go_simp;all_goals (with_reducible rfl));try simp only [Act.put,sA,sB,sC])
    exact Yl.nil
   refine qkf hK (i:=9) (R:=fun v wy=>∃y:FsV,v=.tuple #[y.val,.int .i64 E9]∧OwFs wy w.heap.size y.val F9) rfl (by kernel_rfl) (by rfl) (by go_simp) hS ((HPUT.out wd (hS.2)).mono fun e wy ⟨v,h1,h2,h3⟩=>by obtain ⟨y,ey,_,h4⟩:=h2.bx;subst ey;exact ⟨_,h1,⟨y,rfl,h4.mono (Nat.le_trans HB.out.size (BelW.size hS.2))⟩,h3⟩) (fun v _ _ ⟨y,h,h'⟩ hb=>⟨y,h,h'.carry hb⟩) ?_
   intro v32 w32 hKn hRn hSn;clear hK hS;have hK:=hKn;have hS:=hSn;clear hKn hSn;obtain ⟨y9,rfl,ho9⟩:=hRn
   try simp only [Act.put,sA,sB,sC]
   refine qca [10,11] (fuel:=3) (a':=?zp2a) (by kernel_rfl) (by kernel_rfl) (by kernel_rfl) ?zp2p hS ?zp2n
   case zp2p=>
    iterate 2 (apply Yl.cons rfl (by kernel_rfl);focus (rintro wx ⟨⟨x1,x2⟩,_⟩;go_simp;all_goals (with_reducible rfl));try simp only [Act.put,sA,sB,sC])
    exact Yl.nil
   refine qcd (i:=12) (v:=?qpv12) rfl (by kernel_rfl) (by kernel_rfl) (by kernel_rfl) rfl (by rfl) ?qpy12 (fun _=>hS) ?qpr12
   case qpy12=>(intro wx;go_simp;all_goals (with_reducible rfl))
   try simp only [Act.put,sA,sB,sC]
   obtain ⟨⟨s1,s2⟩, -⟩:=hS;have hst:=ho9.assign (FsB.of s1) (w0:=w) (HB.out.trans (Below.mono s2 HB.out.size)) (by omega);obtain ⟨⟨d0,e0⟩,⟨d1,e1⟩,⟨d2,e2⟩,⟨d3,e3⟩,⟨d4,e4⟩,⟨d5,e5⟩,ff⟩:=(FsB.of s1).cells;have f0:=ff 0;have f1:=ff 1;have f2:=ff 2;have f3:=ff 3;have f4:=ff 4;have f5:=ff 5;obtain ⟨ws,ews⟩:∃ws,set6 w32 (w.heap.size+1) y9=ws:=⟨_,rfl⟩;rw [ews] at hst;have HST:=hide hst;unfold set6 at ews;clear ff s1 s2 hst ho9
   refine qb9 (i:=13) (w':=ws) rfl (by kernel_rfl) (by kernel_rfl) (by rfl) (by rw [←ews];go_simp) ?_
   clear ews e0 e1 e2 e3 e4 e5 f0 f1 f2 f3 f4 f5
   try simp only [Act.put,sA,sB,sC]
   refine qcd (i:=14) (v:=?qpv14) rfl (by kernel_rfl) (by kernel_rfl) (by kernel_rfl) rfl (by rfl) ?qpy14 (fun h=>absurd h (by decide)) ?qpr14
   case qpy14=>(intro wx;go_simp;all_goals (with_reducible rfl))
   try simp only [Act.put,sA,sB,sC]
   refine qb5 (by kernel_rfl) ?_ _
   refine NoPanic.normal ?_
   try simp only [Act.put,sA,sB,sC]
   clear hK;go_wp2;go_roundw
   case rel=>exact ⟨k+1,y9,by omega,rfl,by rw [←HN9.out],hide HST.out.2.2.1,hide (.inr (by rw [←HN9.out];exact HST.out.1)),hide HST.out.2.1⟩
   case measure=>simp only [intOf];omega
  ·have hst:=hF.out
   obtain ⟨j0,j1,j2,j3,j4,j5⟩:=qab hF.out;have f0:=hF.out.fz 0;have f1:=hF.out.fz 1;have f2:=hF.out.fz 2;have f3:=hF.out.fz 3;have f4:=hF.out.fz 4;have f5:=hF.out.fz 5;obtain ⟨hat,hgr⟩:=(FsB.of hF.out).put xk;obtain ⟨ws,ews⟩:∃ws,set6 wr (w.heap.size+1) xk=ws:=⟨_,rfl⟩
   have HRS:=hide (show Below w.heap.size w ws∧PutI w ws x xk f (qdt f s at0 l k).1 by
    have hBs:Below w.heap.size w ws:=by rw [←ews];exact HB.out.grown hgr HB.out.size (by intro k hk;cases hk;omega)
    refine ⟨hBs, ?_⟩
    rcases hP.out with ⟨e1,e2⟩ | hO
    ·exact .inl ⟨e1,e2⟩
    ·have h4:=(hO.assign (FsB.of hF.out) (w0:=w) HB.out (by omega)).1
     rw [ews] at h4;exact .inr h4)
   rw [ews] at hat;have HAT:=hide hat;unfold set6 at ews;have EWS:=hide ews
   have HFIN:=hide (show qep f s at0 l=qdt f s at0 l k by
    by_cases h0:E=0
    ·have:k=l.length:=by have:=HN.out;have:¬k<n:=fun h=>hgo ⟨h,h0⟩;omega
     rw [this];rfl
    ·exact qacs (by rw [←HE.out];exact h0) (by have:=HN.out;omega))
   have hcase:(¬k<n∧decide ((k:Int)<n)=false)∨(k<n∧(k:Int)<n∧(E==0)=false):=by
    by_cases h1:k<n
    ·exact .inr ⟨h1,by omega,by simpa using fun h=>hgo ⟨h1,h⟩⟩
    ·exact .inl ⟨h1,decide_eq_false (by omega)⟩
   clear hgo hst hat hgr ews hP hF
   rcases hcase with ⟨hlt,g1⟩ | ⟨hlt,g1,g2⟩
   all_goals
    go_wp2;rw [EWS.out];obtain ⟨p0,p1,p2,p3,p4,p5⟩:=qab HAT.out;clear EWS j0 j1 j2 j3 j4 j5 f0 f1 f2 f3 f4 f5 g1
    refine bodyPost_ret (v:=.tuple #[xk.val,.int .i64 E]) ?_ rfl ⟨xk, ?_, ?_,HRS.out.1⟩
    ·simp [results,Tryz.results32,go_sem,p0,p1,p2,p3,p4,p5]
    ·rw [HFIN.out,←HE.out]
    ·rw [HFIN.out];exact HRS.out.2
def WlB (w:World) (r:Nat):Prop:=∃v0 v1 v2 v3 v4 v5,Bq w r 35 #[v0,v1,v2,v3,v4,v5]
theorem WlB.carry {w w':World} {r:Nat} (h:WlB w r) (hb:Below w.heap.size w w'):WlB w' r:=by
 obtain ⟨v0,v1,v2,v3,v4,v5,h⟩:=h;exact ⟨v0,v1,v2,v3,v4,v5,h.carry hb⟩
theorem WlB.grown {w w':World} {r p:Nat} (h:WlB w r) (hg:w.grownBy w' (some p)) (hne:r≠p):WlB w' r:=by
 obtain ⟨v0,v1,v2,v3,v4,v5,h⟩:=h;exact ⟨v0,v1,v2,v3,v4,v5,h.grown hg hne⟩
theorem WlB.new (w:World):WlB (w.alloc (.cells #[.string ⟨#[]⟩,.int .u32 0,.int .i64 0,.int .u32 0,.int .u32 0,.int .i64 0] 35)) w.heap.size:=⟨_,_,_,_,_,_,Bq.new _ _ _⟩
theorem qbt (e:Int) (w:World):
  Calls Tryz.prog 30 #[.int .i64 e] w fun e' w'=>e'=.returned (.tuple #[.agg #[.slice none 0 0,.slice none 0 0,.slice none 0 0,.int .u32 0,.slice none 0 0,.slice none 0 0],.agg #[.string ⟨#[]⟩,.int .u32 0,.int .i64 0,.int .u32 0,.int .u32 0,.int .i64 0],.int .i64 e])∧Below w.heap.size w w':=by
 have q0:Below w.heap.size w (w.alloc (.cells #[.slice none 0 0,.slice none 0 0,.slice none 0 0,.int .u32 0,.slice none 0 0,.slice none 0 0] 33)):=(Below.refl _ _).alloc (Nat.le_refl _) _
 have hsz:(w.alloc (.cells #[.slice none 0 0,.slice none 0 0,.slice none 0 0,.int .u32 0,.slice none 0 0,.slice none 0 0] 33)).heap.size=w.heap.size+1:=by simp
 obtain ⟨w1,ew⟩:∃w1,(w.alloc (.cells #[.slice none 0 0,.slice none 0 0,.slice none 0 0,.int .u32 0,.slice none 0 0,.slice none 0 0] 33)).alloc (.cells #[.string ⟨#[]⟩,.int .u32 0,.int .i64 0,.int .u32 0,.int .u32 0,.int .i64 0] 35)=w1:=⟨_,rfl⟩
 have q1:Below (w.alloc (.cells #[.slice none 0 0,.slice none 0 0,.slice none 0 0,.int .u32 0,.slice none 0 0,.slice none 0 0] 33)).heap.size (w.alloc (.cells #[.slice none 0 0,.slice none 0 0,.slice none 0 0,.int .u32 0,.slice none 0 0,.slice none 0 0] 33)) w1:=by rw [←ew];exact (Below.refl _ _).alloc (Nat.le_refl _) _
 have hrF:FsB w1 w.heap.size:=(FsB.new w).carry q1
 have hrW:WlB w1 (w.heap.size+1):=by rw [←ew,←hsz];exact ⟨_,_,_,_,_,_,Bq.new _ _ _⟩
 have HB:=hide (show Below w.heap.size w w1 from q0.trans (q1.mono (by omega)));clear q0 q1 hsz;obtain ⟨⟨d0,e0⟩,⟨d1,e1⟩,⟨d2,e2⟩,⟨d3,e3⟩,⟨d4,e4⟩,⟨d5,e5⟩,ff⟩:=hrF.cells;have f0:=ff 0;have f1:=ff 1;have f2:=ff 2;have f3:=ff 3;have f4:=ff 4;have f5:=ff 5;obtain ⟨_,_,_,_,_,_,hqF⟩:=hrF;obtain ⟨hat1,hgr1⟩:=put6 hqF (.slice none 0 0) (.slice none 0 0) (.slice none 0 0) (.int .u32 0) (.slice none 0 0) (.slice none 0 0);obtain ⟨w8,e8⟩:∃w8,qao w1 (w.heap.size) (.slice none 0 0) (.slice none 0 0) (.slice none 0 0) (.int .u32 0) (.slice none 0 0) (.slice none 0 0)=w8:=⟨_,rfl⟩;rw [e8] at hat1 hgr1;obtain ⟨_,_,_,_,_,_,hqW⟩:=hrW;have hq8:=hqW.grown hgr1 (by omega);obtain ⟨c0,c1,c2,c3,c4,c5⟩:=qal hq8;have g0:=hq8.fz 0;have g1:=hq8.fz 1;have g2:=hq8.fz 2;have g3:=hq8.fz 3;have g4:=hq8.fz 4;have g5:=hq8.fz 5;obtain ⟨hat2,hgr2⟩:=put6 hq8 (.string ⟨#[]⟩) (.int .u32 0) (.int .i64 0) (.int .u32 0) (.int .u32 0) (.int .i64 0);obtain ⟨ws,es⟩:∃ws,qao w8 (w.heap.size+1) (.string ⟨#[]⟩) (.int .u32 0) (.int .i64 0) (.int .u32 0) (.int .u32 0) (.int .i64 0)=ws:=⟨_,rfl⟩;rw [es] at hat2 hgr2;have HFS:=hide (hat1.grown hgr2 (by omega));have HWS:=hide hat2;have HBS:=hide (show Below w.heap.size w ws from (HB.out.grown hgr1 HB.out.size (by intro k hk;cases hk;omega)).grown hgr2 (Nat.le_trans HB.out.size hgr1.size) (by intro k hk;cases hk;omega));unfold qao at e8 es
 go_enter Tryz.func30,Tryz.ntmps30
 clear hat1 hgr1 hat2 hgr2 hq8 hqF hqW ff;go_wp2;obtain ⟨p0,p1,p2,p3,p4,p5⟩:=qal HFS.out;obtain ⟨r0,r1,r2,r3,r4,r5⟩:=qal HWS.out
 refine bodyPost_ret (v:=.tuple #[.agg #[.slice none 0 0,.slice none 0 0,.slice none 0 0,.int .u32 0,.slice none 0 0,.slice none 0 0],.agg #[.string ⟨#[]⟩,.int .u32 0,.int .i64 0,.int .u32 0,.int .u32 0,.int .i64 0],.int .i64 e]) ?_ rfl ⟨rfl,HBS.out⟩
 ·simp [results,Tryz.results30,go_sem,p0,p1,p2,p3,p4,p5,r0,r1,r2,r3,r4,r5]
structure ApA (w wx:World) (xk:FsV) (W:Wl):Prop where
 f:FsAt wx w.heap.size xk
 l:WlAt wx (w.heap.size+1) W
 r:FsB wx (w.heap.size+2)
 q:WlB wx (w.heap.size+2+1)
 b:Below w.heap.size w wx
theorem ApA.carry {w wx wy:World} {xk:FsV} {W:Wl} (h:ApA w wx xk W) (hb:Below wx.heap.size wx wy):ApA w wy xk W:=⟨h.f.carry hb,h.l.carry hb,h.r.carry hb,h.q.carry hb,h.b.trans (hb.mono h.b.size)⟩
theorem ApA.set {w wx:World} {xk:FsV} {W:Wl} (h:ApA w wx xk W) (y:FsV):ApA w (set6 wx w.heap.size y) y W∧wx.grownBy (set6 wx w.heap.size y) (some w.heap.size):=by
 obtain ⟨h1,h2⟩:=(FsB.of h.f).put y;exact ⟨⟨h1,h.l.grown h2 (by omega),h.r.grown h2 (by omega),h.q.grown h2 (by omega),h.b.grown h2 h.b.size (by intro k hk;cases hk;exact Nat.le_refl _)⟩,h2⟩
structure NwA (w wx:World) (xk:FsV):Prop where
 f:FsAt wx w.heap.size xk
 r:FsB wx (w.heap.size+1)
 q:WlB wx (w.heap.size+1+1)
 b:Below w.heap.size w wx
theorem NwA.carry {w wx wy:World} {xk:FsV} (h:NwA w wx xk) (hb:Below wx.heap.size wx wy):NwA w wy xk:=⟨h.f.carry hb,h.r.carry hb,h.q.carry hb,h.b.trans (hb.mono h.b.size)⟩
theorem NwA.set {w wx:World} {xk:FsV} (h:NwA w wx xk) (y:FsV):NwA w (set6 wx w.heap.size y) y∧wx.grownBy (set6 wx w.heap.size y) (some w.heap.size):=by
 obtain ⟨h1,h2⟩:=(FsB.of h.f).put y;exact ⟨⟨h1,h.r.grown h2 (by omega),h.q.grown h2 (by omega),h.b.grown h2 h.b.size (by intro k hk;cases hk;exact Nat.le_refl _)⟩,h2⟩
theorem ApA.start (w:World) (x:FsV) (W:Wl):ApA w ((((w.alloc (.cells x.cs 33)).alloc (.cells (wlC W) 35)).alloc (.cells #[.slice none 0 0,.slice none 0 0,.slice none 0 0,.int .u32 0,.slice none 0 0,.slice none 0 0] 33)).alloc (.cells #[.string ⟨#[]⟩,.int .u32 0,.int .i64 0,.int .u32 0,.int .u32 0,.int .i64 0] 35)) x W:=by
 have s1:(w.alloc (.cells x.cs 33)).heap.size=w.heap.size+1:=by simp
 have s2:((w.alloc (.cells x.cs 33)).alloc (.cells (wlC W) 35)).heap.size=w.heap.size+2:=by simp
 have s3:(((w.alloc (.cells x.cs 33)).alloc (.cells (wlC W) 35)).alloc (.cells #[.slice none 0 0,.slice none 0 0,.slice none 0 0,.int .u32 0,.slice none 0 0,.slice none 0 0] 33)).heap.size=w.heap.size+2+1:=by simp
 have al:∀(u:World) (o:Obj),Below u.heap.size u (u.alloc o):=fun u o=>(Below.refl _ _).alloc (Nat.le_refl _) _
 have b1:=al w (.cells x.cs 33);have b2:=al (w.alloc (.cells x.cs 33)) (.cells (wlC W) 35);have b3:=al ((w.alloc (.cells x.cs 33)).alloc (.cells (wlC W) 35)) (.cells #[.slice none 0 0,.slice none 0 0,.slice none 0 0,.int .u32 0,.slice none 0 0,.slice none 0 0] 33);have b4:=al (((w.alloc (.cells x.cs 33)).alloc (.cells (wlC W) 35)).alloc (.cells #[.slice none 0 0,.slice none 0 0,.slice none 0 0,.int .u32 0,.slice none 0 0,.slice none 0 0] 33)) (.cells #[.string ⟨#[]⟩,.int .u32 0,.int .i64 0,.int .u32 0,.int .u32 0,.int .i64 0] 35);have h1:FsAt _ w.heap.size x:=Bq.new w 33 x.cs;have h2:WlAt _ (w.heap.size+1) W:=s1 ▸ Bq.new (w.alloc (.cells x.cs 33)) 35 (wlC W);have h3:FsB _ (w.heap.size+2):=s2 ▸ FsB.new ((w.alloc (.cells x.cs 33)).alloc (.cells (wlC W) 35));have h4:WlB _ (w.heap.size+2+1):=s3 ▸ WlB.new (((w.alloc (.cells x.cs 33)).alloc (.cells (wlC W) 35)).alloc (.cells #[.slice none 0 0,.slice none 0 0,.slice none 0 0,.int .u32 0,.slice none 0 0,.slice none 0 0] 33));exact ⟨((h1.carry b2).carry b3).carry b4,(h2.carry b3).carry b4,h3.carry b4,h4,((b1.trans (b2.mono (by omega))).trans (b3.mono (by omega))).trans (b4.mono (by omega))⟩
theorem NwA.start (w:World) (x:FsV):NwA w (((w.alloc (.cells x.cs 33)).alloc (.cells #[.slice none 0 0,.slice none 0 0,.slice none 0 0,.int .u32 0,.slice none 0 0,.slice none 0 0] 33)).alloc (.cells #[.string ⟨#[]⟩,.int .u32 0,.int .i64 0,.int .u32 0,.int .u32 0,.int .i64 0] 35)) x:=by
 have s1:(w.alloc (.cells x.cs 33)).heap.size=w.heap.size+1:=by simp
 have s2:((w.alloc (.cells x.cs 33)).alloc (.cells #[.slice none 0 0,.slice none 0 0,.slice none 0 0,.int .u32 0,.slice none 0 0,.slice none 0 0] 33)).heap.size=w.heap.size+1+1:=by simp
 have al:∀(u:World) (o:Obj),Below u.heap.size u (u.alloc o):=fun u o=>(Below.refl _ _).alloc (Nat.le_refl _) _
 have b1:=al w (.cells x.cs 33);have b2:=al (w.alloc (.cells x.cs 33)) (.cells #[.slice none 0 0,.slice none 0 0,.slice none 0 0,.int .u32 0,.slice none 0 0,.slice none 0 0] 33);have b3:=al ((w.alloc (.cells x.cs 33)).alloc (.cells #[.slice none 0 0,.slice none 0 0,.slice none 0 0,.int .u32 0,.slice none 0 0,.slice none 0 0] 33)) (.cells #[.string ⟨#[]⟩,.int .u32 0,.int .i64 0,.int .u32 0,.int .u32 0,.int .i64 0] 35);have h1:FsAt _ w.heap.size x:=Bq.new w 33 x.cs;have h3:FsB _ (w.heap.size+1):=s1 ▸ FsB.new (w.alloc (.cells x.cs 33));have h4:WlB _ (w.heap.size+1+1):=s2 ▸ WlB.new ((w.alloc (.cells x.cs 33)).alloc (.cells #[.slice none 0 0,.slice none 0 0,.slice none 0 0,.int .u32 0,.slice none 0 0,.slice none 0 0] 33));exact ⟨(h1.carry b2).carry b3,h3.carry b3,h4,(b1.trans (b2.mono (by omega))).trans (b3.mono (by omega))⟩
end Go.Proofs.YtnmbbpdhjkaidaaGreat

/-
  What the document's Do does.
-/
import Derived.Test.YthilibleedbchaaGreatLAgain
set_option maxHeartbeats 2000000
set_option maxRecDepth 100000
namespace Go.Proofs.YthilibleedbchaaGreat
open Go.RowKit
set_option linter.all false
def errD (d:Dk) (l:List Ac):Int:=if chk d≠0 then chk d else qcf (mny d) l
theorem qabf (d:Dk):errD d []=chk d:=by
 unfold errD
 by_cases h:chk d=0
 ·rw [if_neg (by simpa using h),h];rfl
 ·rw [if_pos h]
theorem qk8 (k:Nat) (a:Ac):∀l:List Ac,qcf k (l++[a])=if qcf k l=0 then actE k a else qcf k l
 | []=>by
  show (if actE k a=0 then (0:Int) else actE k a)=_
  by_cases h:actE k a=0
  ·simp [h,qcf]
  ·simp [h,qcf]
 | b::l=>by
  have ih:=qk8 k a l
  show (if actE k b=0 then qcf k (l++[a]) else actE k b)=if (if actE k b=0 then qcf k l else actE k b)=0 then actE k a else (if actE k b=0 then qcf k l else actE k b)
  by_cases h:actE k b=0
  ·simp only [h,if_true];exact ih
  ·simp only [h,if_false]
theorem qx2 (d:Dk) (l:List Ac) (k:Nat) (hk:k<l.length) (h:errD d (l.take k)=0):errD d (l.take (k+1))=actE (mny d) l[k]:=by
 unfold errD at h ⊢
 by_cases hc:chk d=0
 ·rw [if_neg (by simpa using hc)] at h ⊢
  rw [List.take_succ_eq_append_getElem hk,qk8,if_pos h]
 ·rw [if_pos hc] at h;exact absurd h hc
theorem qk9 (k:Nat):∀(l l':List Ac),qcf k l≠0→qcf k (l++l')=qcf k l
 | [],_,h=>absurd rfl h
 | b::l,l',h=>by
  rw [List.cons_append];unfold qcf at h ⊢
  by_cases hb:actE k b=0
  ·rw [if_pos hb] at h ⊢;rw [if_pos hb];exact qk9 k l l' h
  ·rw [if_neg hb,if_neg hb]
theorem qx3 (d:Dk) (l:List Ac) (k:Nat) (h:errD d (l.take k)≠0):errD d l=errD d (l.take k):=by
 unfold errD at h ⊢
 by_cases hc:chk d=0
 ·rw [if_neg (by simpa using hc)] at h ⊢
  rw [if_neg (by simpa using hc)]
  have:=qk9 (mny d) (l.take k) (l.drop k) h
  rwa [List.take_append_drop] at this
 ·rw [if_pos hc,if_pos hc]
theorem qabg (d:Dk) (l:List Ac) (many:Int) (h:errD d l≠0):doD d l many=(dz,errD d l):=by
 unfold doD;unfold errD at h ⊢
 by_cases hc:chk d=0
 ·have hx:¬(chk d≠0):=by simpa using hc
  simp only [if_neg hx] at h ⊢
  rw [if_pos h]
 ·rw [if_pos hc,if_pos hc]
theorem qif (d:Dk) (l:List Ac) (h:errD d l=0):chk d=0∧qcf (mny d) l=0:=by
 unfold errD at h
 by_cases hc:chk d=0
 ·rw [if_neg (by simpa using hc)] at h
  exact ⟨hc,h⟩
 ·rw [if_pos hc] at h;exact absurd h hc
theorem qx4 (d:Dk) (l:List Ac) (many:Int) (h:errD d l=0) (hm:many<0∨(l.length:Int)<many):doD d l many=(dz,2):=by
 obtain ⟨h1,h2⟩:=qif d l h;unfold doD;rw [if_neg (by rw [h1];decide),if_neg (by rw [h2];decide),if_pos hm]
theorem qacu (d:Dk) (l:List Ac) (mn:Nat) (h:errD d l=0) (hm:mn≤l.length):doD d l mn=(match qbs d (l.take mn) with | none=>(dz,9) | some x=>(x,0)):=by
 obtain ⟨h1,h2⟩:=qif d l h;unfold doD;rw [if_neg (by rw [h1];decide),if_neg (by rw [h2];decide),if_neg (by omega)];rfl
theorem qaef {d:Dk} (h:chk d=0):okD d=true:=by
 rcases qdw d with ⟨h1,_⟩ | ⟨_,h2⟩
 ·exact h1
 ·rw [h2] at h;cases h
theorem qaeg {d:Dk} {v:Value} (l:List Ac) (a:Option Addr) (n c:Nat) (many:Int) (w:World) (hD:RdD w v d) (hA:RdA w (.slice a n c) l) (hn:n=l.length):
  Calls Tryz.prog 54 #[v,.slice a n c,.int .i64 many] w fun e w'=>∃dv,e=.returned (.tuple #[dv,.int .i64 (doD d l many).2])∧OwD w' w.heap.size dv (doD d l many).1∧Below w.heap.size w w':=by
 obtain ⟨a1,c1,a2,c2,a3,c3,rfl,h1,h2,h3⟩:=hD.form;have hml:=hA.len_le;have hml1:=h1.len_le;have HD:=hide hD;have HA:=hide hA;have HN:=hide hn
 have hnm:n≤maxLen:=by omega
 clear hD hA hn hml h1 h2 h3;unfold maxLen at hnm;generalize e1:d.1.length=n1 at *;generalize e2:d.2.1.length=n2 at *;generalize e3:d.2.2.length=n3 at *;have HNM:=hide hml1;have HMY:=hide (show mny d=n1 / 128 by rw [←e1];rfl);clear e1 e2 e3 hml1;obtain ⟨w1,ew⟩:∃w1,(w.alloc (.cells #[.slice a1 n1 c1,.slice a2 n2 c2,.slice a3 n3 c3] 26)).alloc (.cells #[.slice none 0 0,.slice none 0 0,.slice none 0 0] 26)=w1:=⟨_,rfl⟩
 have hb1:Below w.heap.size w w1:=by rw [←ew];exact ((Below.refl _ _).alloc (Nat.le_refl _) _).alloc (by simp) _
 have hd1:w1.heap[w.heap.size]? =some (.cells #[.slice a1 n1 c1,.slice a2 n2 c2,.slice a3 n3 c3] 26 (0,0)):=by
  rw [←ew,heap_alloc_old _ _ (by simp)];exact heap_alloc_new _ _
 have hr1:w1.heap[w.heap.size+1]? =some (.cells #[.slice none 0 0,.slice none 0 0,.slice none 0 0] 26 (0,0)):=by rw [←ew];exact qau _ _ _
 obtain ⟨k0,k1,k2,_⟩:=cells3 hd1
 go_enter Tryz.func54,Tryz.ntmps54
 go_wp2_with fail
 refine (qg5 (d:=d) _ (HD.out.carry hb1)).mono ?_
 rintro e w2 ⟨rfl,hb2⟩;have hB2:Below w.heap.size w w2:=hb1.trans (hb2.mono hb1.size);have hd2:=qac _ _ _ _ hd1 hb2;have hr2:=qac _ _ _ _ hr1 hb2;clear ew k0 k1 k2 hr1 hd1 hb1 hb2;obtain ⟨ce,hce⟩:∃ce,chk d=ce:=⟨_,rfl⟩;rw [hce];have HCE:=hide hce;clear hce;go_wp2
 go_loopw [8,9] (fun ee i wr=>∃(k:Nat) (E:Int),k≤n∧ee=.int .i64 E∧i=.int .i64 k∧Hid (errD d (l.take k)=E)∧Below w2.heap.size w2 wr) (fun _ i _=>n - (intOf i).toNat)
 case atStart=>exact ⟨0,ce,Nat.zero_le _,rfl,rfl,(qabf d).trans HCE.out,Below.refl _ _⟩
 case round=>
  obtain ⟨k,E,hk,rfl,rfl,hE,hbel⟩:=hrel;have hBr:Below w.heap.size w wr:=hB2.trans (hbel.mono hB2.size);have hdr:=qac _ _ _ _ hd2 hbel;have hrr:=qac _ _ _ _ hr2 hbel;obtain ⟨k0,k1,k2,_⟩:=cells3 hdr
  by_cases hE0:E=0
  case neg=>
   have HE:=hide (show doD d l many=(dz,E) by
    have h1:=hE.out;have h2:=qx3 d l k (by rw [h1];exact hE0)
    rw [qabg d l many (by rw [h2,h1];exact hE0),h2,h1])
   have hE1:(E==0)=false:=by simpa using hE0
   have hE2:(E !=0)=true:=by simpa using hE0
   clear k0 k1 k2 hdr
   by_cases hlt:k<n
   ·have hlt':(k:Int)<n:=by omega
    obtain ⟨ws,ews,hws,hgs⟩:=qbi (.slice none 0 0) (.slice none 0 0) (.slice none 0 0) hrr;obtain ⟨z1,z2,z3,z4⟩:=cells3 hrr;obtain ⟨q1,q2,q3,q4⟩:=cells3 hws;have hbs:=hBr.grown hgs hBr.size (fun k hk=>by cases hk;simp);clear hws hgs;go_wp2
    refine bodyPost_ret (v:=.tuple #[.agg #[.slice none 0 0,.slice none 0 0,.slice none 0 0],.int .i64 E]) ?_ rfl ?_
    ·simp [results,Tryz.results54,go_sem, *]
    ·rw [HE.out];exact ⟨_,rfl,qb3 _ _,hbs⟩
   ·have hlt':decide ((k:Int)<n)=false:=by simpa using (by omega:¬(k:Int)<n)
    obtain ⟨ws,ews,hws,hgs⟩:=qbi (.slice none 0 0) (.slice none 0 0) (.slice none 0 0) hrr;obtain ⟨z1,z2,z3,z4⟩:=cells3 hrr;obtain ⟨q1,q2,q3,q4⟩:=cells3 hws;have hbs:=hBr.grown hgs hBr.size (fun k hk=>by cases hk;simp);clear hws hgs;go_wp2
    refine bodyPost_ret (v:=.tuple #[.agg #[.slice none 0 0,.slice none 0 0,.slice none 0 0],.int .i64 E]) ?_ rfl ?_
    ·simp [results,Tryz.results54,go_sem, *]
    ·rw [HE.out];exact ⟨_,rfl,qb3 _ _,hbs⟩
  subst hE0
  by_cases hlt:k<n
  ·have hlt':(k:Int)<n:=by omega
   have hkl:k<l.length:=by have:=HN.out;omega
   obtain ⟨b,off,rfl,q0,q0',x,m,c9,q1,q2,q3⟩:=(HA.out.carry hBr).at k hkl;have HX:=hide q3;clear q2 q3;obtain ⟨pe,hpe⟩:∃pe,actE (mny d) l[k]=pe:=⟨_,rfl⟩;have HPE:=hide (show actE (n1 / 128) ((l[k]).1,(l[k]).2.1,(l[k]).2.2)=pe by rw [←HMY.out];exact hpe);have HST:=hide ((qx2 d l k hkl hE.out).trans hpe);clear hpe;have hK:Keeps (fun wx=>(wx.cell? ⟨w.heap.size,0,none⟩=some (.slice a1 n1 c1)∧wx.cell? ⟨w.heap.size,1,none⟩=some (.slice a2 n2 c2)∧wx.cell? ⟨w.heap.size,2,none⟩=some (.slice a3 n3 c3))∧(wx.cell? ⟨b,off+k*3,none⟩=some (.bool (l[k]).1)∧wx.cell? ⟨b,off+k*3+1,none⟩=some (.int .i64 (l[k]).2.1)∧wx.cell? ⟨b,off+k*3+2,none⟩=some (.slice x m c9))∧Below w2.heap.size w2 wx):=((qaa _ _).and ((qaa _ _).and (qaa _ _))).and (((qaa _ _).and ((qaa _ _).and (qaa _ _))).and (qal _));go_wp2
   refine qaj hK (by kernel_rfl) ⟨⟨k0,k1,k2⟩,⟨q0,q0',q1⟩,hbel⟩ ?_
   intro hS
   refine qah [0,1,2,3,4] (fuel:=3) (a':=?zp1a) (by kernel_rfl) (by kernel_rfl) (by kernel_rfl) ?zp1p hS ?zp1n
   case zp1p=>
    iterate 5 (apply Yl.cons rfl (by kernel_rfl);focus (rintro wx ⟨⟨x1,x2,x3⟩,⟨y1,y2,y3⟩,hbx⟩;go_simp;all_goals (with_reducible rfl));try simp only [Act.put,sA,sB,sC])
    exact Yl.nil
   refine qar hK (i:=5) (v:=.int .i64 (n1 / 128:Nat)) rfl (by kernel_rfl) (by rfl) (by go_simp) hS (qgk a1 a2 a3 n1 c1 n2 c2 n3 c3 HNM.out _) ?_
   clear hS;intro w31 hS
   try simp only [Act.put,sA,sB,sC]
   refine qar hK (i:=6) (v:=.int .i64 pe) rfl (by kernel_rfl) (by rfl) (by go_simp) hS ((qtz (l[k]).1 (l[k]).2.1 x m c9 (l[k]).2.2 (n1 / 128) HX.out _).mono fun e wy ⟨h1,h2⟩=>⟨h1.trans (by rw [HPE.out]),h2⟩) ?_
   clear hS;intro w32 hS
   try simp only [Act.put,sA,sB,sC]
   refine qad (i:=7) (v:=?qav7) rfl (by kernel_rfl) (by kernel_rfl) (by kernel_rfl) (by rfl) ?qay7 hS ?qar7
   case qay7=>(rintro wx ⟨⟨x1,x2,x3⟩,⟨y1,y2,y3⟩,hbx⟩;go_simp;all_goals (with_reducible rfl))
   try simp only [Act.put,sA,sB,sC]
   refine wpAnyH_done (by kernel_rfl) ?_ _
   refine NoPanic.normal ?_
   obtain ⟨_,_,hb9⟩:=hS;go_wp2;go_roundw
   case rel=>exact ⟨k+1,pe,by omega,rfl,by go_num,HST.out,hb9⟩
   case measure=>simp [intOf]<;>omega
  have hlt':decide ((k:Int)<n)=false:=by simpa using (by omega:¬(k:Int)<n)
  have HE00:=hide (show errD d l=0 by
   have:=hE.out
   rwa [List.take_of_length_le (by have:=HN.out;omega)] at this)
  by_cases hm0:many<0
  ·have HE:=hide (qx4 d l many HE00.out (.inl hm0))
   clear k0 k1 k2 hdr;obtain ⟨ws,ews,hws,hgs⟩:=qbi (.slice none 0 0) (.slice none 0 0) (.slice none 0 0) hrr;obtain ⟨z1,z2,z3,z4⟩:=cells3 hrr;obtain ⟨q1,q2,q3,q4⟩:=cells3 hws;have hbs:=hBr.grown hgs hBr.size (fun k hk=>by cases hk;simp);clear hws hgs;go_wp2
   refine bodyPost_ret (v:=.tuple #[.agg #[.slice none 0 0,.slice none 0 0,.slice none 0 0],.int .i64 2]) ?_ rfl ?_
   ·simp [results,Tryz.results54,go_sem, *]
   ·rw [HE.out];exact ⟨_,rfl,qb3 _ _,hbs⟩
  have hm0':decide (many<0)=false:=by simpa using hm0
  by_cases hm1:(n:Int)<many
  ·have HE:=hide (qx4 d l many HE00.out (.inr (by rw [←HN.out];exact hm1)))
   clear k0 k1 k2 hdr;obtain ⟨ws,ews,hws,hgs⟩:=qbi (.slice none 0 0) (.slice none 0 0) (.slice none 0 0) hrr;obtain ⟨z1,z2,z3,z4⟩:=cells3 hrr;obtain ⟨q1,q2,q3,q4⟩:=cells3 hws;have hbs:=hBr.grown hgs hBr.size (fun k hk=>by cases hk;simp);clear hws hgs;go_wp2
   refine bodyPost_ret (v:=.tuple #[.agg #[.slice none 0 0,.slice none 0 0,.slice none 0 0],.int .i64 2]) ?_ rfl ?_
   ·simp [results,Tryz.results54,go_sem, *]
   ·rw [HE.out];exact ⟨_,rfl,qb3 _ _,hbs⟩
  obtain ⟨mn,rfl⟩:∃mn:Nat,many=mn:=⟨many.toNat,by omega⟩
  have hmn:mn≤n:=by omega
  have hm1':decide ((n:Int)<mn)=false:=by simpa using hm1
  have HE:=hide (qacu d l mn HE00.out (by have:=HN.out;omega));have HOK:=hide (qaef (qif d l HE00.out).1);have HAA:=hide (qhq _ _ (qif d l HE00.out).2);obtain ⟨hfine,hc1,hc2⟩:=Fine.of_ok HOK.out;have HF:=hide hfine;clear hfine HE00 hm0 hm1 hE HCE
  go_wp2_with fail
  refine (qxz (d:=d) wr (HD.out.carry hBr) HOK.out).mono ?_
  rintro e w3 ⟨v3,B,rfl,hDv3,hb3⟩;obtain ⟨g3,cap3,y2,yc2,y3,yc3,rfl,_⟩:=id hDv3;obtain ⟨w4,ew4⟩:∃w4,w3.alloc (.cells #[.slice (some ⟨g3,0,none⟩) d.1.length cap3,.slice y2 d.2.1.length yc2,.slice y3 d.2.2.length yc3] 26)=w4:=⟨_,rfl⟩
  have hb4:Below w3.heap.size w3 w4:=by rw [←ew4];exact (Below.refl _ _).alloc (Nat.le_refl _) _
  have hX4:w4.heap[w3.heap.size]? =some (.cells #[.slice (some ⟨g3,0,none⟩) d.1.length cap3,.slice y2 d.2.1.length yc2,.slice y3 d.2.2.length yc3] 26 (0,0)):=by rw [←ew4];exact heap_alloc_new _ _
  have hB3:=hBr.trans (hb3.mono hBr.size);have hB4:=hB3.trans (hb4.mono hB3.size);have hR4:=qac _ _ _ _ (qac _ _ _ _ hrr hb3) hb4;have HDV:=hide ((hDv3.carry hb4).mono hBr.size);have hgx:w.heap.size+1<w3.heap.size:=Nat.lt_of_lt_of_le (Array.getElem?_eq_some_iff.1 hrr).1 hb3.size;obtain ⟨gX,hgX⟩:∃gX,gX=w3.heap.size:=⟨_,rfl⟩;rw [←hgX] at hX4 hgx;clear hDv3 hb3 hb4 hrr hdr k0 k1 k2 hbel hBr hB3 hlt hlt' hk;go_wp2;rw [←hgX];clear hgX ew4
  go_loopw [11] (fun i wq=>∃(k:Nat) (dk:Dk) (X:Bv),k≤mn∧i=.int .i64 k∧wq.heap[gX]? =some (.cells #[.slice X.a1 X.n1 X.c1,.slice X.a2 X.n2 X.c2,.slice X.a3 X.n3 X.c3] 26 (0,0))∧wq.heap[w.heap.size+1]? =some (.cells #[.slice none 0 0,.slice none 0 0,.slice none 0 0] 26 (0,0))∧Hid (qbs d (l.take k)=some dk∧Fine (mny d) dk∧Dv wq w.heap.size B (.agg #[.slice X.a1 X.n1 X.c1,.slice X.a2 X.n2 X.c2,.slice X.a3 X.n3 X.c3]) dk)∧Below w.heap.size w wq) (fun i _=>mn - (intOf i).toNat)
  case atStart=>exact ⟨0,d,⟨_,_,_,_,_,_,_,_,_,0⟩,Nat.zero_le _,rfl,hX4,hR4,⟨rfl,HF.out,HDV.out⟩,hB4⟩
  case round=>
   obtain ⟨k,dk,X,hk,rfl,hXq,hRq,hin,hbel⟩:=hrel;obtain ⟨hx0,hx1,hx2,hx3⟩:=cells3 hXq
   by_cases hlt:k<mn
   ·have hlt':(k:Int)<mn:=by omega
    have hkl:k<l.length:=by have:=HN.out;omega
    obtain ⟨b,off,rfl,q0,q0',x,m,c9,q1,q2,q3⟩:=(HA.out.carry hbel).at k hkl;obtain ⟨_,_,e9,_,_,x9,m9,c9',p1,p2,p3⟩:=HA.out.at k hkl;cases e9;have hbw:b<w.heap.size:=World.block_lt_of_cell? w _ p1
    have ex:x=x9∧m=m9∧c9=c9':=by
     have:=q1.symm.trans (qaa _ _ _ _ p1 hbel)
     injection this with this
     injection this with t1 t2 t3
     exact ⟨t1,t2,t3⟩
    obtain ⟨rfl,rfl,rfl⟩:=ex
    have hni:(k:Int)<n:=by omega
    have HX:=hide q3;have HR:=hide p2;have HAK:=hide (HAA.out _ (List.getElem_mem hkl));clear q2 q3 p1 p2 p3
    obtain ⟨POST,hPOST⟩:∃POST:Bv→World→Prop,POST=fun y wz=>KD wr wz∧Below w.heap.size w wz∧((oneD dk l[k]=none∧y.r=9)∨∃d',oneD dk l[k]=some d'∧y.r=0∧Dv wz w.heap.size B (.agg #[.slice y.a1 y.n1 y.c1,.slice y.a2 y.n2 y.c2,.slice y.a3 y.n3 y.c3]) d'):=⟨_,rfl⟩
    have HCALL:=hide (show ∀wx,Below wr.heap.size wr wx→Calls Tryz.prog 110 #[.agg #[.slice X.a1 X.n1 X.c1,.slice X.a2 X.n2 X.c2,.slice X.a3 X.n3 X.c3],.agg #[.bool (l[k]).1,.int .i64 (l[k]).2.1,.slice x m c9]] wx fun e w'=>∃y:Bv,e=.returned (.tuple #[.agg #[.slice y.a1 y.n1 y.c1,.slice y.a2 y.n2 y.c2,.slice y.a3 y.n3 y.c3],.int .i64 y.r])∧POST y w'∧KD wx w'∧KD wr w'∧Below w.heap.size w w' from fun wx hbx=>by
     refine (qx1 w B (mny d) dk _ (l[k]).1 (l[k]).2.1 x m c9 (l[k]).2.2 wx (hin.out.2.2.carry hbx) (hbel.trans (hbx.mono hbel.size)) HR.out HX.out (by have:=qj0 HAK.out;omega) hin.out.2.1 hc2).mono ?_
     rintro e w' ⟨v',r,rfl,hkd,⟨f1,f2,f3,f4,f5,f6,f7,f8,f9,rfl⟩,hbb,hcase⟩;have hkq:KD wr w':=((KD.refl wr).below hbx).trans hkd;refine ⟨⟨f1,f2,f3,f4,f5,f6,f7,f8,f9,r⟩,rfl, ?_,hkd,hkq,hbb⟩;rw [hPOST]
     exact ⟨hkq,hbb,hcase⟩)
    have HPK:=hide (show ∀y p q',POST y p→Below p.heap.size p q'→POST y q' from fun y p q' h hb=>by
     rw [hPOST] at h ⊢;obtain ⟨h1,h2,h3⟩:=h;refine ⟨h1.below hb,h2.trans (hb.mono h2.size), ?_⟩
     rcases h3 with h3 | ⟨d',h4,h5,h6⟩
     ·exact .inl h3
     ·exact .inr ⟨d',h4,h5,h6.carry hb⟩)
    have HPG:=hide (show ∀y p q' g cs,wr.heap.size≤g→POST y p→p.heap[g]? =some (.cells cs 26 (0,0))→p.grownBy q' (some g)→POST y q' from fun y p q' g cs hg h hc hgr=>by
     rw [hPOST] at h ⊢;obtain ⟨h1,h2,h3⟩:=h
     have:=hbel.size
     refine ⟨h1.grown hgr (fun j hj=>by cases hj;exact .inl hg),h2.grown hgr h2.size (fun j hj=>by cases hj;omega), ?_⟩
     rcases h3 with h3 | ⟨d',h4,h5,h6⟩
     ·exact .inl h3
     ·exact .inr ⟨d',h4,h5,h6.keptT hgr hc⟩)
    have hgXw:gX<wr.heap.size:=(Array.getElem?_eq_some_iff.1 hXq).1
    have HNX:=hide (show ∀(g:Nat) (h:wr.heap.size≤g),some gX≠some g from fun g h e=>by
     have:gX=g:=by simpa using e
     omega)
    have hbws:=hbel.size
    have HNB:=hide (show ∀(g:Nat) (h:wr.heap.size≤g),some b≠some g from fun g h e=>by
     have:b=g:=by simpa using e
     omega)
    have HSK:=hide (show ∀wy,KD wr wy→Below w.heap.size w wy→(fun wx=>(wx.cell? ⟨gX,0,none⟩=some (.slice X.a1 X.n1 X.c1)∧wx.cell? ⟨gX,1,none⟩=some (.slice X.a2 X.n2 X.c2)∧wx.cell? ⟨gX,2,none⟩=some (.slice X.a3 X.n3 X.c3))∧(wx.cell? ⟨b,off+k*3,none⟩=some (.bool (l[k]).1)∧wx.cell? ⟨b,off+k*3+1,none⟩=some (.int .i64 (l[k]).2.1)∧wx.cell? ⟨b,off+k*3+2,none⟩=some (.slice x m c9))) wy from fun wy h1 h2=>by
     obtain ⟨z0,z1,z2,_⟩:=cells3 (h1.2 _ _ _ hXq);obtain ⟨_,_,e9,r0,r0',x8,m8,c8,r1,_,_⟩:=(HA.out.carry h2).at k hkl;cases e9;obtain ⟨_,_,e9,_,_,x7,m7,c7,s1,_,_⟩:=HA.out.at k hkl;cases e9;have t1:=(qaa _ _ _ _ s1 h2).symm.trans r1;have t2:=(qaa _ _ _ _ s1 hbel).symm.trans q1;rw [←t1,t2] at r1
     exact ⟨⟨z0,z1,z2⟩,r0,r0',r1⟩)
    go_wp2
    refine qr7 (α:=Nat × Bv) (F:=fun bx a=>((((((((((((a.put (some 57) (.agg #[.slice X.a1 X.n1 X.c1,.slice X.a2 X.n2 X.c2,.slice X.a3 X.n3 X.c3])).put (some 58) (.slice (some ⟨b,off,none⟩) n c)).put (some 59) (.int .i64 k)).put (some 60) (.pointer (some ⟨b,off+k*3,none⟩))).put (some 61) (.agg #[.bool (l[k]).1,.int .i64 (l[k]).2.1,.slice x m c9])).put (some 62) (.tuple #[.agg #[.slice bx.2.a1 bx.2.n1 bx.2.c1,.slice bx.2.a2 bx.2.n2 bx.2.c2,.slice bx.2.a3 bx.2.n3 bx.2.c3],.int .i64 bx.2.r])).put (some 56) (.tuple #[.agg #[.slice bx.2.a1 bx.2.n1 bx.2.c1,.slice bx.2.a2 bx.2.n2 bx.2.c2,.slice bx.2.a3 bx.2.n3 bx.2.c3],.int .i64 bx.2.r])).put (some 63) (.agg #[.slice bx.2.a1 bx.2.n1 bx.2.c1,.slice bx.2.a2 bx.2.n2 bx.2.c2,.slice bx.2.a3 bx.2.n3 bx.2.c3])).put (some 64) (.int .i64 bx.2.r)).put (some 12) (.pointer (some ⟨bx.1,0,none⟩))).put none undef).put (some 13) (.int .i64 bx.2.r))) (R:=fun bx wz=>wz.heap[bx.1]? =some (.cells #[.slice bx.2.a1 bx.2.n1 bx.2.c1,.slice bx.2.a2 bx.2.n2 bx.2.c2,.slice bx.2.a3 bx.2.n3 bx.2.c3] 26 (0,0))∧wr.heap.size≤bx.1∧POST bx.2 wz) ?regqb ?impqb
    case regqb=>
     have hK:Keeps (fun wx=>(wx.cell? ⟨gX,0,none⟩=some (.slice X.a1 X.n1 X.c1)∧wx.cell? ⟨gX,1,none⟩=some (.slice X.a2 X.n2 X.c2)∧wx.cell? ⟨gX,2,none⟩=some (.slice X.a3 X.n3 X.c3))∧(wx.cell? ⟨b,off+k*3,none⟩=some (.bool (l[k]).1)∧wx.cell? ⟨b,off+k*3+1,none⟩=some (.int .i64 (l[k]).2.1)∧wx.cell? ⟨b,off+k*3+2,none⟩=some (.slice x m c9))):=((qaa _ _).and ((qaa _ _).and (qaa _ _))).and ((qaa _ _).and ((qaa _ _).and (qaa _ _)));have hS0:(fun wx=>(wx.cell? ⟨gX,0,none⟩=some (.slice X.a1 X.n1 X.c1)∧wx.cell? ⟨gX,1,none⟩=some (.slice X.a2 X.n2 X.c2)∧wx.cell? ⟨gX,2,none⟩=some (.slice X.a3 X.n3 X.c3))∧(wx.cell? ⟨b,off+k*3,none⟩=some (.bool (l[k]).1)∧wx.cell? ⟨b,off+k*3+1,none⟩=some (.int .i64 (l[k]).2.1)∧wx.cell? ⟨b,off+k*3+2,none⟩=some (.slice x m c9))) wr:=⟨⟨hx0,hx1,hx2⟩,⟨q0,q0',q1⟩⟩
     refine qaj hK (by kernel_rfl) hS0 ?_
     intro hS;have hd0:Below wr.heap.size wr wr.drew:=(Below.refl _ _).drew
     refine qad (i:=0) (v:=?qbpv0) rfl (by kernel_rfl) (by kernel_rfl) (by kernel_rfl) (by rfl) ?qbpy0 hS ?qbpr0
     case qbpy0=>(rintro wx ⟨⟨x1,x2,x3⟩,⟨y1,y2,y3⟩⟩;go_simp;all_goals (with_reducible rfl))
     try simp only [Act.put,sA,sB,sC]
     refine qad (i:=1) (v:=?qbpv1) rfl (by kernel_rfl) (by kernel_rfl) (by kernel_rfl) (by rfl) ?qbpy1 hS ?qbpr1
     case qbpy1=>(rintro wx ⟨⟨x1,x2,x3⟩,⟨y1,y2,y3⟩⟩;go_simp;all_goals (with_reducible rfl))
     try simp only [Act.put,sA,sB,sC]
     refine qad (i:=2) (v:=?qbpv2) rfl (by kernel_rfl) (by kernel_rfl) (by kernel_rfl) (by rfl) ?qbpy2 hS ?qbpr2
     case qbpy2=>(rintro wx ⟨⟨x1,x2,x3⟩,⟨y1,y2,y3⟩⟩;go_simp;all_goals (with_reducible rfl))
     try simp only [Act.put,sA,sB,sC]
     refine qad (i:=3) (v:=?qbpv3) rfl (by kernel_rfl) (by kernel_rfl) (by kernel_rfl) (by rfl) ?qbpy3 hS ?qbpr3
     case qbpy3=>(rintro wx ⟨⟨x1,x2,x3⟩,⟨y1,y2,y3⟩⟩;go_simp;all_goals (with_reducible rfl))
     try simp only [Act.put,sA,sB,sC]
     refine qad (i:=4) (v:=?qbpv4) rfl (by kernel_rfl) (by kernel_rfl) (by kernel_rfl) (by rfl) ?qbpy4 hS ?qbpr4
     case qbpy4=>(rintro wx ⟨⟨x1,x2,x3⟩,⟨y1,y2,y3⟩⟩;go_simp;all_goals (with_reducible rfl))
     try simp only [Act.put,sA,sB,sC]
     refine qoc (i:=5) (j:=9) (by kernel_rfl) ?_ ?_
     ·skip
      refine qh9 (R:=fun v wy=>∃bx:Bv,v=.tuple #[.agg #[.slice bx.a1 bx.n1 bx.c1,.slice bx.a2 bx.n2 bx.c2,.slice bx.a3 bx.n3 bx.c3],.int .i64 bx.r]∧POST bx wy∧KD (wr.drew) wy∧KD wr wy∧Below w.heap.size w wy) rfl (by rfl) (by obtain ⟨⟨x1,x2,x3⟩,⟨y1,y2,y3⟩⟩:=hS;go_simp) ((HCALL.out wr.drew hd0).mono fun e wy ⟨bx,h1,h2⟩=>⟨_,h1,bx,rfl,h2⟩) ?_
      rintro vv wA ⟨bx,rfl,hPA,hkA,hxA⟩;have hsA:wr.heap.size≤wA.heap.size:=hkA.1;have hSA:(fun wx=>(wx.cell? ⟨gX,0,none⟩=some (.slice X.a1 X.n1 X.c1)∧wx.cell? ⟨gX,1,none⟩=some (.slice X.a2 X.n2 X.c2)∧wx.cell? ⟨gX,2,none⟩=some (.slice X.a3 X.n3 X.c3))∧(wx.cell? ⟨b,off+k*3,none⟩=some (.bool (l[k]).1)∧wx.cell? ⟨b,off+k*3+1,none⟩=some (.int .i64 (l[k]).2.1)∧wx.cell? ⟨b,off+k*3+2,none⟩=some (.slice x m c9))) wA:=HSK.out _ hxA.1 hxA.2;refine ⟨hSA, ?_⟩;clear hS;have hS:=hSA
      try simp only [Act.put,sA,sB,sC]
      refine qah [6,7,8] (fuel:=3) (a':=?zp2a) (by kernel_rfl) (by kernel_rfl) (by kernel_rfl) ?zp2p hS ?zp2n
      case zp2p=>
       iterate 3 (apply Yl.cons rfl (by kernel_rfl);focus (rintro wx ⟨⟨x1,x2,x3⟩,⟨y1,y2,y3⟩⟩;go_simp;all_goals (with_reducible rfl));try simp only [Act.put,sA,sB,sC])
       exact Yl.nil
      obtain ⟨wB,ewB⟩:∃wB,wA.alloc (.cells #[.slice none 0 0,.slice none 0 0,.slice none 0 0] 26)=wB:=⟨_,rfl⟩
      have hbB:Below wA.heap.size wA wB:=by rw [←ewB];exact (Below.refl _ _).alloc (Nat.le_refl _) _
      have hzB:wB.heap[wA.heap.size]? =some (.cells #[.slice none 0 0,.slice none 0 0,.slice none 0 0] 26 (0,0)):=by rw [←ewB];exact heap_alloc_new _ _
      have hSB:=hK _ _ hSA hbB
      refine qdq (i:=9) (v:=.pointer (some ⟨wA.heap.size,0,none⟩)) (w':=wB) rfl (by kernel_rfl) (by rfl) (by rw [←ewB];go_simp) hSB ?_
      clear hS;have hS:=hSB
      try simp only [Act.put,sA,sB,sC]
      obtain ⟨wC,ewC,hzC,hgC⟩:=qbi (.slice bx.a1 bx.n1 bx.c1) (.slice bx.a2 bx.n2 bx.c2) (.slice bx.a3 bx.n3 bx.c3) hzB;obtain ⟨y1,y2,y3,y4⟩:=cells3 hzB
      have hSC:(fun wx=>(wx.cell? ⟨gX,0,none⟩=some (.slice X.a1 X.n1 X.c1)∧wx.cell? ⟨gX,1,none⟩=some (.slice X.a2 X.n2 X.c2)∧wx.cell? ⟨gX,2,none⟩=some (.slice X.a3 X.n3 X.c3))∧(wx.cell? ⟨b,off+k*3,none⟩=some (.bool (l[k]).1)∧wx.cell? ⟨b,off+k*3+1,none⟩=some (.int .i64 (l[k]).2.1)∧wx.cell? ⟨b,off+k*3+2,none⟩=some (.slice x m c9))) wC:=by
       obtain ⟨⟨x1,x2,x3⟩,y1,y2,y3⟩:=hSB;exact ⟨⟨hgC.cell x1 (HNX.out _ hsA),hgC.cell x2 (HNX.out _ hsA),hgC.cell x3 (HNX.out _ hsA)⟩,hgC.cell y1 (HNB.out _ hsA),hgC.cell y2 (HNB.out _ hsA),hgC.cell y3 (HNB.out _ hsA)⟩
      refine qbx (i:=10) (w':=wC) rfl (by kernel_rfl) (by rfl) (by rw [←ewC];go_simp) hSC ?_
      clear hS;have hS:=hSC
      try simp only [Act.put,sA,sB,sC]
      refine qad (i:=11) (v:=?qbbv11) rfl (by kernel_rfl) (by kernel_rfl) (by kernel_rfl) (by rfl) ?qbby11 hS ?qbbr11
      case qbby11=>(rintro wx ⟨⟨x1,x2,x3⟩,⟨y1,y2,y3⟩⟩;go_simp;all_goals (with_reducible rfl))
      try simp only [Act.put,sA,sB,sC]
      refine wpAnyH_done (by kernel_rfl) ?_ _
      refine NoPanic.normal ?_
      exact ⟨rfl,(wA.heap.size,bx),by simp only [Act.put,sA,sB,sC],hzC,hsA,HPG.out _ _ _ _ _ hsA (HPK.out _ _ _ hPA hbB) hzB hgC⟩
     ·skip
      obtain ⟨wA,ewA⟩:∃wA,wr.drew.alloc (.cells #[.slice none 0 0,.slice none 0 0,.slice none 0 0] 26)=wA:=⟨_,rfl⟩
      have hbA:Below wr.heap.size wr wA:=by rw [←ewA];exact ((Below.refl _ _).drew).alloc (Nat.le_refl _) _
      have hzA:wA.heap[wr.heap.size]? =some (.cells #[.slice none 0 0,.slice none 0 0,.slice none 0 0] 26 (0,0)):=by rw [←ewA];exact heap_alloc_new _ _
      have hSA:=hK _ _ hS0 hbA;refine qod (v:=.pointer (some ⟨wr.heap.size,0,none⟩)) (w':=wA) rfl (by rfl) (by rw [←ewA];go_simp) ⟨hSA, ?_⟩;clear hS;have hS:=hSA
      try simp only [Act.put,sA,sB,sC]
      refine qat (i:=5) (R:=fun v wy=>∃bx:Bv,v=.tuple #[.agg #[.slice bx.a1 bx.n1 bx.c1,.slice bx.a2 bx.n2 bx.c2,.slice bx.a3 bx.n3 bx.c3],.int .i64 bx.r]∧POST bx wy∧KD (wA) wy∧KD wr wy∧Below w.heap.size w wy) rfl (by kernel_rfl) (by rfl) (by obtain ⟨⟨x1,x2,x3⟩,⟨y1,y2,y3⟩⟩:=hS;go_simp) ((HCALL.out wA hbA).mono fun e wy ⟨bx,h1,h2⟩=>⟨_,h1,bx,rfl,h2⟩) ?_
      rintro vv wB ⟨bx,rfl,hPB,hkB,hxB⟩;have hSB:(fun wx=>(wx.cell? ⟨gX,0,none⟩=some (.slice X.a1 X.n1 X.c1)∧wx.cell? ⟨gX,1,none⟩=some (.slice X.a2 X.n2 X.c2)∧wx.cell? ⟨gX,2,none⟩=some (.slice X.a3 X.n3 X.c3))∧(wx.cell? ⟨b,off+k*3,none⟩=some (.bool (l[k]).1)∧wx.cell? ⟨b,off+k*3+1,none⟩=some (.int .i64 (l[k]).2.1)∧wx.cell? ⟨b,off+k*3+2,none⟩=some (.slice x m c9))) wB:=HSK.out _ hxB.1 hxB.2;refine ⟨hSB, ?_⟩;clear hS;have hS:=hSB
      try simp only [Act.put,sA,sB,sC]
      refine qah [6,7,8] (fuel:=2) (a':=?zp3a) (by kernel_rfl) (by kernel_rfl) (by kernel_rfl) ?zp3p hS ?zp3n
      case zp3p=>
       iterate 3 (apply Yl.cons rfl (by kernel_rfl);focus (rintro wx ⟨⟨x1,x2,x3⟩,⟨y1,y2,y3⟩⟩;go_simp;all_goals (with_reducible rfl));try simp only [Act.put,sA,sB,sC])
       exact Yl.nil
      have hzB:=hkB.2 _ _ _ hzA;obtain ⟨wC,ewC,hzC,hgC⟩:=qbi (.slice bx.a1 bx.n1 bx.c1) (.slice bx.a2 bx.n2 bx.c2) (.slice bx.a3 bx.n3 bx.c3) hzB;obtain ⟨y1,y2,y3,y4⟩:=cells3 hzB
      have hSC:(fun wx=>(wx.cell? ⟨gX,0,none⟩=some (.slice X.a1 X.n1 X.c1)∧wx.cell? ⟨gX,1,none⟩=some (.slice X.a2 X.n2 X.c2)∧wx.cell? ⟨gX,2,none⟩=some (.slice X.a3 X.n3 X.c3))∧(wx.cell? ⟨b,off+k*3,none⟩=some (.bool (l[k]).1)∧wx.cell? ⟨b,off+k*3+1,none⟩=some (.int .i64 (l[k]).2.1)∧wx.cell? ⟨b,off+k*3+2,none⟩=some (.slice x m c9))) wC:=by
       obtain ⟨⟨x1,x2,x3⟩,y1,y2,y3⟩:=hSB;exact ⟨⟨hgC.cell x1 (HNX.out _ (Nat.le_refl _)),hgC.cell x2 (HNX.out _ (Nat.le_refl _)),hgC.cell x3 (HNX.out _ (Nat.le_refl _))⟩,hgC.cell y1 (HNB.out _ (Nat.le_refl _)),hgC.cell y2 (HNB.out _ (Nat.le_refl _)),hgC.cell y3 (HNB.out _ (Nat.le_refl _))⟩
      refine qbx (i:=10) (w':=wC) rfl (by kernel_rfl) (by rfl) (by rw [←ewC];go_simp) hSC ?_
      clear hS;have hS:=hSC
      try simp only [Act.put,sA,sB,sC]
      refine qad (i:=11) (v:=?qbdv11) rfl (by kernel_rfl) (by kernel_rfl) (by kernel_rfl) (by rfl) ?qbdy11 hS ?qbdr11
      case qbdy11=>(rintro wx ⟨⟨x1,x2,x3⟩,⟨y1,y2,y3⟩⟩;go_simp;all_goals (with_reducible rfl))
      try simp only [Act.put,sA,sB,sC]
      refine wpAnyH_done (by kernel_rfl) ?_ _
      refine NoPanic.normal ?_
      exact ⟨rfl,(wr.heap.size,bx),by simp only [Act.put,sA,sB,sC],hzC,Nat.le_refl _,HPG.out _ _ _ _ _ (Nat.le_refl _) hPB hzB hgC⟩
    case impqb=>
     rintro ⟨gY,bx⟩ wz ⟨hY,hgY,hP⟩;dsimp only at hY hgY;rw [hPOST] at hP;obtain ⟨hkq,hbz,hcase⟩:=hP;have hXz:=hkq.2 _ _ _ hXq;have hRz:=hkq.2 _ _ _ hRq;have htk:l.take (k+1)=l.take k++[l[k]]:=List.take_succ_eq_append_getElem hkl
     simp only [Act.put,sA,sB,sC]
     clear HCALL HPK HPG HSK HNX HNB hPOST q0 q0' q1 hx0 hx1 hx2 hx3
     rcases hcase with ⟨eo,hr⟩ | ⟨d',eo,hr,hDv'⟩
     ·rw [hr]
      have HE:=hide (show doD d l mn=(dz,9) by
       have e1:qbs d (l.take (k+1))=none:=by rw [htk,qem,hin.out.1];exact eo
       have e2:l.take mn=l.take (k+1)++(l.take mn).drop (k+1):=take_split l _ _ (by omega)
       rw [HE.out,e2,qmy _ _ _ e1])
      clear eo htk hr hY hXz hkq;obtain ⟨ws,ews,hws,hgs⟩:=qbi (.slice none 0 0) (.slice none 0 0) (.slice none 0 0) hRz;obtain ⟨z1,z2,z3,z4⟩:=cells3 hRz;obtain ⟨q1,q2,q3,q4⟩:=cells3 hws;have hbs:=hbz.grown hgs hbz.size (fun k hk=>by cases hk;simp);clear hws hgs;go_wp2
      refine bodyPost_ret (v:=.tuple #[.agg #[.slice none 0 0,.slice none 0 0,.slice none 0 0],.int .i64 9]) ?_ rfl ?_
      ·simp [results,Tryz.results54,go_sem, *]
      ·rw [HE.out];exact ⟨_,rfl,qb3 _ _,hbs⟩
     ·rw [hr]
      have HN9:=hide (show qbs d (l.take (k+1))=some d' by rw [htk,qem,hin.out.1];exact eo);have HF9:=hide (hin.out.2.1.one HAK.out eo).1;obtain ⟨y0,y1,y2,_⟩:=cells3 hY;obtain ⟨x0,x1,x2,x3⟩:=cells3 hXz;obtain ⟨ws,ews,hws,hgs⟩:=qbi (.slice bx.a1 bx.n1 bx.c1) (.slice bx.a2 bx.n2 bx.c2) (.slice bx.a3 bx.n3 bx.c3) hXz;have HDs:=hide (hDv'.keptT hgs hXz);have hbs:=hbz.grown hgs hbz.size (fun j hj=>by cases hj;omega);have hRs:=(hgs.block _ (Array.getElem?_eq_some_iff.1 hRz).1 (fun e=>absurd (Option.some.inj e) (by omega))).trans hRz;clear eo htk hr hkq hDv' hgs;go_wp2;go_roundw
      case rel=>exact ⟨k+1,d',bx,by omega,by go_num,hws,hRs,⟨HN9.out,HF9.out,HDs.out⟩,hbs⟩
      case measure=>simp [intOf]<;>omega
   ·have hlt':decide ((k:Int)<mn)=false:=by simpa using (by omega:¬(k:Int)<mn)
    have HE0:=hide (show doD d l mn=(dk,0) by
     have:k=mn:=by omega
     rw [HE.out,←this,hin.out.1])
    obtain ⟨ws,ews,hws,hgs⟩:=qbi (.slice X.a1 X.n1 X.c1) (.slice X.a2 X.n2 X.c2) (.slice X.a3 X.n3 X.c3) hRq;obtain ⟨x1,x2,x3,x4⟩:=cells3 hRq;obtain ⟨q1,q2,q3,q4⟩:=cells3 hws;have hbs:=hbel.grown hgs hbel.size (fun k hk=>by cases hk;simp);have HOD:=hide (hin.out.2.2.keptT hgs hRq).own;clear hws hgs hRq hXq;go_wp2
    refine bodyPost_ret (v:=.tuple #[.agg #[.slice X.a1 X.n1 X.c1,.slice X.a2 X.n2 X.c2,.slice X.a3 X.n3 X.c3],.int .i64 0]) ?_ rfl ?_
    ·simp [results,Tryz.results54,go_sem, *]
    ·rw [HE0.out];exact ⟨_,rfl,HOD.out,hbs⟩
end Go.Proofs.YthilibleedbchaaGreat

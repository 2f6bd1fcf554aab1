/-
  Of the document's side of layer 1: the Reader's Number and Text.
-/
import Derived.Test.YthilibleedbchaaGreatFsTop4
import Derived.Test.YthilibleedbchaaGreatL2c
import Derived.Test.YthilibleedbchaaGreatMathFi2
import Derived.Test.YthilibleedbchaaGreatFiCut3
set_option maxHeartbeats 2000000
set_option maxRecDepth 100000
namespace Go.Proofs.YthilibleedbchaaGreat
open Go.RowKit
set_option linter.all false
theorem qsk {n:Int} (h:(newD n).2=0) (h2:34<n):okD (newD n).1=true∧34<mny (newD n).1∧mny (newD n).1=n.toNat∧n≤4096∧(newD n).1=(List.replicate (n.toNat*128) 0,[],[]):=by
 unfold newD at h
 split at h
 ·cases h
 ·rename_i h1
  have e:(newD n).1=(List.replicate (n.toNat*128) 0,[],[]):=by unfold newD;rw [if_neg h1]
  rw [e]
  have hm:mny ((List.replicate (n.toNat*128) 0,[],[]):Dk)=n.toNat:=by unfold mny;simp
  refine ⟨?_,by omega,hm,by omega,rfl⟩;rw [qdh,hm]
  simp
  omega
theorem qyz:bytF []=[0]:=by decide
theorem qaew {k:Nat} (h:34<k) (h2:k≤4096):chkF [] (k:Int)=0:=by
 refine qnv ⟨by omega,by omega⟩ ⟨by simp,⟨by simp,List.Pairwise.nil⟩, ?_,by decide⟩;exact ⟨by decide,by intro x hx;cases hx⟩
theorem qlm {n:Int} (h:(newD n).2=0) (h2:34<n):RnW (qb7 (((newD n).1,0,[],[]),0,[])) (qbs (newD n).1 (qd1 1 [0])) 1 [] [] [0]:=by
 obtain ⟨a,b,c,d,e⟩:=qsk h h2
 have:=qjj (K:=[]) (l0:=[]) a b (by decide:(0:Nat)≠4294967295) (qaew b (by omega))
 rw [qyz] at this;exact this
theorem qq0 {n:Int} (h:(newD n).2=0) (h2:34<n) (h0:(qak qe5 (qb7 (((newD n).1,0,[],[]),0,[]))).2.1=0):qd2 (qak qe5 (qb7 (((newD n).1,0,[],[]),0,[]))).1.2.2.1∧qd2 (qak qe5 (qb7 (((newD n).1,0,[],[]),0,[]))).1.2.2.2:=by
 have h1:=qlm h h2;have h3:=qij h0;rw [qin h3.1];unfold RnW at h1
 cases ho:qbs (newD n).1 (qd1 1 [0]) with
 | none=>rw [ho] at h1;simp only at h1;rw [h1] at h3;exact absurd h3.1 (by decide)
 | some x=>rw [ho] at h1;simp only at h1;rw [h1];exact ⟨qqy,qqy⟩
theorem qaex {w:World} {base:Nat} {a1:Option Addr} {n1 c1:Nat} {a2:Option Addr} {n2 c2:Nat} {a3:Option Addr} {n3 c3:Nat} {d:Dk} (ho:OwD w base (.agg #[.slice a1 n1 c1,.slice a2 n2 c2,.slice a3 n3 c3]) d):
  WayS (w.alloc (.cells #[.slice a1 n1 c1,.slice a2 n2 c2,.slice a3 n3 c3,.int .u32 0,.slice none 0 0,.slice none 0 0,.int .i64 0,.slice none 0 0] 100)) w.heap.size base false ((d,0,[],[]),0,[]):=by
 have hb:Below w.heap.size w (w.alloc (.cells #[.slice a1 n1 c1,.slice a2 n2 c2,.slice a3 n3 c3,.int .u32 0,.slice none 0 0,.slice none 0 0,.int .i64 0,.slice none 0 0] 100)):=(Below.refl _ _).alloc (Nat.le_refl _) _;have hq:Bq (w.alloc (.cells #[.slice a1 n1 c1,.slice a2 n2 c2,.slice a3 n3 c3,.int .u32 0,.slice none 0 0,.slice none 0 0,.int .i64 0,.slice none 0 0] 100)) w.heap.size 100 _:=Bq.new _ _ _;refine ⟨⟨a1,n1,c1,a2,n2,c2,a3,n3,c3,0,none,0,0,none,0,0⟩,none,0,0,hq,rfl,⟨(by show (0:Nat)<4294967296;decide),(fun g hg=>by cases hg),(fun g hg=>by cases hg)⟩,fun w' hg=>?_⟩;have ho':=(ho.carry hb).keptS hg hq (by decide) (by decide) (by decide);have hl:=RdD.mk3 ho'.rd;exact ⟨⟨ho'.rd,hl.1,hl.2,rfl,RdF.nil _,rfl,RdF.nil _,rfl⟩,.inl ⟨rfl,.inl rfl⟩,fun h=>by cases h⟩
theorem qy0 (n:Int) (w:World):
  Calls Tryz.prog 19 #[.int .i64 n] w fun e w'=>∃v,e=.returned (.tuple #[v,.int .i64 (qb4 n).2])∧OwFs w' w.heap.size v (qb4 n).1∧Below w.heap.size w w':=by
 obtain ⟨w1,ew⟩:∃w1,w.alloc (.cells #[.slice none 0 0,.slice none 0 0,.slice none 0 0,.int .u32 0,.slice none 0 0,.slice none 0 0] 32)=w1:=⟨_,rfl⟩
 have hb1:Below w.heap.size w w1:=by rw [←ew];exact (Below.refl _ _).alloc (Nat.le_refl _) _
 have qb2:=hide (show FsB w1 w.heap.size by rw [←ew];exact FsB.new w);have qag:=hide hb1;clear hb1
 go_enter Tryz.func19,Tryz.ntmps19
 go_wp2_with fail
 try rw [ew]
 refine (qaed n w1).mono ?_
 rintro e w2 ⟨dv,rfl,ho2,hb2⟩;have qax:=hide (qb2.out.carry hb2);have qai:=bT qag hb2;obtain ⟨d,hd⟩:∃d,d=(newD n).1:=⟨_,rfl⟩;rw [←hd] at ho2;obtain ⟨a1,c1,a2,c2,a3,c3,e1⟩:=ho2.form;obtain ⟨n1,hn1⟩:∃m,m=d.1.length:=⟨_,rfl⟩;obtain ⟨n2,hn2⟩:∃m,m=d.2.1.length:=⟨_,rfl⟩;obtain ⟨n3,hn3⟩:∃m,m=d.2.2.length:=⟨_,rfl⟩;rw [←hn1,←hn2,←hn3] at e1;subst e1;have HDE:=hide hd;have HO2:=hide (ho2.mono qag.out.size);clear hn1 hn2 hn3 hd ho2 hb2 ew;obtain ⟨w3,ew3⟩:∃w3,w2.alloc (.cells #[.slice a1 n1 c1,.slice a2 n2 c2,.slice a3 n3 c3] 26)=w3:=⟨_,rfl⟩
 have hb3:Below w2.heap.size w2 w3:=by rw [←ew3];exact (Below.refl _ _).alloc (Nat.le_refl _) _
 have qbu:=hide (qax.out.carry hb3);have qao:=bT qai hb3;have HO3:=hide (HO2.out.carry hb3)
 have k0:w3.cell? ⟨w2.heap.size,0,none⟩=some (.slice a1 n1 c1):=by rw [←ew3];simp
 have k1:w3.cell? ⟨w2.heap.size,1,none⟩=some (.slice a2 n2 c2):=by rw [←ew3];simp
 have k2:w3.cell? ⟨w2.heap.size,2,none⟩=some (.slice a3 n3 c3):=by rw [←ew3];simp
 clear hb3 HO2 qb2 qag qax qai;obtain ⟨z,hz⟩:∃z,z=(newD n).2:=⟨_,rfl⟩;rw [←hz]
 by_cases g1:¬z=0
 ·have HE:=hide (show qb4 n=(fz,z) by unfold qb4;rw [if_pos (by rw [←hz];exact g1),←hz])
  clear hz;have ho9:=qbd w3 w.heap.size;have HST:=hide (OwFs.stored (x:=xz) (r:=w.heap.size) ho9 qbu.out qao.out (Nat.le_refl _));obtain ⟨⟨d0,e0⟩,⟨d1,e1⟩,⟨d2,e2⟩,⟨d3,e3⟩,⟨d4,e4⟩,⟨d5,e5⟩,ff⟩:=qbu.out.cells;have f0:=ff 0;have f1:=ff 1;have f2:=ff 2;have f3:=ff 3;have f4:=ff 4;have f5:=ff 5;clear ff ho9;go_wp2;obtain ⟨w9,hw9⟩:∃w9,w9=set6 w3 w.heap.size xz:=⟨_,rfl⟩;rw [←hw9] at HST;unfold set6 xz at hw9
  simp only at hw9
  rw [show ((0:Nat):Int)=0 from rfl] at hw9;rw [←hw9];clear e0 e1 e2 e3 e4 e5 f0 f1 f2 f3 f4 f5 hw9;obtain ⟨z0,z1,z2,z3,z4,z5⟩:=qab HST.out.2.2;unfold xz at z0 z1 z2 z3 z4 z5
  simp only at z0 z1 z2 z3 z4 z5
  try simp only [Exit.inBlock,Exit.then]
  refine bodyPost_ret (v:=.tuple #[.agg #[.slice none 0 0,.slice none 0 0,.slice none 0 0,.int .u32 0,.slice none 0 0,.slice none 0 0],.int .i64 z]) ?_ rfl ⟨_,by rw [HE.out],by rw [HE.out];exact qbd _ _,HST.out.2.1⟩
  simp [results,Tryz.results19,go_sem, *]
 rw [Decidable.not_not] at g1;subst g1
 by_cases g2:n≤34
 ·have HE:=hide (show qb4 n=(fz,2) by unfold qb4;rw [if_neg (by rw [←hz];decide),if_pos g2])
  clear hz;have ho9:=qbd w3 w.heap.size;have HST:=hide (OwFs.stored (x:=xz) (r:=w.heap.size) ho9 qbu.out qao.out (Nat.le_refl _));obtain ⟨⟨d0,e0⟩,⟨d1,e1⟩,⟨d2,e2⟩,⟨d3,e3⟩,⟨d4,e4⟩,⟨d5,e5⟩,ff⟩:=qbu.out.cells;have f0:=ff 0;have f1:=ff 1;have f2:=ff 2;have f3:=ff 3;have f4:=ff 4;have f5:=ff 5;clear ff ho9;go_wp2;obtain ⟨w9,hw9⟩:∃w9,w9=set6 w3 w.heap.size xz:=⟨_,rfl⟩;rw [←hw9] at HST;unfold set6 xz at hw9
  simp only at hw9
  rw [show ((0:Nat):Int)=0 from rfl] at hw9;rw [←hw9];clear e0 e1 e2 e3 e4 e5 f0 f1 f2 f3 f4 f5 hw9;obtain ⟨z0,z1,z2,z3,z4,z5⟩:=qab HST.out.2.2;unfold xz at z0 z1 z2 z3 z4 z5
  simp only at z0 z1 z2 z3 z4 z5
  try simp only [Exit.inBlock,Exit.then]
  refine bodyPost_ret (v:=.tuple #[.agg #[.slice none 0 0,.slice none 0 0,.slice none 0 0,.int .u32 0,.slice none 0 0,.slice none 0 0],.int .i64 2]) ?_ rfl ⟨_,by rw [HE.out],by rw [HE.out];exact qbd _ _,HST.out.2.1⟩
  simp [results,Tryz.results19,go_sem, *]
 have HZ:=hide hz.symm;have HN:=hide (show 34<n by omega);have HE:=hide (show qb4 n=endW (qak qe5 (qb7 (((newD n).1,0,[],[]),0,[]))) by unfold qb4;rw [if_neg (by rw [←hz];decide),if_neg g2])
 have g2':decide (n≤34)=false:=by simpa using g2
 clear hz g2;obtain ⟨w4,ew4⟩:∃w4,w3.alloc (.cells #[.slice a1 n1 c1,.slice a2 n2 c2,.slice a3 n3 c3,.int .u32 0,.slice none 0 0,.slice none 0 0,.int .i64 0,.slice none 0 0] 100)=w4:=⟨_,rfl⟩
 have hb4:Below w3.heap.size w3 w4:=by rw [←ew4];exact (Below.refl _ _).alloc (Nat.le_refl _) _
 have hs4:=qaex HO3.out;rw [ew4] at hs4;rw [HDE.out] at hs4;have HS4:=hide hs4;have hpp:=qao.out.size;have HRL:=hide qbu.out.lt;have qco:=hide (qbu.out.carry hb4);have qca:=bT qao hb4;clear hb4 hs4 HO3
 go_wp2_with fail
 try rw [ew4]
 refine (qm8 w3.heap.size w.heap.size false _ w4 HS4.out hpp).mono ?_
 rintro e w5 ⟨rfl,hs5,hg5⟩;have quc:=hide (qco.out.grown hg5 (by have:=HRL.out;omega));have qi5:=hide (show Below w.heap.size w w5 from qca.out.grown hg5 qca.out.size (by intro k hk;cases hk;omega));have HS5:=hide hs5;clear hs5 hg5 HS4 qco qca ew4 ew3 k0 k1 k2 g2'
 have hcf:∀wx:World,(callFunc 55 #[.pointer (some ⟨w3.heap.size,0,none⟩)]).run Tryz.prog wx=.ok (.enter 55 #[.pointer (some ⟨w3.heap.size,0,none⟩)]) wx:=fun wx=>by go_simp
 have ht:=qgo 55 qe5 w3.heap.size w.heap.size true true _ w5 HS5.out rfl hcf (fun h0=>(qqu w3.heap.size w.heap.size true _ w5 HS5.out hpp).mono fun e w' h=>⟨h.1,fun _=>h.2.1,h.2.1.any,h.2.2⟩);clear hcf
 go_wp2_with fail
 refine ht.mono ?_
 rintro e w6 ⟨rfl,hs6,hg6⟩;have qq1:=hide (quc.out.grown hg6 (by have:=HRL.out;omega));have qhc:=hide (show Below w.heap.size w w6 from qi5.out.grown hg6 qi5.out.size (by intro k hk;cases hk;omega));have hen:=qlg w3.heap.size w.heap.size _ w6 hs6 qhc.out.size (qq0 HZ.out HN.out);rw [←HE.out] at hen;clear ht hs6 hg6 HS5 quc qi5
 go_wp2_with fail
 refine hen.mono ?_
 rintro e w7 ⟨v9,rfl,ho9,hb9⟩;have qud:=hide (qq1.out.carry hb9);have qjm:=bT qhc hb9;clear hen hb9;obtain ⟨x9,e9, -⟩:=ho9.form;subst e9;have HST:=hide (ho9.stored (r:=w.heap.size) qud.out qjm.out (by omega));obtain ⟨⟨d0,e0⟩,⟨d1,e1⟩,⟨d2,e2⟩,⟨d3,e3⟩,⟨d4,e4⟩,⟨d5,e5⟩,ff⟩:=qud.out.cells;have f0:=ff 0;have f1:=ff 1;have f2:=ff 2;have f3:=ff 3;have f4:=ff 4;have f5:=ff 5;clear ff ho9;unfold FsV.val;go_wp2;obtain ⟨w9,hw9⟩:∃w9,w9=set6 w7 (w.heap.size) x9:=⟨_,rfl⟩;rw [←hw9] at HST;unfold set6 at hw9;rw [←hw9];clear e0 e1 e2 e3 e4 e5 f0 f1 f2 f3 f4 f5 hw9;obtain ⟨z0,z1,z2,z3,z4,z5⟩:=qab HST.out.2.2
 try simp only [Exit.inBlock,Exit.then]
 refine bodyPost_ret (v:=.tuple #[x9.val,.int .i64 (qb4 n).2]) ?_ rfl ⟨_,rfl,HST.out.1,HST.out.2.1⟩
 simp [results,Tryz.results19,go_sem, *]
theorem qsl {d:Dk} (h:okD d=true):d.1.length=128*mny d:=(Fine.of_ok h).1.1
theorem qjk:∀(bl:List (List UInt8)) (n:Nat) (d x:Dk),okD d=true→(∀a∈qc9 (n:Int) bl,actE (mny d) a=0)→qbs d (qc9 (n:Int) bl)=some x→∀k,k<mny d→qhf x k=if n≤k∧k<n+bl.length then bl.getD (k - n) [] else qhf d k
 | [],n,d,x,h,ha,he,k,hk=>by
  cases he;rw [if_neg (by simp only [List.length_nil];omega)]
 | b::bl,n,d,x,h,ha,he,k,hk=>by
  have h1:=ha (false,(n:Int),b) (List.mem_cons_self ..);have he:(match oneD d (false,(n:Int),b) with | none=>none | some y=>qbs y (qc9 ((n:Int)+1) bl))=some x:=he
  cases ho:oneD d (false,(n:Int),b) with
  | none=>rw [ho] at he;cases he
  | some y=>
   rw [ho] at he
   simp only at he
   obtain ⟨h2,h3,_⟩:=qew h h1 ho;have hb:=qk6 h h1 ho hk;have ih:=qjk bl (n+1) y x h2 (fun a ha'=>by rw [h3];exact ha a (List.mem_cons_of_mem _ (by simpa using ha'))) (by simpa using he) k (by rw [h3];exact hk);rw [ih,hb]
   simp only [List.length_cons]
   by_cases hkn:k=n
   ·subst hkn
    rw [if_neg (by omega),if_pos rfl,if_pos (by omega),Nat.sub_self];rfl
   ·rw [if_neg (show ¬(k:Int)=(n:Int) by omega)]
    by_cases hr:n+1≤k∧k<n+1+bl.length
    ·rw [if_pos hr,if_pos (by omega),show k - n=(k - (n+1))+1 by omega]
     rfl
    ·rw [if_neg hr,if_neg (by omega)]
theorem qvr {d x:Dk} {g:Nat} {l:List UInt8} (hok:okD d=true) (hm:34<mny d) (hg:g≠0) (hl:l.length≤2048) (h:qbs d (qd1 g l)=some x):
  okD x=true∧mny x=mny d∧x.2.1=[]∧∀k,k<mny d→blk x.1 k=if k=g % 2 then (qam g (l.length:Nat)).1 else if 2+g % 2*16≤k∧k<2+g % 2*16+(qbg l).length then (qbg l).getD (k - (2+g % 2*16)) [] else qhf d k:=by
 obtain ⟨o1,o2⟩:=qlh hok (qua hm hg hl) h;have e:qd1 g l=[(true,0,[])]++(qc9 ((2+g % 2*16:Nat):Int) (qbg l)++([(true,0,[])]++([(false,((g % 2:Nat):Int),(qam g (l.length:Nat)).1)]++[(true,0,[])]))):=rfl;rw [e,qda,qgp] at h;obtain ⟨x1,a1,h⟩:=Option.bind_eq_some_iff.1 h;rw [qda] at h;obtain ⟨x2,a2,h⟩:=Option.bind_eq_some_iff.1 h;rw [qda,qgp] at h;obtain ⟨x3,a3,h⟩:=Option.bind_eq_some_iff.1 h;rw [qda,qgp] at h;obtain ⟨x4,a4,a5⟩:=Option.bind_eq_some_iff.1 h;rw [qgp] at a5;obtain ⟨k1,m1,_⟩:=qew hok (qcp _) a1
 have hda:∀a∈qc9 ((2+g % 2*16:Nat):Int) (qbg l),actE (mny x1) a=0:=by rw [m1];exact qj5 hm hl
 obtain ⟨k2,m2⟩:=qlh k1 hda a2;obtain ⟨k3,m3,_⟩:=qew k2 (qcp _) a3;have hsa:actE (mny x3) (false,((g % 2:Nat):Int),(qam g (l.length:Nat)).1)=0:=qil (by omega) hg hl;obtain ⟨k4,m4,_⟩:=qew k3 hsa a4;refine ⟨o1,o2, ?_,fun k hk=>?_⟩
 ·have:=qg4 (n:=0) k4 (qcp _) rfl a5 (by omega)
  exact this.2
 ·have b5:=qg4 (n:=k) k4 (qcp _) rfl a5 (by omega)
  have b4:=qk6 (n:=k) k3 hsa a4 (by omega);have b3:=(qg4 (n:=k) k2 (qcp _) rfl a3 (by omega)).1;have b2:=qjk (qbg l) (2+g % 2*16) x1 x2 k1 hda a2 k (by omega);have b1:=(qg4 (n:=k) hok (qcp _) rfl a1 hk).1
  have e5:qhf x k=blk x.1 k:=by rw [qgi o1 (by omega),b5.2];rfl
  rw [←e5,b5.1,b4,b3,b2,b1]
  by_cases hk2:k=g % 2
  ·rw [if_pos (by omega),if_pos hk2]
  ·rw [if_neg (by omega),if_neg hk2]
theorem qabx {f:Fsd} (h:okFs f):chkF f.2.2.2 (mny f.1)=0:=by
 rw [←h.2.2.2.2.1];exact (qky h.2.2.2.1).1
theorem qna {s:Stp} {f:Fsd}:endW (qak s (qbb f))=if fsE f≠0 then (fz,fsE f) else if (s (qbb f)).2≠0 then (fz,(s (qbb f)).2) else ((s (qbb f)).1.1,0):=by
 by_cases h:fsE f=0
 ·rw [qin (show (qbb f).2.1=0 from h),if_neg (by rw [h];decide)]
  rfl
 ·rw [qcl (show (qbb f).2.1≠0 from h),if_pos h]
  unfold endW;rw [if_pos (show (qbb f).2.1≠0 from h)];rfl
theorem qsm (f:Fsd):qf3 f=if fsE f≠0 then (fz,fsE f) else if (doD f.1 [(true,0,[])] 1).2≠0 then (fz,(doD f.1 [(true,0,[])] 1).2) else (((doD f.1 [(true,0,[])] 1).1,f.2),0):=by
 unfold qf3;rw [qna];rfl
theorem que (f:Fsd):qez f=if fsE f≠0 then (fz,fsE f) else ((((f.1.1,f.1.2.1,[]):Dk),f.2),0):=by
 unfold qez;rw [qna]
 by_cases h:fsE f≠0
 ·rw [if_pos h,if_pos h]
 ·rw [if_neg h,if_neg h]
  have h0:=qx8 (Decidable.not_not.1 h)
  have e:qe5 (qbb f)=(qlb (qbb f) (f.1.1,f.1.2.1,[]),0):=by
   unfold qe5 qf2
   have:chk (qbb f).1.1=0:=qqd (qcg h0).1
   rw [this];rfl
  rw [e];rfl
/-! ### the example -/
section
variable {x:List UInt8}
end
theorem OwFs.bx {w:World} {base:Nat} {v:Value} {f:Fsd} (h:OwFs w base v f):∃x:FsV,v=x.val∧RdX w x f∧OwFs w base x.val f:=by
 obtain ⟨x,e,hx⟩:=h.form;exact ⟨x,e,hx,e ▸ h⟩
theorem FsV.ext_val {x y:FsV} (h:x.val=y.val):x=y:=by
 obtain ⟨a1,n1,c1,a2,n2,c2,a3,n3,c3,g,a4,n4,c4,a5,n5,c5⟩:=x;obtain ⟨b1,m1,d1,b2,m2,d2,b3,m3,d3,g',b4,m4,d4,b5,m5,d5⟩:=y
 injection h with h
 have e0:=congrArg (fun z:Array Value=>z[0]!) h;have e1:=congrArg (fun z:Array Value=>z[1]!) h;have e2:=congrArg (fun z:Array Value=>z[2]!) h;have e3:=congrArg (fun z:Array Value=>z[3]!) h;have e4:=congrArg (fun z:Array Value=>z[4]!) h;have e5:=congrArg (fun z:Array Value=>z[5]!) h
 simp at e0 e1 e2 e3 e4 e5
 obtain ⟨rfl,rfl,rfl⟩:=e0;obtain ⟨rfl,rfl,rfl⟩:=e1;obtain ⟨rfl,rfl,rfl⟩:=e2
 have e3:g=g':=by omega
 subst e3;obtain ⟨rfl,rfl,rfl⟩:=e4;obtain ⟨rfl,rfl,rfl⟩:=e5;rfl
theorem FsB.of {w:World} {q:Nat} {x:FsV} (h:FsAt w q x):FsB w q:=⟨_,_,_,_,_,_,h⟩
theorem OwFs.assign {w w0:World} {base q:Nat} {y:FsV} {f:Fsd} (h:OwFs w base y.val f) (hq:FsB w q) (hb:Below w0.heap.size w0 w) (hq0:w0.heap.size≤q):
  OwFs (set6 w q y) base y.val f∧Below w0.heap.size w0 (set6 w q y)∧FsAt (set6 w q y) q y∧RdX (set6 w q y) y f∧w.grownBy (set6 w q y) (some q):=by
 obtain ⟨h1,h2,h3⟩:=h.stored hq hb hq0;refine ⟨h1,h2,h3, ?_,(hq.put y).2⟩;obtain ⟨x',ex',hx'⟩:=h1.form;have e:x'=y:=FsV.ext_val ex'.symm;subst e;exact hx'
/-! ### how many blocks can be given -/
theorem qaby {f:Fsd} (h:okFs f):allX (qbf f)=0∧qbf f=qas f.2.2.1++qas f.2.2.2∧(∀x∈qbf f,34≤x.1∧1≤x.2∧x.1+x.2≤mny f.1):=by
 have hc:=h.2.2.2.2.2;have hk:=qabx h
 have e1:qdz f.2.2.1=qas f.2.2.1:=by unfold qdz;rw [if_pos (qjw hc)]
 have e2:qdz f.2.2.2=qas f.2.2.2:=by unfold qdz;rw [if_pos (qjw hk)]
 have m1:=(qcd hc).2;have m2:=(qcd hk).2
 have hx:∀x∈qbf f,34≤x.1∧1≤x.2∧x.1+x.2≤mny f.1:=by
  intro x hx;unfold qbf at hx;rw [e1,e2] at hx
  rcases List.mem_append.1 hx with hx | hx
  ·exact qnu m1.2.2.1 x hx
  ·exact qnu m2.2.2.1 x hx
 have hmm:=((qdh f.1).1 (qcg h).1).2.2.1
 have l1:∀{fs:List Fl} {B:Int},mayF fs B→(qas fs).length≤2048:=by
  intro fs B hm
  have:=qkn fs 64 (fun g hg=>by have:=qrw hm g hg;omega)
  have:=hm.1
  have hb:=hm.2.2.2
  -- the bytes bound the extents
  have hle:(qas fs).length≤(bytF fs).length:=by
   have:∀fs:List Fl,(qas fs).length≤(fs.flatMap qcm).length:=by
    intro fs
    induction fs with
    | nil=>simp [qas]
    | cons g fs ih=>
     have e:qas (g::fs)=g.2++qas fs:=rfl;rw [e,List.length_append,List.flatMap_cons,List.length_append]
     have h2:g.2.length≤(qcm g).length:=by
      unfold qcm;rw [List.length_append,List.length_append]
      have:∀l:List Ex,l.length≤(bytE l).length:=by
       intro l
       induction l with
       | nil=>simp [bytE]
       | cons x l ih=>
        have e:bytE (x::l)=bytX x++bytE l:=rfl;rw [e,List.length_append,List.length_cons]
        have:1≤(bytX x).length:=by
         unfold bytX;rw [List.length_append]
         have:=qwa x.1.toNat
         omega
        omega
      have:=this g.2
      omega
     omega
   have:=this fs
   unfold bytF;rw [List.length_append];omega
  omega
 refine ⟨?_, ?_,hx⟩
 ·refine qnh ?_ (fun x hx'=>by have:=hx x hx';omega)
  unfold qbf;rw [e1,e2,List.length_append]
  have:=l1 m1
  have:=l1 m2
  omega
 ·unfold qbf;rw [e1,e2]
theorem qy1 {f:Fsd} (h:okFs f):qdb 34 (qbe f) (qbf f)=0:=by
 have h1:=(qcg h).1;rw [qj1 h1];unfold qdb;have hmm:=((qdh f.1).1 h1).2.2.1
 have:=(qcg h).2.1
 rw [if_neg (by omega),(qaby h).1]
end Go.Proofs.YthilibleedbchaaGreat
set_option linter.unusedVariables false
namespace Go.Proofs.YthilibleedbchaaGreat
def ab7:List Fl:=[([97],[(34,1)])]
def ma (x:List UInt8):Fsd:=((x,[],[]),1,ab7,[])
section
variable {x:List UInt8}
end
end Go.Proofs.YthilibleedbchaaGreat
namespace Go.Proofs.YthilibleedbchaaGreat
open Go.RowKit
set_option linter.all false
theorem qvs (x:FsV) (f:Fsd) (w:World) (h:RdX w x f) (hs:(∀g∈f.2.2.1,g.2.length≤1000000000000000)∧∀g∈f.2.2.2,g.2.length≤1000000000000000):
  Calls Tryz.prog 5 #[x.val] w fun e w'=>∃r,e=.returned (.bool r)∧(r=false→(f.1.1.length≤100000∧f.1.2.1.length≤2000∧f.1.2.2.length≤2000)∧okG f.2.2.1∧okG f.2.2.2)∧Below w.heap.size w w':=by
 have HSZ:=hide hs;clear hs;obtain ⟨w1,ew⟩:∃w1,w.alloc (.cells x.cs 32)=w1:=⟨_,rfl⟩
 have hb1:Below w.heap.size w w1:=by rw [←ew];exact (Below.refl _ _).alloc (Nat.le_refl _) _
 have qcv:=hide (show FsAt w1 w.heap.size x by rw [←ew];exact Bq.new _ _ _);obtain ⟨k0,k1,k2,k3,k4,k5⟩:=qab qcv.out;have HX:=hide h;have qag:=hide hb1;clear h hb1;unfold FsV.val;unfold FsV.cs at ew
 go_enter Tryz.func5,Tryz.ntmps5
 go_wp2_with fail
 refine (qxu (d:=f.1) w1 (HX.out.d.carry qag.out)).mono ?_
 rintro e w2 ⟨⟨r1,rfl,hr1⟩,hb2⟩;have qlz:=hide (qcv.out.carry hb2);have qai:=bT qag hb2;clear k0 k1 k2 k3 k4 k5 ew hb2;have H1:=hide hr1;clear hr1
 cases r1 with
 | true=>
  go_wp2;go_ret;exact ⟨_,rfl,(fun h=>by cases h),qai.out⟩
 | false=>
 obtain ⟨k0,k1,k2,k3,k4,k5⟩:=qab qlz.out
 go_wp2_with fail
 refine (qml _ _ _ f.2.2.1 w2 (HX.out.fl.carry qai.out) HX.out.n4 HSZ.out.1).mono ?_
 rintro e w3 ⟨r2,rfl,hr2,hb3⟩;have qsd:=hide (qlz.out.carry hb3);have qao:=bT qai hb3;clear k0 k1 k2 k3 k4 k5 hb3;have H2:=hide hr2;clear hr2
 cases r2 with
 | true=>
  go_wp2;go_ret;exact ⟨_,rfl,(fun h=>by cases h),qao.out⟩
 | false=>
 obtain ⟨k0,k1,k2,k3,k4,k5⟩:=qab qsd.out
 go_wp2_with fail
 refine (qml _ _ _ f.2.2.2 w3 (HX.out.kl.carry qao.out) HX.out.n5 HSZ.out.2).mono ?_
 rintro e w4 ⟨r3,rfl,hr3,hb4⟩;have qca:=bT qao hb4;clear k0 k1 k2 k3 k4 k5 hb4;have H3:=hide hr3;clear hr3;go_wp2;go_ret;exact ⟨r3,rfl,fun h=>⟨H1.out (by trivial),H2.out (by trivial),H3.out h⟩,qca.out⟩
def RdrAt (w:World) (q:Nat) (v:Value) (bad:Bool):Prop:=w.heap[q]? =some (.cells #[v,.bool bad] 176 (0,0))
theorem RdrAt.cell0 {w:World} {q:Nat} {v:Value} {bad:Bool} (h:RdrAt w q v bad):w.cell? ⟨q,0,none⟩=some v:=by rw [cell_of_row w q 0 _ _ (0,0) h];rfl
theorem RdrAt.cell1 {w:World} {q:Nat} {v:Value} {bad:Bool} (h:RdrAt w q v bad):w.cell? ⟨q,1,none⟩=some (.bool bad):=by rw [cell_of_row w q 1 _ _ (0,0) h];rfl
theorem RdrAt.carry {w w':World} {q:Nat} {v:Value} {bad:Bool} (h:RdrAt w q v bad) (hb:Below w.heap.size w w'):RdrAt w' q v bad:=(hb.block q (Array.getElem?_eq_some_iff.1 h).1).trans h
theorem RdrAt.new (w:World) (v:Value) (bad:Bool):RdrAt (w.alloc (.cells #[v,.bool bad] 176)) w.heap.size v bad:=heap_alloc_new w _
theorem RdrAt.put0 {w:World} {q:Nat} {v:Value} {bad:Bool} (h:RdrAt w q v bad) (u:Value):RdrAt (w.setCell ⟨q,0,none⟩ u) q u bad:=by
 have a1:=heap_setCell_same w q 0 _ 176 u h;unfold RdrAt
 rw [a1];rfl
theorem RdrAt.put1 {w:World} {q:Nat} {v:Value} {bad:Bool} (h:RdrAt w q v bad) (u:Bool):RdrAt (w.setCell ⟨q,1,none⟩ (.bool u)) q v u:=by
 have a1:=heap_setCell_same w q 1 _ 176 (.bool u) h;unfold RdrAt
 rw [a1];rfl
theorem qy2 (q:Nat) (a:Option Addr) (n c:Nat) (l:List UInt8) (bad:Bool) (m k most:Nat) (w:World) (hq:RdrAt w q (.slice a n c) bad) (hrd:Rd w (.slice a n c) l) (hl:l.length≤1000000) (h:rd l=some (m,k)) (hm:m≤most):
  Calls Tryz.prog 130 #[.pointer (some ⟨q,0,none⟩),.int .u64 most] w fun e w'=>∃a2 c2,e=.returned (.int .u64 m)∧SubX (.slice a n c) l (.slice a2 (l.drop k).length c2) (l.drop k)∧w'=w.setCell ⟨q,0,none⟩ (.slice a2 (l.drop k).length c2):=by
 have hread:=qgw w (by omega) hrd;rw [h] at hread;unfold rdV at hread;obtain ⟨hk0,hkl,hk10,hn64⟩:=qkj h;have x0:=hq.cell0;have z0:=frozen_of_row w q 0 _ _ hq
 rcases hrd with ⟨hl,_⟩ | ⟨b,off,c',e,h1,h2,h3⟩
 ·rw [hl] at hkl;simp at hkl;omega
 obtain ⟨nn,hnn⟩:∃nn,nn=l.length:=⟨_,rfl⟩;rw [←hnn] at e h1 hkl;cases e
 have g1:decide ((most:Int)<m)=false:=by simpa using (by omega:¬(most:Int)<m)
 have g3:(k:Int)≤n:=by omega
 have g4:(0:Int)≤k:=by omega
 have g5:(n:Int)≤c:=by omega
 unfold maxLen at h2;have HRL:=hide (show (l.drop k).length=n - k by rw [List.length_drop,←hnn])
 by_cases hck:k=c
 ·have HX:=hide (show SubX (.slice (some ⟨b,off,none⟩) n c) l (.slice (some ⟨b,off,none⟩) (l.drop k).length 0) (l.drop k) from qoi (List.drop_of_length_le (by omega)) 0)
  have hkn:n=k:=by omega
  have HRL0:=hide (show (l.drop k).length=0 by have:=HRL.out;omega);rw [HRL0.out] at HX ⊢;subst hck;subst hkn;clear h3 h hnn hkl h1 h2 hl hq HRL HRL0
  go_enter Tryz.func130,Tryz.ntmps130
  go_wp2_with fail
  refine hread.mono ?_
  rintro e w1 ⟨rfl,rfl⟩;clear hread;go_wp2;go_ret;exact ⟨some ⟨b,off,none⟩,0,rfl,HX.out,rfl⟩
 ·have HX:=hide (show SubX (.slice (some ⟨b,off,none⟩) n c) l (.slice (some ⟨b,off+k,none⟩) (l.drop k).length (c - k)) (l.drop k) from qoh hnn h1 (by unfold maxLen;omega) hkl hck)
  rw [HRL.out] at HX ⊢;clear h3 h hnn hl hq HRL
  go_enter Tryz.func130,Tryz.ntmps130
  go_wp2_with fail
  refine hread.mono ?_
  rintro e w1 ⟨rfl,rfl⟩;clear hread;go_wp2;go_ret;exact ⟨some ⟨b,off+k,none⟩,c - k,rfl,HX.out,rfl⟩
theorem qvt (q:Nat) (a:Option Addr) (n c:Nat) (l:List UInt8) (bad:Bool) (most:Nat) (w:World) (hq:RdrAt w q (.slice a n c) bad) (hrd:Rd w (.slice a n c) l) (hl:l.length≤1000000) (h:∀m k,rd l=some (m,k)→most<m):
  Calls Tryz.prog 130 #[.pointer (some ⟨q,0,none⟩),.int .u64 most] w fun e w'=>e=.returned (.int .u64 0)∧w'=w.setCell ⟨q,1,none⟩ (.bool true):=by
 have hread:=qgw w (by omega) hrd;have x0:=hq.cell0;have x1:=hq.cell1;have z1:=frozen_of_row w q 1 _ _ hq
 cases e:rd l with
 | none=>
  rw [e] at hread;unfold rdV at hread;clear hrd h e hq
  go_enter Tryz.func130,Tryz.ntmps130
  go_wp2_with fail
  refine hread.mono ?_
  rintro e w1 ⟨rfl,rfl⟩;clear hread;go_wp2;go_ret;exact ⟨rfl,rfl⟩
 | some p=>
  obtain ⟨m,k⟩:=p;have hm:=h m k e;rw [e] at hread;unfold rdV at hread
  have g1:(most:Int)<m:=by omega
  clear hrd h e hq
  go_enter Tryz.func130,Tryz.ntmps130
  go_wp2_with fail
  refine hread.mono ?_
  rintro e w1 ⟨rfl,rfl⟩;clear hread;go_wp2;go_ret;exact ⟨rfl,rfl⟩
end Go.Proofs.YthilibleedbchaaGreat

/-
  Files with another directory.
-/
import Derived.Test.YthilibleedbchaaGreatMathFs
import Derived.Test.YthilibleedbchaaGreatFsTop1
set_option maxHeartbeats 4000000
set_option maxRecDepth 100000
namespace Go.Proofs.YthilibleedbchaaGreat
open Go.RowKit
set_option linter.all false
theorem do1 {d:Dk} {a:Ac} (h:okD d=true) (ha:actE (mny d) a=0):doD d [a] 1=match oneD d a with | none=>(dz,9) | some x=>(x,0):=by
 unfold doD;rw [if_neg (by rw [qr9 h];decide),if_neg (by simp [qcf,ha]),if_neg (by simp)];rw [show Int.toNat 1=1 from rfl]
 simp only [List.take_succ_cons,List.take_zero,qbs]
 cases oneD d a<;>rfl
def qc9:Int→List (List UInt8)→List Ac
 | _,[]=>[]
 | n,b::l=>(false,n,b)::qc9 (n+1) l
def qd1 (g:Nat) (l:List UInt8):List Ac:=(true,0,[])::(qc9 ((2+g % 2*16:Nat):Int) (qbg l)++[(true,0,[]),(false,((g % 2:Nat):Int),(qam g (l.length:Nat)).1),(true,0,[])])
theorem qda:∀(a b:List Ac) (d:Dk),qbs d (a++b)=(qbs d a).bind fun x=>qbs x b
 | [],b,d=>rfl
 | x::a,b,d=>by
  show (match oneD d x with | none=>none | some y=>qbs y (a++b))=(match oneD d x with | none=>none | some y=>qbs y a).bind _
  cases oneD d x with
  | none=>rfl
  | some y=>exact qda a b y
theorem qgp (d:Dk) (a:Ac):qbs d [a]=oneD d a:=by
 show (match oneD d a with | none=>none | some y=>qbs y [])=_
 cases oneD d a<;>rfl
def RnW (y:Wy) (o:Option Dk) (g:Nat) (D K:List Fl) (l:List UInt8):Prop:=match o with | some x=>y=((x,g,D,K),0,l) | none=>y.2.1=9
theorem qcl {s:Stp} {y:Wy} (h:y.2.1≠0):qak s y=y:=by unfold qak;rw [if_neg h]
theorem RnW.act {y:Wy} {o:Option Dk} {g:Nat} {D K:List Fl} {l:List UInt8} (s:Stp) (a:Ac) (h:RnW y o g D K l) (hok:∀x,o=some x→okD x=true∧actE (mny x) a=0)
  (hs:∀x,s ((x,g,D,K),0,l)=(qlb ((x,g,D,K),0,l) (doD x [a] 1).1,(doD x [a] 1).2)):RnW (qak s y) (o.bind fun x=>oneD x a) g D K l:=by
 cases o with
 | none=>
  have h:y.2.1=9:=h;rw [qcl (by rw [h];decide)];exact h
 | some x=>
  have h:y=((x,g,D,K),0,l):=h;subst h;obtain ⟨h1,h2⟩:=hok x rfl
  have e:qak s ((x,g,D,K),0,l)=(((doD x [a] 1).1,g,D,K),(doD x [a] 1).2,l):=by
   unfold qak;rw [if_pos rfl,hs];rfl
  rw [e,do1 h1 h2]
  show RnW _ (oneD x a) g D K l
  cases oneD x a<;>rfl
theorem qlh {d d':Dk} {l:List Ac} (h:okD d=true) (ha:∀a∈l,actE (mny d) a=0) (he:qbs d l=some d'):okD d'=true∧mny d'=mny d:=by
 obtain ⟨a,b,_⟩:=qtx l d d' h ha he;exact ⟨a,b⟩
theorem qqx (g:Nat) (D K:List Fl) (e:Int) (l:List UInt8):∀(bl:List (List UInt8)) (n:Int) (x:Dk),okD x=true→(∀a∈qc9 n bl,actE (mny x) a=0)→
  match qbs x (qc9 n bl) with | some x'=>qdc n bl ((x,g,D,K),e,l)=(((x',g,D,K),e,l),0) | none=>(qdc n bl ((x,g,D,K),e,l)).2=9
 | [],n,x,h,ha=>rfl
 | b::bl,n,x,h,ha=>by
  have h1:=ha (false,n,b) (List.mem_cons_self ..);have e1:qey n b ((x,g,D,K),e,l)=(qlb ((x,g,D,K),e,l) (doD x [(false,n,b)] 1).1,(doD x [(false,n,b)] 1).2):=rfl
  show (match (match oneD x (false,n,b) with | none=>none | some y=>qbs y (qc9 (n+1) bl)) with | some x'=>qdc n (b::bl) ((x,g,D,K),e,l)=(((x',g,D,K),e,l),0) | none=>(qdc n (b::bl) ((x,g,D,K),e,l)).2=9)
  rw [qgn,e1,do1 h h1]
  cases ho:oneD x (false,n,b) with
  | none=>simp
  | some y=>
   obtain ⟨h2,h3,_⟩:=qew h h1 ho;have ih:=qqx g D K e l bl (n+1) y h2 (fun a ha'=>by rw [h3];exact ha a (List.mem_cons_of_mem _ ha'))
   simp only [ne_eq,not_true_eq_false,if_false]
   exact ih
theorem RnW.writes {y:Wy} {o:Option Dk} {g:Nat} {D K:List Fl} {l:List UInt8} (h:RnW y o g D K l) (hok:∀x,o=some x→okD x=true∧∀a∈qc9 ((2+g % 2*16:Nat):Int) (qbg l),actE (mny x) a=0):RnW (qak qgm y) (o.bind fun x=>qbs x (qc9 ((2+g % 2*16:Nat):Int) (qbg l))) g D K l:=by
 cases o with
 | none=>
  have h:y.2.1=9:=h;rw [qcl (by rw [h];decide)];exact h
 | some x=>
  have h:y=((x,g,D,K),0,l):=h;subst h;obtain ⟨h1,h2⟩:=hok x rfl;have hw:=qqx g D K 0 l (qbg l) ((2+g % 2*16:Nat):Int) x h1 h2;have e:qgm ((x,g,D,K),0,l)=qdc ((2+g % 2*16:Nat):Int) (qbg l) ((x,g,D,K),0,l):=rfl
  show RnW _ (qbs x (qc9 ((2+g % 2*16:Nat):Int) (qbg l))) g D K l
  unfold qak;rw [if_pos rfl,e]
  cases ho:qbs x (qc9 ((2+g % 2*16:Nat):Int) (qbg l)) with
  | none=>rw [ho] at hw;exact hw
  | some x'=>
   rw [ho] at hw
   show _=_
   rw [hw]
theorem qt9 (k:Nat):∀(bl:List (List UInt8)) (n:Int),0≤n→n+bl.length≤k→(∀b∈bl,b.length=128)→∀a∈qc9 n bl,actE k a=0
 | [],n,_,_,_,a,ha=>by cases ha
 | b::bl,n,h1,h2,h3,a,ha=>by
  rcases List.mem_cons.1 ha with rfl | ha
  ·have h4:=h3 b (List.mem_cons_self ..)
   simp only [List.length_cons] at h2
   unfold actE putE
   simp only [Bool.false_eq_true,if_false]
   rw [if_neg (by omega),if_neg (by omega)]
  ·exact qt9 k bl (n+1) (by omega) (by simp only [List.length_cons] at h2;omega) (fun b hb=>h3 b (List.mem_cons_of_mem _ hb)) a ha
theorem qvq (l:List UInt8):∀b∈qbg l,b.length=128:=by
 intro b hb;obtain ⟨k,_,rfl⟩:=List.mem_map.1 hb;exact qabo _
theorem qcp (k:Nat):actE k (true,0,[])=0:=by simp [actE]
theorem qil {k g:Nat} {n:Nat} (hk:34<k) (hg:g≠0) (hn:n≤2048):actE k (false,((g % 2:Nat):Int),(qam g (n:Nat)).1)=0:=by
 have h1:(qam g (n:Nat)).2=0:=by rw [qgl hg (by omega) (by omega)]
 have h2:=qvm h1;unfold actE putE
 simp only [Bool.false_eq_true,if_false]
 rw [if_neg (by omega),if_neg (by omega)]
theorem qj5 {k g:Nat} {l:List UInt8} (hk:34<k) (hl:l.length≤2048):∀a∈qc9 ((2+g % 2*16:Nat):Int) (qbg l),actE k a=0:=
 qt9 k _ _ (by omega) (by rw [qdn];omega) (qvq l)
theorem qua {k g:Nat} {l:List UInt8} (hk:34<k) (hg:g≠0) (hl:l.length≤2048):∀a∈qd1 g l,actE k a=0:=by
 intro a ha
 rcases List.mem_cons.1 ha with rfl | ha
 ·exact qcp k
 ·rcases List.mem_append.1 ha with ha | ha
  ·exact qj5 hk hl a ha
  ·simp only [List.mem_cons,List.not_mem_nil,or_false] at ha
   rcases ha with rfl | rfl | rfl
   ·exact qcp k
   ·exact qil hk hg hl
   ·exact qcp k
theorem qjj {d:Dk} {g:Nat} {D K:List Fl} {l0:List UInt8} (hok:okD d=true) (hm:34<mny d) (hg:g≠4294967295) (hc:chkF D (mny d)=0):
  RnW (qb7 ((d,g,D,K),0,l0)) (qbs d (qd1 (g+1) (bytF D))) (g+1) D D (bytF D):=by
 have hl:(bytF D).length≤2048:=(qcd hc).2.2.2.2;have hmn:qbe (d,g,D,K)=(mny d:Int):=qj1 (f:=(d,g,D,K)) hok
 have e0:RnW (qak qb5 ((d,g,D,K),0,l0)) (some d) (g+1) D K (bytF D):=by
  show _=_
  unfold qak;rw [if_pos rfl]
  have:qb5 ((d,g,D,K),0,l0)=(((d,g+1,D,K),0,bytF D),0):=by
   unfold qb5;rw [if_neg hg]
   show (((d,g+1,D,K),(0:Int),qer D (qbe (d,g,D,K))),chkF D (qbe (d,g,D,K)))=_
   rw [hmn,hc];unfold qer;rw [if_pos hc]
  rw [this]
 have hs:∀x,qck ((x,g+1,D,K),0,bytF D)=(qlb ((x,g+1,D,K),0,bytF D) (doD x [(true,0,[])] 1).1,(doD x [(true,0,[])] 1).2):=fun x=>rfl
 have e1:=e0.act qck (true,0,[]) (fun x hx=>by cases hx;exact ⟨hok,qcp _⟩) hs
 have o1:∀x,(some d).bind (fun x=>oneD x (true,0,[]))=some x→okD x=true∧mny x=mny d:=fun x hx=>by
  obtain ⟨a,b,_⟩:=qew hok (qcp _) hx;exact ⟨a,b⟩
 have e2:=e1.writes (fun x hx=>⟨(o1 x hx).1,by rw [(o1 x hx).2];exact qj5 hm hl⟩)
 have o2:∀x,(((some d).bind fun x=>oneD x (true,0,[])).bind fun x=>qbs x (qc9 ((2+(g+1) % 2*16:Nat):Int) (qbg (bytF D))))=some x→okD x=true∧mny x=mny d:=fun x hx=>by
  obtain ⟨z,h1,h2⟩:=Option.bind_eq_some_iff.1 hx;obtain ⟨a,b⟩:=o1 z h1;obtain ⟨a',b'⟩:=qlh a (by rw [b];exact qj5 hm hl) h2;exact ⟨a',b'.trans b⟩
 have e3:=e2.act qck (true,0,[]) (fun x hx=>⟨(o2 x hx).1,qcp _⟩) hs
 have o3:∀x,((((some d).bind fun x=>oneD x (true,0,[])).bind fun x=>qbs x (qc9 ((2+(g+1) % 2*16:Nat):Int) (qbg (bytF D)))).bind fun x=>oneD x (true,0,[]))=some x→okD x=true∧mny x=mny d:=fun x hx=>by
  obtain ⟨z,h1,h2⟩:=Option.bind_eq_some_iff.1 hx;obtain ⟨a,b⟩:=o2 z h1;obtain ⟨a',b',_⟩:=qew a (qcp _) h2;exact ⟨a',b'.trans b⟩
 have e4:=e3.act qig (false,(((g+1) % 2:Nat):Int),(qam (g+1) ((bytF D).length:Nat)).1) (fun x hx=>⟨(o3 x hx).1,qil (by rw [(o3 x hx).2];exact hm) (by omega) hl⟩) (fun x=>by
  unfold qig
  have h1:(qam (g+1) ((bytF D).length:Nat)).2=0:=by rw [qgl (by omega) (by omega) (by omega)]
  show (if (qam (g+1) ((bytF D).length:Nat)).2≠0 then _ else _)=_
  rw [if_neg (by rw [h1];decide)]
  rfl)
 have o4:∀x,(((((some d).bind fun x=>oneD x (true,0,[])).bind fun x=>qbs x (qc9 ((2+(g+1) % 2*16:Nat):Int) (qbg (bytF D)))).bind fun x=>oneD x (true,0,[])).bind fun x=>oneD x (false,(((g+1) % 2:Nat):Int),(qam (g+1) ((bytF D).length:Nat)).1))=some x→okD x=true∧mny x=mny d:=fun x hx=>by
  obtain ⟨z,h1,h2⟩:=Option.bind_eq_some_iff.1 hx;obtain ⟨a,b⟩:=o3 z h1;obtain ⟨a',b',_⟩:=qew a (qil (by rw [b];exact hm) (by omega) hl) h2;exact ⟨a',b'.trans b⟩
 have e5:=e4.act qck (true,0,[]) (fun x hx=>⟨(o4 x hx).1,qcp _⟩) hs
 have ea:qbs d (qd1 (g+1) (bytF D))=((((((some d).bind fun x=>oneD x (true,0,[])).bind fun x=>qbs x (qc9 ((2+(g+1) % 2*16:Nat):Int) (qbg (bytF D)))).bind fun x=>oneD x (true,0,[])).bind fun x=>oneD x (false,(((g+1) % 2:Nat):Int),(qam (g+1) ((bytF D).length:Nat)).1)).bind fun x=>oneD x (true,0,[])):=by
  have:qd1 (g+1) (bytF D)=[(true,0,[])]++(qc9 ((2+(g+1) % 2*16:Nat):Int) (qbg (bytF D))++([(true,0,[])]++([(false,(((g+1) % 2:Nat):Int),(qam (g+1) ((bytF D).length:Nat)).1)]++[(true,0,[])]))):=rfl
  rw [this]
  simp only [qda,qgp,Option.bind_assoc]
  simp only [Option.bind_some,Option.bind_assoc]
 rw [←ea] at e5
 show RnW (qak keepW _) _ _ _ _ _
 unfold RnW at e5 ⊢
 cases ho:qbs d (qd1 (g+1) (bytF D)) with
 | none=>rw [ho] at e5;simp only at e5 ⊢;rw [qcl (by rw [e5];decide)];exact e5
 | some x=>rw [ho] at e5;simp only at e5 ⊢;rw [e5];rfl
def qyr (f:Fsd):Fsd × Int:=if fsE f≠0 then (fz,fsE f) else if f.2.1=4294967295 then (fz,9) else match qbs f.1 (qd1 (f.2.1+1) (bytF f.2.2.1)) with | none=>(fz,9) | some x=>((x,f.2.1+1,f.2.2.1,f.2.2.1),0)
theorem qim (f:Fsd):(fsE f≠0∧(qb7 (qbb f)).2.1=fsE f)∨(fsE f=0∧f.2.1=4294967295∧(qb7 (qbb f)).2.1=9)∨(fsE f=0∧f.2.1≠4294967295∧RnW (qb7 (qbb f)) (qbs f.1 (qd1 (f.2.1+1) (bytF f.2.2.1))) (f.2.1+1) f.2.2.1 f.2.2.1 (bytF f.2.2.1)):=by
 rcases qcc f with ⟨h,h0⟩ | ⟨h,h0⟩
 ·obtain ⟨h1,h2,h3,h4⟩:=qcg h
  by_cases hg:f.2.1=4294967295
  ·refine .inr (.inl ⟨h0,hg, ?_⟩)
   have e:qak qb5 (qbb f)=(f,9,[]):=by
    unfold qak;rw [if_pos (show (qbb f).2.1=0 from h0)]
    have:qb5 (qbb f)=(qbb f,9):=by unfold qb5;rw [if_pos (show (qbb f).1.2.1=4294967295 from hg)]
    rw [this];rfl
   have t:∀s,qak s (f,9,[])=(f,9,[]):=fun s=>qcl (by simp)
   unfold qb7;rw [e,t,t,t,t,t,t]
  ·refine .inr (.inr ⟨h0,hg, ?_⟩)
   have e:qbb f=((f.1,f.2.1,f.2.2.1,f.2.2.2),0,[]):=by unfold qbb;rw [h0]
   rw [e];exact qjj h1 h2 hg h.2.2.2.2.2
 ·refine .inl ⟨by rw [h0];decide, ?_⟩
  have e:(qbb f).2.1≠0:=by show fsE f≠0;rw [h0];decide
  unfold qb7;rw [qcl e,qcl e,qcl e,qcl e,qcl e,qcl e,qcl e];rfl
theorem qli (f:Fsd):qcn f=qyr f:=by
 unfold qcn qyr
 rcases qim f with ⟨h0,h1⟩ | ⟨h0,hg,h1⟩ | ⟨h0,hg,h1⟩
 ·have e1:endW (qb7 (qbb f))=(fz,fsE f):=by unfold endW;rw [if_pos (by rw [h1];exact h0),h1]
  rw [e1,if_pos h0]
 ·have e1:endW (qb7 (qbb f))=(fz,9):=by unfold endW;rw [if_pos (by rw [h1];decide),h1]
  rw [e1,if_neg (by rw [h0];decide),if_pos hg]
 ·rw [if_neg (c:=fsE f≠0) (by rw [h0];decide),if_neg hg]
  unfold RnW at h1
  cases ho:qbs f.1 (qd1 (f.2.1+1) (bytF f.2.2.1)) with
  | none=>rw [ho] at h1;simp only at h1 ⊢;unfold endW;rw [if_pos (by rw [h1];decide),h1]
  | some x=>rw [ho] at h1;simp only at h1 ⊢;rw [h1];rfl
theorem qqy:qd2 []:=⟨by simp,by simp⟩
theorem qqz (f:Fsd) (h:(qb7 (qbb f)).2.1=0):qd2 (qb7 (qbb f)).1.2.2.1∧qd2 (qb7 (qbb f)).1.2.2.2:=by
 rcases qim f with ⟨h0,h1⟩ | ⟨h0,hg,h1⟩ | ⟨h0,hg,h1⟩
 ·rw [h1] at h;exact absurd h h0
 ·rw [h1] at h;cases h
 ·have hs:qd2 f.2.2.1:=qle (qx8 h0).2.2.2.2.2
  unfold RnW at h1
  cases ho:qbs f.1 (qd1 (f.2.1+1) (bytF f.2.2.1)) with
  | none=>rw [ho] at h1;simp only at h1;rw [h1] at h;cases h
  | some x=>rw [ho] at h1;simp only at h1;rw [h1];exact ⟨hs,hs⟩
theorem qys (x:FsV) (f:Fsd) (w:World) (h:RdX w x f) (hw:WfX f):
  Calls Tryz.prog 15 #[x.val] w fun e w'=>∃v,e=.returned (.tuple #[v,.int .i64 (qcn f).2])∧OwFs w' w.heap.size v (qcn f).1∧Below w.heap.size w w':=by
 obtain ⟨w1,ew⟩:∃w1,(w.alloc (.cells x.cs 32)).alloc (.cells #[.slice none 0 0,.slice none 0 0,.slice none 0 0,.int .u32 0,.slice none 0 0,.slice none 0 0] 32)=w1:=⟨_,rfl⟩;have HX:=hide h;have HW:=hide hw;clear h hw;have q0:Below w.heap.size w (w.alloc (.cells x.cs 32)):=(Below.refl _ _).alloc (Nat.le_refl _) _;have F0:FsAt (w.alloc (.cells x.cs 32)) w.heap.size x:=Bq.new _ _ _
 have q9:Below ((w.alloc (.cells x.cs 32))).heap.size (w.alloc (.cells x.cs 32)) w1:=by rw [←ew];exact (Below.refl _ _).alloc (Nat.le_refl _) _
 have qb2:=hide (show FsB w1 (w.heap.size+1) by have:=FsB.new (w.alloc (.cells x.cs 32));rw [←ew];simpa using this);have b0:=q0;have b9:=b0.trans (q9.mono b0.size);have qag:=hide b9;have qcv:=hide ((F0).carry q9);have HSZ:=hide (show w1.heap.size=w.heap.size+2 by rw [←ew];simp);clear F0 q0 q9 b9 b0;unfold FsV.val;unfold FsV.cs at ew;obtain ⟨k0,k1,k2,k3,k4,k5⟩:=qab qcv.out
 go_enter Tryz.func15,Tryz.ntmps15
 go_wp2_with fail
 try rw [ew]
 refine (qj4 x f w1 (HX.out.carry qag.out) HW.out).mono ?_
 rintro e w2 ⟨p,rfl,hp,hs2,hb2⟩
 have hpp:w.heap.size+2≤p:=by have:=HSZ.out;omega
 have qax:=hide (qb2.out.carry hb2);have qai:=bT qag hb2;have qik:=hide (show WayS w2 p w.heap.size false (qbb f) by obtain ⟨y1,y2,y3,y4,y5,y6,y7,y8⟩:=hs2;exact ⟨y1,y2,y3,y4,y5,y6,y7,fun w' hg=>⟨(y8 w' hg).1,(y8 w' hg).2.1,fun h=>by cases h⟩⟩);clear hs2 hb2 hp ew k0 k1 k2 k3 k4 k5
 go_wp2_with fail
 refine (qm8 p w.heap.size false (qbb f) w2 qik.out (by omega)).mono ?_
 rintro e w3 ⟨rfl,hs3,hg3⟩;have qbu:=hide (qax.out.grown hg3 (by omega));have qao:=hide (show Below w.heap.size w w3 from qai.out.grown hg3 qai.out.size (by intro k hk;cases hk;omega));have hen:=qlg p w.heap.size _ w3 hs3 qao.out.size (qqz f);rw [show endW (qb7 (qbb f))=qcn f from rfl] at hen;clear hs3 hg3 qik qai qax
 go_wp2_with fail
 refine hen.mono ?_
 rintro e w4 ⟨v9,rfl,ho9,hb9⟩;have qco:=hide (qbu.out.carry hb9);have qca:=bT qao hb9;clear hen hb9;obtain ⟨x9,e9, -⟩:=ho9.form;subst e9;have HST:=hide (ho9.stored (r:=w.heap.size+1) qco.out qca.out (by omega));obtain ⟨⟨d0,e0⟩,⟨d1,e1⟩,⟨d2,e2⟩,⟨d3,e3⟩,⟨d4,e4⟩,⟨d5,e5⟩,ff⟩:=qco.out.cells;have f0:=ff 0;have f1:=ff 1;have f2:=ff 2;have f3:=ff 3;have f4:=ff 4;have f5:=ff 5;clear ff ho9;unfold FsV.val;go_wp2;obtain ⟨w9,hw9⟩:∃w9,w9=set6 w4 (w.heap.size+1) x9:=⟨_,rfl⟩;rw [←hw9] at HST;unfold set6 at hw9;rw [←hw9];clear e0 e1 e2 e3 e4 e5 f0 f1 f2 f3 f4 f5 hw9;obtain ⟨z0,z1,z2,z3,z4,z5⟩:=qab HST.out.2.2
 try simp only [Exit.inBlock,Exit.then]
 refine bodyPost_ret (v:=.tuple #[x9.val,.int .i64 (qcn f).2]) ?_ rfl ⟨_,rfl,HST.out.1,HST.out.2.1⟩
 simp [results,Tryz.results15,go_sem, *]
theorem qin {s:Stp} {y:Wy} (h:y.2.1=0):qak s y=((s y).1.1,(s y).2,(s y).1.2.2):=by unfold qak;rw [if_pos h]
theorem qse (n:Nat) (caps:Array Value) (dl:List Fl) (de:Int) (p base q1 q2:Nat) (y:Wy) (w:World) (h:WayS w p base false y) (hp:base≤p) (hdl:wfFs dl)
  (hcf:∀wx:World,(callFunc n caps).run Tryz.prog wx=.ok (.enter n caps) wx)
  (hd:∀wx,Below w.heap.size w wx→Calls Tryz.prog n caps wx fun e w'=>∃v,e=.returned (.tuple #[.agg #[v],.int .i64 de])∧OwF w' wx.heap.size v dl∧Below wx.heap.size wx w')
  (h1:w.cell? ⟨q1,0,none⟩=some (.func (.func n) #[] caps)) (h2:w.cell? ⟨q2,0,none⟩=some (.pointer (some ⟨p,0,none⟩))) (hq1:q1≠p) (hq2:q2≠p):
  Calls Tryz.prog 85 #[.pointer (some ⟨q1,0,none⟩),.pointer (some ⟨q2,0,none⟩)] w fun e w'=>e=.returned (.int .i64 (dirW dl de y).2)∧((dirW dl de y).2=0→WayS w' p base false (dirW dl de y).1)∧WayS w' p base false (dirW dl de y).1∧w.grownBy w' (some p):=by
 have HS:=hide h;have HD:=hide hd;have HWF:=hide hdl
 have hK:Keeps (fun wx=>wx.cell? ⟨q1,0,none⟩=some (.func (.func n) #[] caps)∧wx.cell? ⟨q2,0,none⟩=some (.pointer (some ⟨p,0,none⟩))):=fun w1 w2 h hb=>⟨qaa _ _ _ _ h.1 hb,qaa _ _ _ _ h.2 hb⟩
 have hS0:(fun wx=>wx.cell? ⟨q1,0,none⟩=some (.func (.func n) #[] caps)∧wx.cell? ⟨q2,0,none⟩=some (.pointer (some ⟨p,0,none⟩))) w:=⟨h1,h2⟩;clear h hd hdl
 go_enter Tryz.func85,Tryz.ntmps85
 go_wp2_with fail
 clear h1 h2
 refine qaj hK (by kernel_rfl) hS0 ?_
 intro hS
 refine qah [0,1] (fuel:=9) (a':=?qaa1) (by kernel_rfl) (by kernel_rfl) (by kernel_rfl) ?qap1 hS ?qan1
 case qap1=>
  iterate 2 (apply Yl.cons rfl rfl;focus (rintro wx ⟨x1,x2⟩;go_simp;all_goals (with_reducible rfl));try simp only [Act.put,sA,sB,sC])
  exact Yl.nil
 refine qat (i:=2) (R:=fun v wx=>∃av nv cv,v=.tuple #[.agg #[.slice av nv cv],.int .i64 de]∧nv=dl.length∧OwF wx w.heap.size (.slice av nv cv) dl∧Below w.heap.size w wx) rfl (by kernel_rfl) (by rfl) (by go_simp) ((HD.out w.drew (Below.refl _ _).drew).mono fun e wy ⟨v,h1,h2,h3⟩=>by
   obtain ⟨a,c,ev⟩:=h2.form;subst ev
   exact ⟨_,h1,a,_,c,rfl,rfl,h2,(Below.refl _ _).drew.trans h3⟩) ?_
 rintro v6 w6 ⟨av,nv,cv,rfl,hnv,ho6,hb6⟩;have hS6:=hK _ _ hS0 hb6;refine ⟨hS6, ?_⟩;clear hS;have hS:=hS6
 try simp only [Act.put,sA,sB,sC]
 refine qah [3,4,5,6,7,8] (fuel:=2) (a':=?qaa2) (by kernel_rfl) (by kernel_rfl) (by kernel_rfl) ?qap2 hS ?qan2
 case qap2=>
  iterate 6 (apply Yl.cons rfl rfl;focus (rintro wx ⟨x1,x2⟩;go_simp;all_goals (with_reducible rfl));try simp only [Act.put,sA,sB,sC])
  exact Yl.nil
 have hst:=HS.out.setDir hb6 hnv HWF.out ho6;obtain ⟨x7,ab7,nb7,cb7,y1, -⟩:=HS.out.carry hb6;have f4:=y1.fz 4;have c4:=y1.cell 4
 simp only [List.getElem?_toArray,List.getElem?_cons_zero,List.getElem?_cons_succ] at c4
 obtain ⟨w9,hw9⟩:∃w9,w9=w6.setCell ⟨p,4,none⟩ (.slice av nv cv):=⟨_,rfl⟩;rw [←hw9] at hst;have HST:=hide hst
 have hg9:w6.grownBy w9 (some p):=by rw [hw9];exact qae w6 ⟨p,4,none⟩ _
 have hS9:(fun wx=>wx.cell? ⟨q1,0,none⟩=some (.func (.func n) #[] caps)∧wx.cell? ⟨q2,0,none⟩=some (.pointer (some ⟨p,0,none⟩))) w9:=⟨hg9.cell hS.1 (by intro e;injection e with e;exact hq1 e),hg9.cell hS.2 (by intro e;injection e with e;exact hq2 e)⟩
 refine qbx (i:=9) (w':=w9) rfl (by kernel_rfl) (by rfl) (by rw [hw9];go_simp) hS9 ?_
 clear hS hst y1 f4 c4 hw9 hg9 ho6 hb6 hS6;have hS:=hS9
 try simp only [Act.put,sA,sB,sC]
 refine qah [10] (fuel:=0) (a':=?qaa3) (by kernel_rfl) (by kernel_rfl) (by kernel_rfl) ?qap3 hS ?qan3
 case qap3=>
  iterate 1 (apply Yl.cons rfl rfl;focus (rintro wx ⟨x1,x2⟩;go_simp;all_goals (with_reducible rfl));try simp only [Act.put,sA,sB,sC])
  exact Yl.nil
 refine wpAnyH_done (by kernel_rfl) ?_ _
 refine NoPanic.normal ?_
 try simp only [Act.put,sA,sB,sC]
 clear hS hS9 hS0 hK;go_wp2;go_ret;exact ⟨rfl,fun _=>HST.out.1,HST.out.1,HST.out.2⟩
theorem qlj (n:Nat) (caps:Array Value) (dl:List Fl) (de:Int) (x:FsV) (f:Fsd) (w:World) (h:RdX w x f) (hw:WfX f) (hdl:wfFs dl) (hds:fsE f=0→de=0→qd2 dl)
  (hcf:∀wx:World,(callFunc n caps).run Tryz.prog wx=.ok (.enter n caps) wx)
  (hd:∀wx,Below w.heap.size w wx→Calls Tryz.prog n caps wx fun e w'=>∃v,e=.returned (.tuple #[.agg #[v],.int .i64 de])∧OwF w' wx.heap.size v dl∧Below wx.heap.size wx w'):
  Calls Tryz.prog 33 #[x.val,.func (.func n) #[] caps] w fun e w'=>∃v,e=.returned (.tuple #[v,.int .i64 (qdy f dl de).2])∧OwFs w' w.heap.size v (qdy f dl de).1∧Below w.heap.size w w':=by
 have HCF:=hide hcf;have HD:=hide hd;have HWF:=hide hdl;have HDS:=hide hds;clear hcf hd hdl hds;rw [←qx9];obtain ⟨w1,ew⟩:∃w1,((w.alloc (.cells x.cs 32)).alloc (.cells #[.func (.func n) #[] caps] 72)).alloc (.cells #[.slice none 0 0,.slice none 0 0,.slice none 0 0,.int .u32 0,.slice none 0 0,.slice none 0 0] 32)=w1:=⟨_,rfl⟩;have HX:=hide h;have HW:=hide hw;clear h hw;have q0:Below w.heap.size w (w.alloc (.cells x.cs 32)):=(Below.refl _ _).alloc (Nat.le_refl _) _;have F0:FsAt (w.alloc (.cells x.cs 32)) w.heap.size x:=Bq.new _ _ _;have q1:Below ((w.alloc (.cells x.cs 32))).heap.size (w.alloc (.cells x.cs 32)) ((w.alloc (.cells x.cs 32)).alloc (.cells #[.func (.func n) #[] caps] 72)):=(Below.refl _ _).alloc (Nat.le_refl _) _
 have C0:Bq ((w.alloc (.cells x.cs 32)).alloc (.cells #[.func (.func n) #[] caps] 72)) (w.heap.size+1) 72 #[.func (.func n) #[] caps]:=by have:=Bq.new (w.alloc (.cells x.cs 32)) 72 #[.func (.func n) #[] caps];simpa using this
 have q9:Below (((w.alloc (.cells x.cs 32)).alloc (.cells #[.func (.func n) #[] caps] 72))).heap.size ((w.alloc (.cells x.cs 32)).alloc (.cells #[.func (.func n) #[] caps] 72)) w1:=by rw [←ew];exact (Below.refl _ _).alloc (Nat.le_refl _) _
 have qb2:=hide (show FsB w1 (w.heap.size+2) by have:=FsB.new ((w.alloc (.cells x.cs 32)).alloc (.cells #[.func (.func n) #[] caps] 72));rw [←ew];simpa using this);have b0:=q0;have b1:=b0.trans (q1.mono b0.size);have b9:=b1.trans (q9.mono b1.size);have qag:=hide b9;have qcv:=hide (((F0).carry q1).carry q9);have qlk:=hide ((C0).carry q9);have HSZ:=hide (show w1.heap.size=w.heap.size+3 by rw [←ew];simp);clear F0 q0 q9 b9 b0 q1 b1 C0;unfold FsV.val;unfold FsV.cs at ew;obtain ⟨k0,k1,k2,k3,k4,k5⟩:=qab qcv.out
 go_enter Tryz.func33,Tryz.ntmps33
 go_wp2_with fail
 try rw [ew]
 refine (qj4 x f w1 (HX.out.carry qag.out) HW.out).mono ?_
 rintro e w2 ⟨p,rfl,hp,hs2,hb2⟩
 have hpp:w.heap.size+3≤p:=by have:=HSZ.out;omega
 have qax:=hide (qb2.out.carry hb2);have qacw:=hide (qlk.out.carry hb2);have qai:=bT qag hb2;have qik:=hide (show WayS w2 p w.heap.size false (qbb f) by obtain ⟨y1,y2,y3,y4,y5,y6,y7,y8⟩:=hs2;exact ⟨y1,y2,y3,y4,y5,y6,y7,fun w' hg=>⟨(y8 w' hg).1,(y8 w' hg).2.1,fun h=>by cases h⟩⟩);clear hs2 hb2 hp ew k0 k1 k2 k3 k4 k5;obtain ⟨w3,ew3⟩:∃w3,w2.alloc (.cells #[.pointer (some ⟨p,0,none⟩)] 88)=w3:=⟨_,rfl⟩
 have hb3:Below w2.heap.size w2 w3:=by rw [←ew3];exact (Below.refl _ _).alloc (Nat.le_refl _) _
 have qaet:=hide (show Bq w3 w2.heap.size 88 #[.pointer (some ⟨p,0,none⟩)] by rw [←ew3];exact Bq.new _ _ _);have qbu:=hide (qax.out.carry hb3);have qacx:=hide (qacw.out.carry hb3);have HS_w3:=hide (qik.out.carry hb3);have qao:=bT qai hb3;have HPL:=hide qik.out.lt;clear hb3
 have hK:Keeps (fun wx=>wx.cell? ⟨w2.heap.size,0,none⟩=some (.pointer (some ⟨p,0,none⟩))):=fun w1 w2 h hb=>qaa _ _ _ _ h hb
 have hS0:(fun wx=>wx.cell? ⟨w2.heap.size,0,none⟩=some (.pointer (some ⟨p,0,none⟩))) w3:=qaet.out.cell 0
 go_wp2_with fail
 try rw [ew3]
 have hdr:Below w3.heap.size w3 w3.drew:=(Below.refl _ _).drew;have HFB_wd:=hide (qbu.out.carry hdr);have HC0_wd:=hide (qacx.out.carry hdr);have HS_wd:=hide (HS_w3.out.carry hdr);have HQ_wd:=hide (qaet.out.carry hdr);have qsf:=hide (show Below w.heap.size w w3.drew from qao.out.trans (hdr.mono qao.out.size));clear ew3 qik qai qax qacw HS_w3 qao qbu qacx qaet
 refine qaj hK (by kernel_rfl) hS0 ?_
 intro hS;clear hS0 hdr;generalize w3.drew=wd at *
 refine qah [0,1,3,4] (fuel:=7) (a':=?qba1) (by kernel_rfl) (by kernel_rfl) (by kernel_rfl) ?qbp1 hS ?qbn1
 case qbp1=>
  iterate 4 (apply Yl.cons rfl rfl;focus (rintro wx x1;go_simp;all_goals (with_reducible rfl));try simp only [Act.put,sA,sB,sC])
  exact Yl.nil
 have ht:=qaeo 85 (.pointer (some ⟨w.heap.size+1,0,none⟩)) (.pointer (some ⟨w2.heap.size,0,none⟩)) (dirW dl de) p w.heap.size false false (qbb f) wd HS_wd.out rfl (fun wx=>by go_simp) (fun h0=>qse n caps dl de p w.heap.size _ _ (qbb f) wd HS_wd.out (by omega) HWF.out HCF.out (fun wx hb=>HD.out wx (qsf.out.trans (hb.mono qsf.out.size))) (HC0_wd.out.cell 0) hS (by omega) (by have:=HPL.out;omega))
 refine qat (i:=2) (R:=fun v wx=>v=.pointer (some ⟨p,0,none⟩)∧WayS wx p w.heap.size false (qak (dirW dl de) (qbb f))∧wd.grownBy wx (some p)) rfl (by kernel_rfl) (by rfl) (by go_simp) (ht.mono fun e wy h=>⟨_,h.1,rfl,h.2.1,h.2.2⟩) ?_
 clear ht;rintro v11 w11 ⟨rfl,hs11,hg11⟩;have hS11:(fun wx=>wx.cell? ⟨w2.heap.size,0,none⟩=some (.pointer (some ⟨p,0,none⟩))) w11:=hg11.cell hS (by intro e;injection e with e;have e:w2.heap.size=p:=e;have:=HPL.out;omega);refine ⟨hS11, ?_⟩;have qaeu:=hide (HFB_wd.out.grown hg11 (by omega));have qh8:=hide (show Below w.heap.size w w11 from qsf.out.grown hg11 qsf.out.size (by intro k hk;cases hk;omega));clear hS;have hS:=hS11;clear hS11 hg11
 try simp only [Act.put,sA,sB,sC]
 have ht:=qgo 86 qr8 p w.heap.size false true _ w11 hs11 rfl (fun wx=>by go_simp) (fun h0=>(qabp p w.heap.size false _ w11 hs11 (by omega)).mono fun e w' h=>⟨h.1,fun _=>h.2.1,h.2.1.any,h.2.2⟩)
 refine qat (i:=5) (R:=fun v wx=>v=.pointer (some ⟨p,0,none⟩)∧WayS wx p w.heap.size true (qak qr8 (qak (dirW dl de) (qbb f)))∧w11.grownBy wx (some p)) rfl (by kernel_rfl) (by rfl) (by go_simp) (ht.mono fun e wy h=>⟨_,h.1,rfl,h.2.1,h.2.2⟩) ?_
 clear ht;rintro v14 w14 ⟨rfl,hs14,hg14⟩;have hS14:(fun wx=>wx.cell? ⟨w2.heap.size,0,none⟩=some (.pointer (some ⟨p,0,none⟩))) w14:=hg14.cell hS (by intro e;injection e with e;have e:w2.heap.size=p:=e;have:=HPL.out;omega);refine ⟨hS14, ?_⟩;have qaev:=hide (qaeu.out.grown hg14 (by omega));have qm9:=hide (show Below w.heap.size w w14 from qh8.out.grown hg14 qh8.out.size (by intro k hk;cases hk;omega));clear hS;have hS:=hS14;clear hS14 hg14 hs11
 try simp only [Act.put,sA,sB,sC]
 have hen:=qlg p w.heap.size _ w14 hs14 qm9.out.size (fun h0=>by
   have h1:=qij h0;have h2:=qij h1.1;have h3:=qii h2.1;have h4:=HDS.out h2.1 h2.2;rw [qin h1.1,qin h2.1]
   exact ⟨h4,h3.2⟩)
 rw [show endW (qak qr8 (qak (dirW dl de) (qbb f)))=qm2 f dl de from rfl] at hen
 refine qat (i:=6) (R:=fun v wx=>∃u,v=.tuple #[u,.int .i64 (qm2 f dl de).2]∧OwFs wx w.heap.size u (qm2 f dl de).1∧Below w14.heap.size w14 wx) rfl (by kernel_rfl) (by rfl) (by go_simp) (hen.mono fun e wy ⟨u,h1,h2,h3⟩=>⟨_,h1,u,rfl,h2,h3⟩) ?_
 clear hen;rintro v15 w15 ⟨u15,rfl,ho9,hb15⟩;have hS15:=hK _ _ hS hb15;refine ⟨hS15, ?_⟩;have qsg:=hide (qaev.out.carry hb15);have qub:=bT qm9 hb15;obtain ⟨x9,e9, -⟩:=ho9.form;subst e9;have HST:=hide (ho9.stored (r:=w.heap.size+2) qsg.out qub.out (by omega));clear hS;have hS:=hS15;clear hS15 hb15 hs14 ho9
 try simp only [Act.put,sA,sB,sC]
 refine qah [7,8] (fuel:=2) (a':=?qba2) (by kernel_rfl) (by kernel_rfl) (by kernel_rfl) ?qbp2 hS ?qbn2
 case qbp2=>
  iterate 2 (apply Yl.cons rfl rfl;focus (rintro wx x1;go_simp;all_goals (with_reducible rfl));try simp only [Act.put,sA,sB,sC])
  exact Yl.nil
 obtain ⟨⟨d0,e0⟩,⟨d1,e1⟩,⟨d2,e2⟩,⟨d3,e3⟩,⟨d4,e4⟩,⟨d5,e5⟩,ff⟩:=qsg.out.cells;have f0:=ff 0;have f1:=ff 1;have f2:=ff 2;have f3:=ff 3;have f4:=ff 4;have f5:=ff 5;have hg9:=(qsg.out.put x9).2;obtain ⟨w9,hw9⟩:∃w9,w9=set6 w15 (w.heap.size+2) x9:=⟨_,rfl⟩;rw [←hw9] at HST hg9;have hS9:(fun wx=>wx.cell? ⟨w2.heap.size,0,none⟩=some (.pointer (some ⟨p,0,none⟩))) w9:=hg9.cell hS (by intro e;injection e with e;have e:w2.heap.size=w.heap.size+2:=e;have:=HPL.out;omega);unfold set6 at hw9
 refine qbx (i:=9) (w':=w9) rfl (by kernel_rfl) (by rfl) (by rw [hw9];go_simp) hS9 ?_
 clear hS hw9 hg9 e0 e1 e2 e3 e4 e5 f0 f1 f2 f3 f4 f5 ff;have hS:=hS9;clear hS9;obtain ⟨z0,z1,z2,z3,z4,z5⟩:=qab HST.out.2.2
 try simp only [Act.put,sA,sB,sC]
 refine qah [10] (fuel:=0) (a':=?qba3) (by kernel_rfl) (by kernel_rfl) (by kernel_rfl) ?qbp3 hS ?qbn3
 case qbp3=>
  iterate 1 (apply Yl.cons rfl rfl;focus (rintro wx x1;go_simp;all_goals (with_reducible rfl));try simp only [Act.put,sA,sB,sC])
  exact Yl.nil
 refine wpAnyH_done (by kernel_rfl) ?_ _
 refine NoPanic.normal ?_
 try simp only [Act.put,sA,sB,sC]
 clear hS hK;go_wp2
 refine bodyPost_ret (v:=.tuple #[x9.val,.int .i64 (qm2 f dl de).2]) ?_ rfl ⟨_,rfl,HST.out.1,HST.out.2.1⟩
 simp [results,Tryz.results33,go_sem, *]
end Go.Proofs.YthilibleedbchaaGreat

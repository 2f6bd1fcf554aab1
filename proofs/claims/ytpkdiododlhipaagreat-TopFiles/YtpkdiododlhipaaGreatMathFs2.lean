/-
  Plain mathematics of files on a disk: what a commit does.
-/
import Derived.Test.YtpkdiododlhipaaGreatFsEnd
import Derived.Test.YtpkdiododlhipaaGreatSNum
import Derived.Test.YtpkdiododlhipaaGreatFsCom
set_option maxHeartbeats 1000000
set_option maxRecDepth 100000
namespace Go.Proofs.YtpkdiododlhipaaGreat
open Go.RowKit
set_option linter.all false
theorem OwFs.keptS {w w':World} {base:Nat} {v:Value} {f:Fsd} {q:Nat} {cs:Array Value} {t:TypeId} {fr:Nat × Nat} (h:OwFs w base v f) (hg:w.grownBy w' (some q)) (hq:w.heap[q]? =some (.cells cs t fr)) (h1:t≠5) (h2:t≠77) (h3:t≠103) (h4:t≠91) (h5:t≠93):OwFs w' base v f:=by
 obtain ⟨d1,d2,d3,x,y,rfl,a,b,c⟩:=h;exact ⟨d1,d2,d3,x,y,rfl,a.keptS hg hq h1 h2 h3,b.keptS hg hq h4 h5,c.keptS hg hq h4 h5⟩
theorem OwFs.form {w:World} {base:Nat} {v:Value} {f:Fsd} (h:OwFs w base v f):∃x:FsV,v=x.val∧RdX w x f:=h.rd.form
theorem OwFs.stored {w w0:World} {base r:Nat} {x:FsV} {f:Fsd} (h:OwFs w base x.val f) (hr:FsB w r) (hb:Below w0.heap.size w0 w) (hr0:w0.heap.size≤r):
  OwFs (set6 w r x) base x.val f∧Below w0.heap.size w0 (set6 w r x)∧FsAt (set6 w r x) r x:=by
 obtain ⟨h1,h2⟩:=hr.put x;obtain ⟨y0,y1,y2,y3,y4,y5,hq⟩:=hr;exact ⟨h.keptS h2 hq (by decide) (by decide) (by decide) (by decide) (by decide),hb.grown h2 hb.size (by intro k hk;cases hk;exact hr0),h1⟩
theorem qjp {f:Fsd} (h:fsE f=0):qdh f.2.2.1∧qdh f.2.2.2:=by
 have h1:=qi4 h;refine ⟨qkr h1.2.2.2.2.2, ?_⟩;rw [←h1.2.2.2.2.1];exact qkr (qo7 h1.2.2.2.1).1
theorem qht {s:Stp} {y:Wy} (h:(qae s y).2.1=0):y.2.1=0∧(s y).2=0:=by
 unfold qae at h
 split at h
 ·rename_i h0;exact ⟨h0,h⟩
 ·rename_i h0;exact absurd h h0
theorem qhu (x:FsV) (f:Fsd) (w:World) (h:RdX w x f) (hw:WfX f):
  Calls Tryz.prog 9 #[x.val] w fun e w'=>∃v,e=.returned (.tuple #[v,.int .i64 (qbk f).2])∧OwFs w' w.heap.size v (qbk f).1∧Below w.heap.size w w':=by
 obtain ⟨w1,ew⟩:∃w1,(w.alloc (.cells x.cs 33)).alloc (.cells #[.slice none 0 0,.slice none 0 0,.slice none 0 0,.int .u32 0,.slice none 0 0,.slice none 0 0] 33)=w1:=⟨_,rfl⟩;have HX:=hide h;have HW:=hide hw;clear h hw;have q0:Below w.heap.size w (w.alloc (.cells x.cs 33)):=(Below.refl _ _).alloc (Nat.le_refl _) _;have F0:FsAt (w.alloc (.cells x.cs 33)) w.heap.size x:=Bq.new _ _ _
 have q9:Below ((w.alloc (.cells x.cs 33))).heap.size (w.alloc (.cells x.cs 33)) w1:=by rw [←ew];exact (Below.refl _ _).alloc (Nat.le_refl _) _
 have qcz:=hide (show FsB w1 (w.heap.size+1) by have:=FsB.new (w.alloc (.cells x.cs 33));rw [←ew];simpa using this);have b0:=q0;have b9:=b0.trans (q9.mono b0.size);have qac:=hide b9;have qbf:=hide ((F0).carry q9);have HSZ:=hide (show w1.heap.size=w.heap.size+2 by rw [←ew];simp);clear F0 q0 q9 b9 b0;unfold FsV.val;unfold FsV.cs at ew;obtain ⟨k0,k1,k2,k3,k4,k5⟩:=qab qbf.out
 go_enter Tryz.func9,Tryz.ntmps9
 go_wp2_with fail
 try rw [ew]
 refine (qjo x f w1 (HX.out.carry qac.out) HW.out).mono ?_
 rintro e w2 ⟨p,rfl,hp,hs2,hb2⟩
 have hpp:w.heap.size+2≤p:=by have:=HSZ.out;omega
 have qbp:=hide (qcz.out.carry hb2);have qak:=bT qac hb2;have qhv:=hide (show WayS w2 p w.heap.size false (qaq f) by obtain ⟨y1,y2,y3,y4,y5,y6,y7,y8⟩:=hs2;exact ⟨y1,y2,y3,y4,y5,y6,y7,fun w' hg=>⟨(y8 w' hg).1,(y8 w' hg).2.1,fun h=>by cases h⟩⟩);clear hs2 hb2 hp ew k0 k1 k2 k3 k4 k5
 have hcf:∀wx:World,(callFunc 13 #[.pointer (some ⟨p,0,none⟩)]).run Tryz.prog wx=.ok (.enter 13 #[.pointer (some ⟨p,0,none⟩)]) wx:=fun wx=>by go_simp
 have ht:=qgn 13 qec p w.heap.size false true (qaq f) w2 qhv.out rfl hcf (fun h0=>(qpt p w.heap.size false (qaq f) w2 qhv.out (by omega)).mono fun e w' h=>⟨h.1,fun _=>h.2.1,h.2.1.any,h.2.2⟩);clear hcf
 go_wp2_with fail
 refine ht.mono ?_
 rintro e w3 ⟨rfl,hs3,hg3⟩;have qa0:=hide (qbp.out.grown hg3 (by omega));have qav:=hide (show Below w.heap.size w w3 from qak.out.grown hg3 qak.out.size (by intro k hk;cases hk;omega));have hen:=qku p w.heap.size _ w3 hs3 qav.out.size (fun h0=>by have:=qht h0;have h1:=qjp this.1;unfold qae;rw [if_pos this.1];exact h1);rw [show endW (qae qec (qaq f))=qbk f from rfl] at hen;clear ht hs3 hg3 qhv qak qbp
 go_wp2_with fail
 refine hen.mono ?_
 rintro e w4 ⟨v9,rfl,ho9,hb9⟩;have qc0:=hide (qa0.out.carry hb9);have qb1:=bT qav hb9;clear hen hb9;obtain ⟨x9,e9, -⟩:=ho9.form;subst e9;have HST:=hide (ho9.stored (r:=w.heap.size+1) qc0.out qb1.out (by omega));obtain ⟨⟨d0,e0⟩,⟨d1,e1⟩,⟨d2,e2⟩,⟨d3,e3⟩,⟨d4,e4⟩,⟨d5,e5⟩,ff⟩:=qc0.out.cells;have f0:=ff 0;have f1:=ff 1;have f2:=ff 2;have f3:=ff 3;have f4:=ff 4;have f5:=ff 5;clear ff ho9;unfold FsV.val;go_wp2;obtain ⟨w9,hw9⟩:∃w9,w9=set6 w4 (w.heap.size+1) x9:=⟨_,rfl⟩;rw [←hw9] at HST;unfold set6 at hw9;rw [←hw9];clear e0 e1 e2 e3 e4 e5 f0 f1 f2 f3 f4 f5 hw9;obtain ⟨z0,z1,z2,z3,z4,z5⟩:=qab HST.out.2.2
 try simp only [Exit.inBlock,Exit.then]
 refine bodyPost_ret (v:=.tuple #[x9.val,.int .i64 (qbk f).2]) ?_ rfl ⟨_,rfl,HST.out.1,HST.out.2.1⟩
 simp [results,Tryz.results9,go_sem, *]
theorem do1 {d:Dk} {a:Ac} (h:okD d=true) (ha:actE (mny d) a=0):doD d [a] 1=match oneD d a with | none=>(dz,9) | some x=>(x,0):=by
 unfold doD;rw [if_neg (by rw [qq6 h];decide),if_neg (by simp [qd7,ha]),if_neg (by simp)];rw [show Int.toNat 1=1 from rfl]
 simp only [List.take_succ_cons,List.take_zero,qas]
 cases oneD d a<;>rfl
def qdk:Int→List (List UInt8)→List Ac
 | _,[]=>[]
 | n,b::l=>(false,n,b)::qdk (n+1) l
def qca (g:Nat) (l:List UInt8):List Ac:=(true,0,[])::(qdk ((2+g % 2*16:Nat):Int) (qaz l)++[(true,0,[]),(false,((g % 2:Nat):Int),(qaj g (l.length:Nat)).1),(true,0,[])])
theorem qa5:∀(a b:List Ac) (d:Dk),qas d (a++b)=(qas d a).bind fun x=>qas x b
 | [],b,d=>rfl
 | x::a,b,d=>by
  show (match oneD d x with | none=>none | some y=>qas y (a++b))=(match oneD d x with | none=>none | some y=>qas y a).bind _
  cases oneD d x with
  | none=>rfl
  | some y=>exact qa5 a b y
theorem qch (d:Dk) (a:Ac):qas d [a]=oneD d a:=by
 show (match oneD d a with | none=>none | some y=>qas y [])=_
 cases oneD d a<;>rfl
def RnW (y:Wy) (o:Option Dk) (g:Nat) (D K:List Fl) (l:List UInt8):Prop:=match o with | some x=>y=((x,g,D,K),0,l) | none=>y.2.1=9
theorem qby {s:Stp} {y:Wy} (h:y.2.1≠0):qae s y=y:=by unfold qae;rw [if_neg h]
theorem RnW.act {y:Wy} {o:Option Dk} {g:Nat} {D K:List Fl} {l:List UInt8} (s:Stp) (a:Ac) (h:RnW y o g D K l) (hok:∀x,o=some x→okD x=true∧actE (mny x) a=0)
  (hs:∀x,s ((x,g,D,K),0,l)=(qkf ((x,g,D,K),0,l) (doD x [a] 1).1,(doD x [a] 1).2)):RnW (qae s y) (o.bind fun x=>oneD x a) g D K l:=by
 cases o with
 | none=>
  have h:y.2.1=9:=h;rw [qby (by rw [h];decide)];exact h
 | some x=>
  have h:y=((x,g,D,K),0,l):=h;subst h;obtain ⟨h1,h2⟩:=hok x rfl
  have e:qae s ((x,g,D,K),0,l)=(((doD x [a] 1).1,g,D,K),(doD x [a] 1).2,l):=by
   unfold qae;rw [if_pos rfl,hs];rfl
  rw [e,do1 h1 h2]
  show RnW _ (oneD x a) g D K l
  cases oneD x a<;>rfl
theorem qfu {d d':Dk} {l:List Ac} (h:okD d=true) (ha:∀a∈l,actE (mny d) a=0) (he:qas d l=some d'):okD d'=true∧mny d'=mny d:=by
 obtain ⟨a,b,_⟩:=qey l d d' h ha he;exact ⟨a,b⟩
theorem qpv (g:Nat) (D K:List Fl) (e:Int) (l:List UInt8):∀(bl:List (List UInt8)) (n:Int) (x:Dk),okD x=true→(∀a∈qdk n bl,actE (mny x) a=0)→
  match qas x (qdk n bl) with | some x'=>qcd n bl ((x,g,D,K),e,l)=(((x',g,D,K),e,l),0) | none=>(qcd n bl ((x,g,D,K),e,l)).2=9
 | [],n,x,h,ha=>rfl
 | b::bl,n,x,h,ha=>by
  have h1:=ha (false,n,b) (List.mem_cons_self ..);have e1:qcy n b ((x,g,D,K),e,l)=(qkf ((x,g,D,K),e,l) (doD x [(false,n,b)] 1).1,(doD x [(false,n,b)] 1).2):=rfl
  show (match (match oneD x (false,n,b) with | none=>none | some y=>qas y (qdk (n+1) bl)) with | some x'=>qcd n (b::bl) ((x,g,D,K),e,l)=(((x',g,D,K),e,l),0) | none=>(qcd n (b::bl) ((x,g,D,K),e,l)).2=9)
  rw [qft,e1,do1 h h1]
  cases ho:oneD x (false,n,b) with
  | none=>simp
  | some y=>
   obtain ⟨h2,h3,_⟩:=qc8 h h1 ho;have ih:=qpv g D K e l bl (n+1) y h2 (fun a ha'=>by rw [h3];exact ha a (List.mem_cons_of_mem _ ha'))
   simp only [ne_eq,not_true_eq_false,if_false]
   exact ih
theorem RnW.writes {y:Wy} {o:Option Dk} {g:Nat} {D K:List Fl} {l:List UInt8} (h:RnW y o g D K l) (hok:∀x,o=some x→okD x=true∧∀a∈qdk ((2+g % 2*16:Nat):Int) (qaz l),actE (mny x) a=0):RnW (qae qfq y) (o.bind fun x=>qas x (qdk ((2+g % 2*16:Nat):Int) (qaz l))) g D K l:=by
 cases o with
 | none=>
  have h:y.2.1=9:=h;rw [qby (by rw [h];decide)];exact h
 | some x=>
  have h:y=((x,g,D,K),0,l):=h;subst h;obtain ⟨h1,h2⟩:=hok x rfl;have hw:=qpv g D K 0 l (qaz l) ((2+g % 2*16:Nat):Int) x h1 h2;have e:qfq ((x,g,D,K),0,l)=qcd ((2+g % 2*16:Nat):Int) (qaz l) ((x,g,D,K),0,l):=rfl
  show RnW _ (qas x (qdk ((2+g % 2*16:Nat):Int) (qaz l))) g D K l
  unfold qae;rw [if_pos rfl,e]
  cases ho:qas x (qdk ((2+g % 2*16:Nat):Int) (qaz l)) with
  | none=>rw [ho] at hw;exact hw
  | some x'=>
   rw [ho] at hw
   show _=_
   rw [hw]
theorem qs1 (k:Nat):∀(bl:List (List UInt8)) (n:Int),0≤n→n+bl.length≤k→(∀b∈bl,b.length=128)→∀a∈qdk n bl,actE k a=0
 | [],n,_,_,_,a,ha=>by cases ha
 | b::bl,n,h1,h2,h3,a,ha=>by
  rcases List.mem_cons.1 ha with rfl | ha
  ·have h4:=h3 b (List.mem_cons_self ..)
   simp only [List.length_cons] at h2
   unfold actE putE
   simp only [Bool.false_eq_true,if_false]
   rw [if_neg (by omega),if_neg (by omega)]
  ·exact qs1 k bl (n+1) (by omega) (by simp only [List.length_cons] at h2;omega) (fun b hb=>h3 b (List.mem_cons_of_mem _ hb)) a ha
theorem qut (l:List UInt8):∀b∈qaz l,b.length=128:=by
 intro b hb;obtain ⟨k,_,rfl⟩:=List.mem_map.1 hb;exact qaab _
theorem qb3 (k:Nat):actE k (true,0,[])=0:=by simp [actE]
theorem qhw {k g:Nat} {n:Nat} (hk:34<k) (hg:g≠0) (hn:n≤2048):actE k (false,((g % 2:Nat):Int),(qaj g (n:Nat)).1)=0:=by
 have h1:(qaj g (n:Nat)).2=0:=by rw [qhb hg (by omega) (by omega)]
 have h2:=qlv h1;unfold actE putE
 simp only [Bool.false_eq_true,if_false]
 rw [if_neg (by omega),if_neg (by omega)]
theorem qjq {k g:Nat} {l:List UInt8} (hk:34<k) (hl:l.length≤2048):∀a∈qdk ((2+g % 2*16:Nat):Int) (qaz l),actE k a=0:=
 qs1 k _ _ (by omega) (by rw [qb0];omega) (qut l)
theorem qjr {k g:Nat} {l:List UInt8} (hk:34<k) (hg:g≠0) (hl:l.length≤2048):∀a∈qca g l,actE k a=0:=by
 intro a ha
 rcases List.mem_cons.1 ha with rfl | ha
 ·exact qb3 k
 ·rcases List.mem_append.1 ha with ha | ha
  ·exact qjq hk hl a ha
  ·simp only [List.mem_cons,List.not_mem_nil,or_false] at ha
   rcases ha with rfl | rfl | rfl
   ·exact qb3 k
   ·exact qhw hk hg hl
   ·exact qb3 k
theorem qi7 {d:Dk} {g:Nat} {D K:List Fl} {l0:List UInt8} (hok:okD d=true) (hm:34<mny d) (hg:g≠4294967295) (hc:chkF D (mny d)=0):
  RnW (qbe ((d,g,D,K),0,l0)) (qas d (qca (g+1) (bytF D))) (g+1) D D (bytF D):=by
 have hl:(bytF D).length≤2048:=(qa3 hc).2.2.2.2;have hmn:qaw (d,g,D,K)=(mny d:Int):=qhl (f:=(d,g,D,K)) hok
 have e0:RnW (qae qbc ((d,g,D,K),0,l0)) (some d) (g+1) D K (bytF D):=by
  show _=_
  unfold qae;rw [if_pos rfl]
  have:qbc ((d,g,D,K),0,l0)=(((d,g+1,D,K),0,bytF D),0):=by
   unfold qbc;rw [if_neg hg]
   show (((d,g+1,D,K),(0:Int),qd1 D (qaw (d,g,D,K))),chkF D (qaw (d,g,D,K)))=_
   rw [hmn,hc];unfold qd1;rw [if_pos hc]
  rw [this]
 have hs:∀x,qb8 ((x,g+1,D,K),0,bytF D)=(qkf ((x,g+1,D,K),0,bytF D) (doD x [(true,0,[])] 1).1,(doD x [(true,0,[])] 1).2):=fun x=>rfl
 have e1:=e0.act qb8 (true,0,[]) (fun x hx=>by cases hx;exact ⟨hok,qb3 _⟩) hs
 have o1:∀x,(some d).bind (fun x=>oneD x (true,0,[]))=some x→okD x=true∧mny x=mny d:=fun x hx=>by
  obtain ⟨a,b,_⟩:=qc8 hok (qb3 _) hx;exact ⟨a,b⟩
 have e2:=e1.writes (fun x hx=>⟨(o1 x hx).1,by rw [(o1 x hx).2];exact qjq hm hl⟩)
 have o2:∀x,(((some d).bind fun x=>oneD x (true,0,[])).bind fun x=>qas x (qdk ((2+(g+1) % 2*16:Nat):Int) (qaz (bytF D))))=some x→okD x=true∧mny x=mny d:=fun x hx=>by
  obtain ⟨z,h1,h2⟩:=Option.bind_eq_some_iff.1 hx;obtain ⟨a,b⟩:=o1 z h1;obtain ⟨a',b'⟩:=qfu a (by rw [b];exact qjq hm hl) h2;exact ⟨a',b'.trans b⟩
 have e3:=e2.act qb8 (true,0,[]) (fun x hx=>⟨(o2 x hx).1,qb3 _⟩) hs
 have o3:∀x,((((some d).bind fun x=>oneD x (true,0,[])).bind fun x=>qas x (qdk ((2+(g+1) % 2*16:Nat):Int) (qaz (bytF D)))).bind fun x=>oneD x (true,0,[]))=some x→okD x=true∧mny x=mny d:=fun x hx=>by
  obtain ⟨z,h1,h2⟩:=Option.bind_eq_some_iff.1 hx;obtain ⟨a,b⟩:=o2 z h1;obtain ⟨a',b',_⟩:=qc8 a (qb3 _) h2;exact ⟨a',b'.trans b⟩
 have e4:=e3.act qhk (false,(((g+1) % 2:Nat):Int),(qaj (g+1) ((bytF D).length:Nat)).1) (fun x hx=>⟨(o3 x hx).1,qhw (by rw [(o3 x hx).2];exact hm) (by omega) hl⟩) (fun x=>by
  unfold qhk
  have h1:(qaj (g+1) ((bytF D).length:Nat)).2=0:=by rw [qhb (by omega) (by omega) (by omega)]
  show (if (qaj (g+1) ((bytF D).length:Nat)).2≠0 then _ else _)=_
  rw [if_neg (by rw [h1];decide)]
  rfl)
 have o4:∀x,(((((some d).bind fun x=>oneD x (true,0,[])).bind fun x=>qas x (qdk ((2+(g+1) % 2*16:Nat):Int) (qaz (bytF D)))).bind fun x=>oneD x (true,0,[])).bind fun x=>oneD x (false,(((g+1) % 2:Nat):Int),(qaj (g+1) ((bytF D).length:Nat)).1))=some x→okD x=true∧mny x=mny d:=fun x hx=>by
  obtain ⟨z,h1,h2⟩:=Option.bind_eq_some_iff.1 hx;obtain ⟨a,b⟩:=o3 z h1;obtain ⟨a',b',_⟩:=qc8 a (qhw (by rw [b];exact hm) (by omega) hl) h2;exact ⟨a',b'.trans b⟩
 have e5:=e4.act qb8 (true,0,[]) (fun x hx=>⟨(o4 x hx).1,qb3 _⟩) hs
 have ea:qas d (qca (g+1) (bytF D))=((((((some d).bind fun x=>oneD x (true,0,[])).bind fun x=>qas x (qdk ((2+(g+1) % 2*16:Nat):Int) (qaz (bytF D)))).bind fun x=>oneD x (true,0,[])).bind fun x=>oneD x (false,(((g+1) % 2:Nat):Int),(qaj (g+1) ((bytF D).length:Nat)).1)).bind fun x=>oneD x (true,0,[])):=by
  have:qca (g+1) (bytF D)=[(true,0,[])]++(qdk ((2+(g+1) % 2*16:Nat):Int) (qaz (bytF D))++([(true,0,[])]++([(false,(((g+1) % 2:Nat):Int),(qaj (g+1) ((bytF D).length:Nat)).1)]++[(true,0,[])]))):=rfl
  rw [this]
  simp only [qa5,qch,Option.bind_assoc]
  simp only [Option.bind_some,Option.bind_assoc]
 rw [←ea] at e5
 show RnW (qae keepW _) _ _ _ _ _
 unfold RnW at e5 ⊢
 cases ho:qas d (qca (g+1) (bytF D)) with
 | none=>rw [ho] at e5;simp only at e5 ⊢;rw [qby (by rw [e5];decide)];exact e5
 | some x=>rw [ho] at e5;simp only at e5 ⊢;rw [e5];rfl
def qaai (f:Fsd):Fsd × Int:=if fsE f≠0 then (fz,fsE f) else if f.2.1=4294967295 then (fz,9) else match qas f.1 (qca (f.2.1+1) (bytF f.2.2.1)) with | none=>(fz,9) | some x=>((x,f.2.1+1,f.2.2.1,f.2.2.1),0)
theorem qhx (f:Fsd):(fsE f≠0∧(qbe (qaq f)).2.1=fsE f)∨(fsE f=0∧f.2.1=4294967295∧(qbe (qaq f)).2.1=9)∨(fsE f=0∧f.2.1≠4294967295∧RnW (qbe (qaq f)) (qas f.1 (qca (f.2.1+1) (bytF f.2.2.1))) (f.2.1+1) f.2.2.1 f.2.2.1 (bytF f.2.2.1)):=by
 rcases qcr f with ⟨h,h0⟩ | ⟨h,h0⟩
 ·obtain ⟨h1,h2,h3,h4⟩:=qam h
  by_cases hg:f.2.1=4294967295
  ·refine .inr (.inl ⟨h0,hg, ?_⟩)
   have e:qae qbc (qaq f)=(f,9,[]):=by
    unfold qae;rw [if_pos (show (qaq f).2.1=0 from h0)]
    have:qbc (qaq f)=(qaq f,9):=by unfold qbc;rw [if_pos (show (qaq f).1.2.1=4294967295 from hg)]
    rw [this];rfl
   have t:∀s,qae s (f,9,[])=(f,9,[]):=fun s=>qby (by simp)
   unfold qbe;rw [e,t,t,t,t,t,t]
  ·refine .inr (.inr ⟨h0,hg, ?_⟩)
   have e:qaq f=((f.1,f.2.1,f.2.2.1,f.2.2.2),0,[]):=by unfold qaq;rw [h0]
   rw [e];exact qi7 h1 h2 hg h.2.2.2.2.2
 ·refine .inl ⟨by rw [h0];decide, ?_⟩
  have e:(qaq f).2.1≠0:=by show fsE f≠0;rw [h0];decide
  unfold qbe;rw [qby e,qby e,qby e,qby e,qby e,qby e,qby e];rfl
theorem qpw (f:Fsd):qbv f=qaai f:=by
 unfold qbv qaai
 rcases qhx f with ⟨h0,h1⟩ | ⟨h0,hg,h1⟩ | ⟨h0,hg,h1⟩
 ·have e1:endW (qbe (qaq f))=(fz,fsE f):=by unfold endW;rw [if_pos (by rw [h1];exact h0),h1]
  rw [e1,if_pos h0]
 ·have e1:endW (qbe (qaq f))=(fz,9):=by unfold endW;rw [if_pos (by rw [h1];decide),h1]
  rw [e1,if_neg (by rw [h0];decide),if_pos hg]
 ·rw [if_neg (c:=fsE f≠0) (by rw [h0];decide),if_neg hg]
  unfold RnW at h1
  cases ho:qas f.1 (qca (f.2.1+1) (bytF f.2.2.1)) with
  | none=>rw [ho] at h1;simp only at h1 ⊢;unfold endW;rw [if_pos (by rw [h1];decide),h1]
  | some x=>rw [ho] at h1;simp only at h1 ⊢;rw [h1];rfl
theorem qpx:qdh []:=⟨by simp,by simp⟩
theorem qpy (f:Fsd) (h:(qbe (qaq f)).2.1=0):qdh (qbe (qaq f)).1.2.2.1∧qdh (qbe (qaq f)).1.2.2.2:=by
 rcases qhx f with ⟨h0,h1⟩ | ⟨h0,hg,h1⟩ | ⟨h0,hg,h1⟩
 ·rw [h1] at h;exact absurd h h0
 ·rw [h1] at h;cases h
 ·have hs:qdh f.2.2.1:=qkr (qi4 h0).2.2.2.2.2
  unfold RnW at h1
  cases ho:qas f.1 (qca (f.2.1+1) (bytF f.2.2.1)) with
  | none=>rw [ho] at h1;simp only at h1;rw [h1] at h;cases h
  | some x=>rw [ho] at h1;simp only at h1;rw [h1];exact ⟨hs,hs⟩
end Go.Proofs.YtpkdiododlhipaaGreat

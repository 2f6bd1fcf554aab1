/-
  Plain mathematics of files on a disk: what a commit does.
-/
import Derived.Test.YtnmbbpdhjkaidaaGreatFsEnd
import Derived.Test.YtnmbbpdhjkaidaaGreatSNum
set_option maxHeartbeats 1000000
set_option maxRecDepth 100000
namespace Go.Proofs.YtnmbbpdhjkaidaaGreat
open Go.RowKit
set_option linter.all false
theorem OwFs.keptS {w w':World} {base:Nat} {v:Value} {f:Fsd} {q:Nat} {cs:Array Value} {t:TypeId} {fr:Nat × Nat} (h:OwFs w base v f) (hg:w.grownBy w' (some q)) (hq:w.heap[q]? =some (.cells cs t fr)) (h1:t≠5) (h2:t≠121) (h3:t≠177) (h4:t≠143) (h5:t≠209):OwFs w' base v f:=by
 obtain ⟨d1,d2,d3,x,y,rfl,a,b,c⟩:=h;exact ⟨d1,d2,d3,x,y,rfl,a.keptS hg hq h1 h2 h3,b.keptS hg hq h4 h5,c.keptS hg hq h4 h5⟩
theorem OwFs.form {w:World} {base:Nat} {v:Value} {f:Fsd} (h:OwFs w base v f):∃x:FsV,v=x.val∧RdX w x f:=h.rd.form
theorem OwFs.stored {w w0:World} {base r:Nat} {x:FsV} {f:Fsd} (h:OwFs w base x.val f) (hr:FsB w r) (hb:Below w0.heap.size w0 w) (hr0:w0.heap.size≤r):
  OwFs (set6 w r x) base x.val f∧Below w0.heap.size w0 (set6 w r x)∧FsAt (set6 w r x) r x:=by
 obtain ⟨h1,h2⟩:=hr.put x;obtain ⟨y0,y1,y2,y3,y4,y5,hq⟩:=hr;exact ⟨h.keptS h2 hq (by decide) (by decide) (by decide) (by decide) (by decide),hb.grown h2 hb.size (by intro k hk;cases hk;exact hr0),h1⟩
theorem qli {f:Fsd} (h:fsE f=0):qe7 f.2.2.1∧qe7 f.2.2.2:=by
 have h1:=qma h;refine ⟨qmo h1.2.2.2.2.2, ?_⟩;rw [←h1.2.2.2.2.1];exact qmo (qqx h1.2.2.2.1).1
theorem qin {s:Stp} {y:Wy} (h:(qai s y).2.1=0):y.2.1=0∧(s y).2=0:=by
 unfold qai at h
 split at h
 ·rename_i h0;exact ⟨h0,h⟩
 ·rename_i h0;exact absurd h h0
theorem qahz (x:FsV) (f:Fsd) (w:World) (h:RdX w x f) (hw:WfX f):
  Calls Tryz.prog 33 #[x.val] w fun e w'=>∃v,e=.returned (.tuple #[v,.int .i64 (qbl f).2])∧OwFs w' w.heap.size v (qbl f).1∧Below w.heap.size w w':=by
 obtain ⟨w1,ew⟩:∃w1,(w.alloc (.cells x.cs 33)).alloc (.cells #[.slice none 0 0,.slice none 0 0,.slice none 0 0,.int .u32 0,.slice none 0 0,.slice none 0 0] 33)=w1:=⟨_,rfl⟩;have HX:=hide h;have HW:=hide hw;clear h hw;have q0:Below w.heap.size w (w.alloc (.cells x.cs 33)):=(Below.refl _ _).alloc (Nat.le_refl _) _;have F0:FsAt (w.alloc (.cells x.cs 33)) w.heap.size x:=Bq.new _ _ _
 have q9:Below ((w.alloc (.cells x.cs 33))).heap.size (w.alloc (.cells x.cs 33)) w1:=by rw [←ew];exact (Below.refl _ _).alloc (Nat.le_refl _) _
 have qen:=hide (show FsB w1 (w.heap.size+1) by have:=FsB.new (w.alloc (.cells x.cs 33));rw [←ew];simpa using this);have b0:=q0;have b9:=b0.trans (q9.mono b0.size);have qad:=hide b9;have qbt:=hide ((F0).carry q9);have HSZ:=hide (show w1.heap.size=w.heap.size+2 by rw [←ew];simp);clear F0 q0 q9 b9 b0;unfold FsV.val;unfold FsV.cs at ew;obtain ⟨k0,k1,k2,k3,k4,k5⟩:=qab qbt.out
 go_enter Tryz.func33,Tryz.ntmps33
 go_wp2_with fail
 try rw [ew]
 refine (qjs x f w1 (HX.out.carry qad.out) HW.out).mono ?_
 rintro e w2 ⟨p,rfl,hp,hs2,hb2⟩
 have hpp:w.heap.size+2≤p:=by have:=HSZ.out;omega
 have qco:=hide (qen.out.carry hb2);have qah:=bT qad hb2;have qhf:=hide (show WayS w2 p w.heap.size false (qas f) by obtain ⟨y1,y2,y3,y4,y5,y6,y7,y8⟩:=hs2;exact ⟨y1,y2,y3,y4,y5,y6,y7,fun w' hg=>⟨(y8 w' hg).1,(y8 w' hg).2.1,fun h=>by cases h⟩⟩);clear hs2 hb2 hp ew k0 k1 k2 k3 k4 k5
 have hcf:∀wx:World,(callFunc 78 #[.pointer (some ⟨p,0,none⟩)]).run Tryz.prog wx=.ok (.enter 78 #[.pointer (some ⟨p,0,none⟩)]) wx:=fun wx=>by go_simp
 have ht:=qh0 78 qck p w.heap.size false true (qas f) w2 qhf.out rfl hcf (fun h0=>(qlh p w.heap.size false (qas f) w2 qhf.out (by omega)).mono fun e w' h=>⟨h.1,fun _=>h.2.1,h.2.1.any,h.2.2⟩);clear hcf
 go_wp2_with fail
 refine ht.mono ?_
 rintro e w3 ⟨rfl,hs3,hg3⟩;have qc8:=hide (qco.out.grown hg3 (by omega));have qam:=hide (show Below w.heap.size w w3 from qah.out.grown hg3 qah.out.size (by intro k hk;cases hk;omega));have hen:=qkk p w.heap.size _ w3 hs3 qam.out.size (fun h0=>by have:=qin h0;have h1:=qli this.1;unfold qai;rw [if_pos this.1];exact h1);rw [show endW (qai qck (qas f))=qbl f from rfl] at hen;clear ht hs3 hg3 qhf qah qco
 go_wp2_with fail
 refine hen.mono ?_
 rintro e w4 ⟨v9,rfl,ho9,hb9⟩;have qe8:=hide (qc8.out.carry hb9);have qbo:=bT qam hb9;clear hen hb9;obtain ⟨x9,e9, -⟩:=ho9.form;subst e9;have HST:=hide (ho9.stored (r:=w.heap.size+1) qe8.out qbo.out (by omega));obtain ⟨⟨d0,e0⟩,⟨d1,e1⟩,⟨d2,e2⟩,⟨d3,e3⟩,⟨d4,e4⟩,⟨d5,e5⟩,ff⟩:=qe8.out.cells;have f0:=ff 0;have f1:=ff 1;have f2:=ff 2;have f3:=ff 3;have f4:=ff 4;have f5:=ff 5;clear ff ho9;unfold FsV.val;go_wp2;obtain ⟨w9,hw9⟩:∃w9,w9=set6 w4 (w.heap.size+1) x9:=⟨_,rfl⟩;rw [←hw9] at HST;unfold set6 at hw9;rw [←hw9];clear e0 e1 e2 e3 e4 e5 f0 f1 f2 f3 f4 f5 hw9;obtain ⟨z0,z1,z2,z3,z4,z5⟩:=qab HST.out.2.2
 try simp only [Exit.inBlock,Exit.then]
 refine bodyPost_ret (v:=.tuple #[x9.val,.int .i64 (qbl f).2]) ?_ rfl ⟨_,rfl,HST.out.1,HST.out.2.1⟩
 simp [results,Tryz.results33,go_sem, *]
theorem qad2 (x:FsV) (f:Fsd) (w:World) (h:RdX w x f) (hw:WfX f):
  Calls Tryz.prog 22 #[x.val] w fun e w'=>∃v,e=.returned (.tuple #[v,.int .i64 (qf3 f).2])∧OwFs w' w.heap.size v (qf3 f).1∧Below w.heap.size w w':=by
 obtain ⟨w1,ew⟩:∃w1,(w.alloc (.cells x.cs 33)).alloc (.cells #[.slice none 0 0,.slice none 0 0,.slice none 0 0,.int .u32 0,.slice none 0 0,.slice none 0 0] 33)=w1:=⟨_,rfl⟩;have HX:=hide h;have HW:=hide hw;clear h hw;have q0:Below w.heap.size w (w.alloc (.cells x.cs 33)):=(Below.refl _ _).alloc (Nat.le_refl _) _;have F0:FsAt (w.alloc (.cells x.cs 33)) w.heap.size x:=Bq.new _ _ _
 have q9:Below ((w.alloc (.cells x.cs 33))).heap.size (w.alloc (.cells x.cs 33)) w1:=by rw [←ew];exact (Below.refl _ _).alloc (Nat.le_refl _) _
 have qen:=hide (show FsB w1 (w.heap.size+1) by have:=FsB.new (w.alloc (.cells x.cs 33));rw [←ew];simpa using this);have b0:=q0;have b9:=b0.trans (q9.mono b0.size);have qad:=hide b9;have qbt:=hide ((F0).carry q9);have HSZ:=hide (show w1.heap.size=w.heap.size+2 by rw [←ew];simp);clear F0 q0 q9 b9 b0;unfold FsV.val;unfold FsV.cs at ew;obtain ⟨k0,k1,k2,k3,k4,k5⟩:=qab qbt.out
 go_enter Tryz.func22,Tryz.ntmps22
 go_wp2_with fail
 try rw [ew]
 refine (qjs x f w1 (HX.out.carry qad.out) HW.out).mono ?_
 rintro e w2 ⟨p,rfl,hp,hs2,hb2⟩
 have hpp:w.heap.size+2≤p:=by have:=HSZ.out;omega
 have qco:=hide (qen.out.carry hb2);have qah:=bT qad hb2;have qhf:=hide (show WayS w2 p w.heap.size false (qas f) by obtain ⟨y1,y2,y3,y4,y5,y6,y7,y8⟩:=hs2;exact ⟨y1,y2,y3,y4,y5,y6,y7,fun w' hg=>⟨(y8 w' hg).1,(y8 w' hg).2.1,fun h=>by cases h⟩⟩);clear hs2 hb2 hp ew k0 k1 k2 k3 k4 k5
 have hcf:∀wx:World,(callFunc 37 #[.pointer (some ⟨p,0,none⟩)]).run Tryz.prog wx=.ok (.enter 37 #[.pointer (some ⟨p,0,none⟩)]) wx:=fun wx=>by go_simp
 have ht:=qh0 37 qfu p w.heap.size false true (qas f) w2 qhf.out rfl hcf (fun h0=>(qrf p w.heap.size false (qas f) w2 qhf.out (by omega)).mono fun e w' h=>⟨h.1,fun _=>h.2.1,h.2.1.any,h.2.2⟩);clear hcf
 go_wp2_with fail
 refine ht.mono ?_
 rintro e w3 ⟨rfl,hs3,hg3⟩;have qc8:=hide (qco.out.grown hg3 (by omega));have qam:=hide (show Below w.heap.size w w3 from qah.out.grown hg3 qah.out.size (by intro k hk;cases hk;omega));have hen:=qkk p w.heap.size _ w3 hs3 qam.out.size (fun h0=>by have:=qin h0;have h1:=qli this.1;unfold qai;rw [if_pos this.1];exact h1);rw [show endW (qai qfu (qas f))=qf3 f from rfl] at hen;clear ht hs3 hg3 qhf qah qco
 go_wp2_with fail
 refine hen.mono ?_
 rintro e w4 ⟨v9,rfl,ho9,hb9⟩;have qe8:=hide (qc8.out.carry hb9);have qbo:=bT qam hb9;clear hen hb9;obtain ⟨x9,e9, -⟩:=ho9.form;subst e9;have HST:=hide (ho9.stored (r:=w.heap.size+1) qe8.out qbo.out (by omega));obtain ⟨⟨d0,e0⟩,⟨d1,e1⟩,⟨d2,e2⟩,⟨d3,e3⟩,⟨d4,e4⟩,⟨d5,e5⟩,ff⟩:=qe8.out.cells;have f0:=ff 0;have f1:=ff 1;have f2:=ff 2;have f3:=ff 3;have f4:=ff 4;have f5:=ff 5;clear ff ho9;unfold FsV.val;go_wp2;obtain ⟨w9,hw9⟩:∃w9,w9=set6 w4 (w.heap.size+1) x9:=⟨_,rfl⟩;rw [←hw9] at HST;unfold set6 at hw9;rw [←hw9];clear e0 e1 e2 e3 e4 e5 f0 f1 f2 f3 f4 f5 hw9;obtain ⟨z0,z1,z2,z3,z4,z5⟩:=qab HST.out.2.2
 try simp only [Exit.inBlock,Exit.then]
 refine bodyPost_ret (v:=.tuple #[x9.val,.int .i64 (qf3 f).2]) ?_ rfl ⟨_,rfl,HST.out.1,HST.out.2.1⟩
 simp [results,Tryz.results22,go_sem, *]
theorem do1 {d:Dk} {a:Ac} (h:okD d=true) (ha:actE (mny d) a=0):doD d [a] 1=match oneD d a with | none=>(dz,9) | some x=>(x,0):=by
 unfold doD;rw [if_neg (by rw [qsw h];decide),if_neg (by simp [qfn,ha]),if_neg (by simp)];rw [show Int.toNat 1=1 from rfl]
 simp only [List.take_succ_cons,List.take_zero,qa7]
 cases oneD d a<;>rfl
def qet:Int→List (List UInt8)→List Ac
 | _,[]=>[]
 | n,b::l=>(false,n,b)::qet (n+1) l
def qf5 (g:Nat) (l:List UInt8):List Ac:=(true,0,[])::(qet ((2+g % 2*16:Nat):Int) (qbh l)++[(true,0,[]),(false,((g % 2:Nat):Int),(qau g (l.length:Nat)).1),(true,0,[])])
theorem qb5:∀(a b:List Ac) (d:Dk),qa7 d (a++b)=(qa7 d a).bind fun x=>qa7 x b
 | [],b,d=>rfl
 | x::a,b,d=>by
  show (match oneD d x with | none=>none | some y=>qa7 y (a++b))=(match oneD d x with | none=>none | some y=>qa7 y a).bind _
  cases oneD d x with
  | none=>rfl
  | some y=>exact qb5 a b y
theorem qeh (d:Dk) (a:Ac):qa7 d [a]=oneD d a:=by
 show (match oneD d a with | none=>none | some y=>qa7 y [])=_
 cases oneD d a<;>rfl
def RnW (y:Wy) (o:Option Dk) (g:Nat) (D K:List Fl) (l:List UInt8):Prop:=match o with | some x=>y=((x,g,D,K),0,l) | none=>y.2.1=9
theorem qcl {s:Stp} {y:Wy} (h:y.2.1≠0):qai s y=y:=by unfold qai;rw [if_neg h]
theorem RnW.act {y:Wy} {o:Option Dk} {g:Nat} {D K:List Fl} {l:List UInt8} (s:Stp) (a:Ac) (h:RnW y o g D K l) (hok:∀x,o=some x→okD x=true∧actE (mny x) a=0)
  (hs:∀x,s ((x,g,D,K),0,l)=(ql9 ((x,g,D,K),0,l) (doD x [a] 1).1,(doD x [a] 1).2)):RnW (qai s y) (o.bind fun x=>oneD x a) g D K l:=by
 cases o with
 | none=>
  have h:y.2.1=9:=h;rw [qcl (by rw [h];decide)];exact h
 | some x=>
  have h:y=((x,g,D,K),0,l):=h;subst h;obtain ⟨h1,h2⟩:=hok x rfl
  have e:qai s ((x,g,D,K),0,l)=(((doD x [a] 1).1,g,D,K),(doD x [a] 1).2,l):=by
   unfold qai;rw [if_pos rfl,hs];rfl
  rw [e,do1 h1 h2]
  show RnW _ (oneD x a) g D K l
  cases oneD x a<;>rfl
theorem qms {d d':Dk} {l:List Ac} (h:okD d=true) (ha:∀a∈l,actE (mny d) a=0) (he:qa7 d l=some d'):okD d'=true∧mny d'=mny d:=by
 obtain ⟨a,b,_⟩:=qoz l d d' h ha he;exact ⟨a,b⟩
theorem qrh (g:Nat) (D K:List Fl) (e:Int) (l:List UInt8):∀(bl:List (List UInt8)) (n:Int) (x:Dk),okD x=true→(∀a∈qet n bl,actE (mny x) a=0)→
  match qa7 x (qet n bl) with | some x'=>qda n bl ((x,g,D,K),e,l)=(((x',g,D,K),e,l),0) | none=>(qda n bl ((x,g,D,K),e,l)).2=9
 | [],n,x,h,ha=>rfl
 | b::bl,n,x,h,ha=>by
  have h1:=ha (false,n,b) (List.mem_cons_self ..);have e1:qdw n b ((x,g,D,K),e,l)=(ql9 ((x,g,D,K),e,l) (doD x [(false,n,b)] 1).1,(doD x [(false,n,b)] 1).2):=rfl
  show (match (match oneD x (false,n,b) with | none=>none | some y=>qa7 y (qet (n+1) bl)) with | some x'=>qda n (b::bl) ((x,g,D,K),e,l)=(((x',g,D,K),e,l),0) | none=>(qda n (b::bl) ((x,g,D,K),e,l)).2=9)
  rw [qhz,e1,do1 h h1]
  cases ho:oneD x (false,n,b) with
  | none=>simp
  | some y=>
   obtain ⟨h2,h3,_⟩:=qdp h h1 ho;have ih:=qrh g D K e l bl (n+1) y h2 (fun a ha'=>by rw [h3];exact ha a (List.mem_cons_of_mem _ ha'))
   simp only [ne_eq,not_true_eq_false,if_false]
   exact ih
theorem RnW.writes {y:Wy} {o:Option Dk} {g:Nat} {D K:List Fl} {l:List UInt8} (h:RnW y o g D K l) (hok:∀x,o=some x→okD x=true∧∀a∈qet ((2+g % 2*16:Nat):Int) (qbh l),actE (mny x) a=0):RnW (qai qhv y) (o.bind fun x=>qa7 x (qet ((2+g % 2*16:Nat):Int) (qbh l))) g D K l:=by
 cases o with
 | none=>
  have h:y.2.1=9:=h;rw [qcl (by rw [h];decide)];exact h
 | some x=>
  have h:y=((x,g,D,K),0,l):=h;subst h;obtain ⟨h1,h2⟩:=hok x rfl;have hw:=qrh g D K 0 l (qbh l) ((2+g % 2*16:Nat):Int) x h1 h2;have e:qhv ((x,g,D,K),0,l)=qda ((2+g % 2*16:Nat):Int) (qbh l) ((x,g,D,K),0,l):=rfl
  show RnW _ (qa7 x (qet ((2+g % 2*16:Nat):Int) (qbh l))) g D K l
  unfold qai;rw [if_pos rfl,e]
  cases ho:qa7 x (qet ((2+g % 2*16:Nat):Int) (qbh l)) with
  | none=>rw [ho] at hw;exact hw
  | some x'=>
   rw [ho] at hw
   show _=_
   rw [hw]
theorem qus (k:Nat):∀(bl:List (List UInt8)) (n:Int),0≤n→n+bl.length≤k→(∀b∈bl,b.length=128)→∀a∈qet n bl,actE k a=0
 | [],n,_,_,_,a,ha=>by cases ha
 | b::bl,n,h1,h2,h3,a,ha=>by
  rcases List.mem_cons.1 ha with rfl | ha
  ·have h4:=h3 b (List.mem_cons_self ..)
   simp only [List.length_cons] at h2
   unfold actE putE
   simp only [Bool.false_eq_true,if_false]
   rw [if_neg (by omega),if_neg (by omega)]
  ·exact qus k bl (n+1) (by omega) (by simp only [List.length_cons] at h2;omega) (fun b hb=>h3 b (List.mem_cons_of_mem _ hb)) a ha
theorem qws (l:List UInt8):∀b∈qbh l,b.length=128:=by
 intro b hb;obtain ⟨k,_,rfl⟩:=List.mem_map.1 hb;exact qadv _
theorem qby (k:Nat):actE k (true,0,[])=0:=by simp [actE]
theorem qjt {k g:Nat} {n:Nat} (hk:34<k) (hg:g≠0) (hn:n≤2048):actE k (false,((g % 2:Nat):Int),(qau g (n:Nat)).1)=0:=by
 have h1:(qau g (n:Nat)).2=0:=by rw [qjf hg (by omega) (by omega)]
 have h2:=qnr h1;unfold actE putE
 simp only [Bool.false_eq_true,if_false]
 rw [if_neg (by omega),if_neg (by omega)]
theorem qlj {k g:Nat} {l:List UInt8} (hk:34<k) (hl:l.length≤2048):∀a∈qet ((2+g % 2*16:Nat):Int) (qbh l),actE k a=0:=
 qus k _ _ (by omega) (by rw [qcv];omega) (qws l)
theorem qad3 {k g:Nat} {l:List UInt8} (hk:34<k) (hg:g≠0) (hl:l.length≤2048):∀a∈qf5 g l,actE k a=0:=by
 intro a ha
 rcases List.mem_cons.1 ha with rfl | ha
 ·exact qby k
 ·rcases List.mem_append.1 ha with ha | ha
  ·exact qlj hk hl a ha
  ·simp only [List.mem_cons,List.not_mem_nil,or_false] at ha
   rcases ha with rfl | rfl | rfl
   ·exact qby k
   ·exact qjt hk hg hl
   ·exact qby k
theorem qky {d:Dk} {g:Nat} {D K:List Fl} {l0:List UInt8} (hok:okD d=true) (hm:34<mny d) (hg:g≠4294967295) (hc:chkF D (mny d)=0):
  RnW (qb1 ((d,g,D,K),0,l0)) (qa7 d (qf5 (g+1) (bytF D))) (g+1) D D (bytF D):=by
 have hl:(bytF D).length≤2048:=(qb4 hc).2.2.2.2;have hmn:qa9 (d,g,D,K)=(mny d:Int):=qij (f:=(d,g,D,K)) hok
 have e0:RnW (qai qbz ((d,g,D,K),0,l0)) (some d) (g+1) D K (bytF D):=by
  show _=_
  unfold qai;rw [if_pos rfl]
  have:qbz ((d,g,D,K),0,l0)=(((d,g+1,D,K),0,bytF D),0):=by
   unfold qbz;rw [if_neg hg]
   show (((d,g+1,D,K),(0:Int),qe4 D (qa9 (d,g,D,K))),chkF D (qa9 (d,g,D,K)))=_
   rw [hmn,hc];unfold qe4;rw [if_pos hc]
  rw [this]
 have hs:∀x,qck ((x,g+1,D,K),0,bytF D)=(ql9 ((x,g+1,D,K),0,bytF D) (doD x [(true,0,[])] 1).1,(doD x [(true,0,[])] 1).2):=fun x=>rfl
 have e1:=e0.act qck (true,0,[]) (fun x hx=>by cases hx;exact ⟨hok,qby _⟩) hs
 have o1:∀x,(some d).bind (fun x=>oneD x (true,0,[]))=some x→okD x=true∧mny x=mny d:=fun x hx=>by
  obtain ⟨a,b,_⟩:=qdp hok (qby _) hx;exact ⟨a,b⟩
 have e2:=e1.writes (fun x hx=>⟨(o1 x hx).1,by rw [(o1 x hx).2];exact qlj hm hl⟩)
 have o2:∀x,(((some d).bind fun x=>oneD x (true,0,[])).bind fun x=>qa7 x (qet ((2+(g+1) % 2*16:Nat):Int) (qbh (bytF D))))=some x→okD x=true∧mny x=mny d:=fun x hx=>by
  obtain ⟨z,h1,h2⟩:=Option.bind_eq_some_iff.1 hx;obtain ⟨a,b⟩:=o1 z h1;obtain ⟨a',b'⟩:=qms a (by rw [b];exact qlj hm hl) h2;exact ⟨a',b'.trans b⟩
 have e3:=e2.act qck (true,0,[]) (fun x hx=>⟨(o2 x hx).1,qby _⟩) hs
 have o3:∀x,((((some d).bind fun x=>oneD x (true,0,[])).bind fun x=>qa7 x (qet ((2+(g+1) % 2*16:Nat):Int) (qbh (bytF D)))).bind fun x=>oneD x (true,0,[]))=some x→okD x=true∧mny x=mny d:=fun x hx=>by
  obtain ⟨z,h1,h2⟩:=Option.bind_eq_some_iff.1 hx;obtain ⟨a,b⟩:=o2 z h1;obtain ⟨a',b',_⟩:=qdp a (qby _) h2;exact ⟨a',b'.trans b⟩
 have e4:=e3.act qjm (false,(((g+1) % 2:Nat):Int),(qau (g+1) ((bytF D).length:Nat)).1) (fun x hx=>⟨(o3 x hx).1,qjt (by rw [(o3 x hx).2];exact hm) (by omega) hl⟩) (fun x=>by
  unfold qjm
  have h1:(qau (g+1) ((bytF D).length:Nat)).2=0:=by rw [qjf (by omega) (by omega) (by omega)]
  show (if (qau (g+1) ((bytF D).length:Nat)).2≠0 then _ else _)=_
  rw [if_neg (by rw [h1];decide)]
  rfl)
 have o4:∀x,(((((some d).bind fun x=>oneD x (true,0,[])).bind fun x=>qa7 x (qet ((2+(g+1) % 2*16:Nat):Int) (qbh (bytF D)))).bind fun x=>oneD x (true,0,[])).bind fun x=>oneD x (false,(((g+1) % 2:Nat):Int),(qau (g+1) ((bytF D).length:Nat)).1))=some x→okD x=true∧mny x=mny d:=fun x hx=>by
  obtain ⟨z,h1,h2⟩:=Option.bind_eq_some_iff.1 hx;obtain ⟨a,b⟩:=o3 z h1;obtain ⟨a',b',_⟩:=qdp a (qjt (by rw [b];exact hm) (by omega) hl) h2;exact ⟨a',b'.trans b⟩
 have e5:=e4.act qck (true,0,[]) (fun x hx=>⟨(o4 x hx).1,qby _⟩) hs
 have ea:qa7 d (qf5 (g+1) (bytF D))=((((((some d).bind fun x=>oneD x (true,0,[])).bind fun x=>qa7 x (qet ((2+(g+1) % 2*16:Nat):Int) (qbh (bytF D)))).bind fun x=>oneD x (true,0,[])).bind fun x=>oneD x (false,(((g+1) % 2:Nat):Int),(qau (g+1) ((bytF D).length:Nat)).1)).bind fun x=>oneD x (true,0,[])):=by
  have:qf5 (g+1) (bytF D)=[(true,0,[])]++(qet ((2+(g+1) % 2*16:Nat):Int) (qbh (bytF D))++([(true,0,[])]++([(false,(((g+1) % 2:Nat):Int),(qau (g+1) ((bytF D).length:Nat)).1)]++[(true,0,[])]))):=rfl
  rw [this]
  simp only [qb5,qeh,Option.bind_assoc]
  simp only [Option.bind_some,Option.bind_assoc]
 rw [←ea] at e5
 show RnW (qai keepW _) _ _ _ _ _
 unfold RnW at e5 ⊢
 cases ho:qa7 d (qf5 (g+1) (bytF D)) with
 | none=>rw [ho] at e5;simp only at e5 ⊢;rw [qcl (by rw [e5];decide)];exact e5
 | some x=>rw [ho] at e5;simp only at e5 ⊢;rw [e5];rfl
def qad4 (f:Fsd):Fsd × Int:=if fsE f≠0 then (fz,fsE f) else if f.2.1=4294967295 then (fz,9) else match qa7 f.1 (qf5 (f.2.1+1) (bytF f.2.2.1)) with | none=>(fz,9) | some x=>((x,f.2.1+1,f.2.2.1,f.2.2.1),0)
theorem qju (f:Fsd):(fsE f≠0∧(qb1 (qas f)).2.1=fsE f)∨(fsE f=0∧f.2.1=4294967295∧(qb1 (qas f)).2.1=9)∨(fsE f=0∧f.2.1≠4294967295∧RnW (qb1 (qas f)) (qa7 f.1 (qf5 (f.2.1+1) (bytF f.2.2.1))) (f.2.1+1) f.2.2.1 f.2.2.1 (bytF f.2.2.1)):=by
 rcases qeg f with ⟨h,h0⟩ | ⟨h,h0⟩
 ·obtain ⟨h1,h2,h3,h4⟩:=qap h
  by_cases hg:f.2.1=4294967295
  ·refine .inr (.inl ⟨h0,hg, ?_⟩)
   have e:qai qbz (qas f)=(f,9,[]):=by
    unfold qai;rw [if_pos (show (qas f).2.1=0 from h0)]
    have:qbz (qas f)=(qas f,9):=by unfold qbz;rw [if_pos (show (qas f).1.2.1=4294967295 from hg)]
    rw [this];rfl
   have t:∀s,qai s (f,9,[])=(f,9,[]):=fun s=>qcl (by simp)
   unfold qb1;rw [e,t,t,t,t,t,t]
  ·refine .inr (.inr ⟨h0,hg, ?_⟩)
   have e:qas f=((f.1,f.2.1,f.2.2.1,f.2.2.2),0,[]):=by unfold qas;rw [h0]
   rw [e];exact qky h1 h2 hg h.2.2.2.2.2
 ·refine .inl ⟨by rw [h0];decide, ?_⟩
  have e:(qas f).2.1≠0:=by show fsE f≠0;rw [h0];decide
  unfold qb1;rw [qcl e,qcl e,qcl e,qcl e,qcl e,qcl e,qcl e];rfl
theorem qri (f:Fsd):qct f=qad4 f:=by
 unfold qct qad4
 rcases qju f with ⟨h0,h1⟩ | ⟨h0,hg,h1⟩ | ⟨h0,hg,h1⟩
 ·have e1:endW (qb1 (qas f))=(fz,fsE f):=by unfold endW;rw [if_pos (by rw [h1];exact h0),h1]
  rw [e1,if_pos h0]
 ·have e1:endW (qb1 (qas f))=(fz,9):=by unfold endW;rw [if_pos (by rw [h1];decide),h1]
  rw [e1,if_neg (by rw [h0];decide),if_pos hg]
 ·rw [if_neg (c:=fsE f≠0) (by rw [h0];decide),if_neg hg]
  unfold RnW at h1
  cases ho:qa7 f.1 (qf5 (f.2.1+1) (bytF f.2.2.1)) with
  | none=>rw [ho] at h1;simp only at h1 ⊢;unfold endW;rw [if_pos (by rw [h1];decide),h1]
  | some x=>rw [ho] at h1;simp only at h1 ⊢;rw [h1];rfl
theorem qrj:qe7 []:=⟨by simp,by simp⟩
theorem qrk (f:Fsd) (h:(qb1 (qas f)).2.1=0):qe7 (qb1 (qas f)).1.2.2.1∧qe7 (qb1 (qas f)).1.2.2.2:=by
 rcases qju f with ⟨h0,h1⟩ | ⟨h0,hg,h1⟩ | ⟨h0,hg,h1⟩
 ·rw [h1] at h;exact absurd h h0
 ·rw [h1] at h;cases h
 ·have hs:qe7 f.2.2.1:=qmo (qma h0).2.2.2.2.2
  unfold RnW at h1
  cases ho:qa7 f.1 (qf5 (f.2.1+1) (bytF f.2.2.1)) with
  | none=>rw [ho] at h1;simp only at h1;rw [h1] at h;cases h
  | some x=>rw [ho] at h1;simp only at h1;rw [h1];exact ⟨hs,hs⟩
end Go.Proofs.YtnmbbpdhjkaidaaGreat

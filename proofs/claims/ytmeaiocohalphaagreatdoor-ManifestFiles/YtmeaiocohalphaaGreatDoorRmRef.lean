/-
  What the document's own Check, Blocks, Free and Take do.
-/
import Derived.Test.YtmeaiocohalphaaGreatDoorL2d
import Derived.Test.YtmeaiocohalphaaGreatDoorSLat
import Derived.Test.YtmeaiocohalphaaGreatDoorRead
import Derived.Test.YtmeaiocohalphaaGreatDoorFiCut5
import Derived.Test.YtmeaiocohalphaaGreatDoorFiRef1
set_option maxHeartbeats 1000000
set_option maxRecDepth 100000
namespace Go.Proofs.YtmeaiocohalphaaGreatDoor
open Go.RowKit
set_option linter.all false
structure FsV where
 a1:Option Addr
 n1:Nat
 c1:Nat
 a2:Option Addr
 n2:Nat
 c2:Nat
 a3:Option Addr
 n3:Nat
 c3:Nat
 g:Nat
 a4:Option Addr
 n4:Nat
 c4:Nat
 a5:Option Addr
 n5:Nat
 c5:Nat
abbrev FsV.dv (x:FsV):Value:=.agg #[.slice x.a1 x.n1 x.c1,.slice x.a2 x.n2 x.c2,.slice x.a3 x.n3 x.c3]
abbrev FsV.val (x:FsV):Value:=.agg #[.slice x.a1 x.n1 x.c1,.slice x.a2 x.n2 x.c2,.slice x.a3 x.n3 x.c3,.int .u32 x.g,.slice x.a4 x.n4 x.c4,.slice x.a5 x.n5 x.c5]
abbrev FsV.cs (x:FsV):Array Value:=#[.slice x.a1 x.n1 x.c1,.slice x.a2 x.n2 x.c2,.slice x.a3 x.n3 x.c3,.int .u32 x.g,.slice x.a4 x.n4 x.c4,.slice x.a5 x.n5 x.c5]
structure RdX (w:World) (x:FsV) (f:Fsd):Prop where
 d:RdD w x.dv f.1
 n1:x.n1=f.1.1.length
 n2:x.n2=f.1.2.1.length
 g:x.g=f.2.1
 fl:RdF w (.slice x.a4 x.n4 x.c4) f.2.2.1
 n4:x.n4=f.2.2.1.length
 kl:RdF w (.slice x.a5 x.n5 x.c5) f.2.2.2
 n5:x.n5=f.2.2.2.length
theorem RdX.carry {w w':World} {x:FsV} {f:Fsd} (h:RdX w x f) (hb:Below w.heap.size w w'):RdX w' x f:=⟨h.d.carry hb,h.n1,h.n2,h.g,h.fl.carry hb,h.n4,h.kl.carry hb,h.n5⟩
structure WfX (f:Fsd):Prop where
 g:f.2.1<4294967296
 fl:wfFs f.2.2.1
 kl:wfFs f.2.2.2
theorem RdD.mk3 {w:World} {x1:Option Addr} {m1 d1:Nat} {x2:Option Addr} {m2 d2:Nat} {x3:Option Addr} {m3 d3:Nat} {d:Dk} (h:RdD w (.agg #[.slice x1 m1 d1,.slice x2 m2 d2,.slice x3 m3 d3]) d):m1=d.1.length∧m2=d.2.1.length:=by
 obtain ⟨a1,c1,a2,c2,a3,c3,e,_⟩:=h.form
 injection e with e
 have e1:=congrArg (fun (z:Array Value)=>z[0]!) e;have e2:=congrArg (fun (z:Array Value)=>z[1]!) e
 simp at e1 e2
 exact ⟨e1.2.1,e2.2.1⟩
def RdFs (w:World) (v:Value) (f:Fsd):Prop:=∃d1 d2 d3 x y,v=.agg #[d1,d2,d3,.int .u32 f.2.1,x,y]∧RdD w (.agg #[d1,d2,d3]) f.1∧RdF w x f.2.2.1∧RdF w y f.2.2.2
theorem RdFs.form {w:World} {v:Value} {f:Fsd} (h:RdFs w v f):∃x:FsV,v=x.val∧RdX w x f:=by
 obtain ⟨d1,d2,d3,y,z,rfl,h1,h2,h3⟩:=h;obtain ⟨a1,c1,a2,c2,a3,c3,e,_⟩:=h1.form;have e1:d1=_:=congrArg (fun v:Value=>match v with | .agg z=>z[0]! | _=>undef) e;have e2:d2=_:=congrArg (fun v:Value=>match v with | .agg z=>z[1]! | _=>undef) e;have e3:d3=_:=congrArg (fun v:Value=>match v with | .agg z=>z[2]! | _=>undef) e
 simp at e1 e2 e3
 subst e1 e2 e3;obtain ⟨a4,c4,rfl⟩:=h2.form;obtain ⟨a5,c5,rfl⟩:=h3.form;exact ⟨⟨a1,_,c1,a2,_,c2,a3,_,c3,f.2.1,a4,_,c4,a5,_,c5⟩,rfl,h1,rfl,rfl,rfl,h2,rfl,h3,rfl⟩
def OwFs (w:World) (base:Nat) (v:Value) (f:Fsd):Prop:=∃d1 d2 d3 x y,v=.agg #[d1,d2,d3,.int .u32 f.2.1,x,y]∧OwD w base (.agg #[d1,d2,d3]) f.1∧OwF w base x f.2.2.1∧OwF w base y f.2.2.2
theorem OwFs.rd {w:World} {base:Nat} {v:Value} {f:Fsd} (h:OwFs w base v f):RdFs w v f:=by
 obtain ⟨d1,d2,d3,x,y,rfl,h1,h2,h3⟩:=h;exact ⟨d1,d2,d3,x,y,rfl,h1.rd,h2.rd,h3.rd⟩
theorem OwFs.carry {w w':World} {base:Nat} {v:Value} {f:Fsd} (h:OwFs w base v f) (hb:Below w.heap.size w w'):OwFs w' base v f:=by
 obtain ⟨d1,d2,d3,x,y,rfl,h1,h2,h3⟩:=h;exact ⟨d1,d2,d3,x,y,rfl,h1.carry hb,h2.carry hb,h3.carry hb⟩
theorem OwFs.mono {w:World} {base base':Nat} {v:Value} {f:Fsd} (h:OwFs w base v f) (hb:base'≤base):OwFs w base' v f:=by
 obtain ⟨d1,d2,d3,x,y,rfl,h1,h2,h3⟩:=h;exact ⟨d1,d2,d3,x,y,rfl,h1.mono hb,h2.mono hb,h3.mono hb⟩
/-! ### variables -/
def Bq (w:World) (p:Nat) (t:TypeId) (cs:Array Value):Prop:=w.heap[p]? =some (.cells cs t (0,0))
theorem Bq.lt {w:World} {p:Nat} {t:TypeId} {cs:Array Value} (h:Bq w p t cs):p<w.heap.size:=(Array.getElem?_eq_some_iff.1 h).1
theorem Bq.carry {w w':World} {p:Nat} {t:TypeId} {cs:Array Value} (h:Bq w p t cs) (hb:Below w.heap.size w w'):Bq w' p t cs:=(hb.block _ h.lt).trans h
theorem Bq.below {w w':World} {p B:Nat} {t:TypeId} {cs:Array Value} (h:Bq w p t cs) (hp:p<B) (hb:Below B w w'):Bq w' p t cs:=(hb.block _ hp).trans h
theorem Bq.grown {w w':World} {p q:Nat} {t:TypeId} {cs:Array Value} (h:Bq w p t cs) (hb:w.grownBy w' (some q)) (hne:p≠q):Bq w' p t cs:=(hb.block _ h.lt (by intro e;cases e;exact hne rfl)).trans h
theorem Bq.cell {w:World} {p:Nat} {t:TypeId} {cs:Array Value} (h:Bq w p t cs) (j:Nat):w.cell? ⟨p,j,none⟩=cs[j]?:=cell_of_row w p j cs t (0,0) h
theorem Bq.fz {w:World} {p:Nat} {t:TypeId} {cs:Array Value} (h:Bq w p t cs) (j:Nat):w.frozen? ⟨p,j,none⟩=false:=frozen_of_row w p j _ _ h
theorem Bq.new (w:World) (t:TypeId) (cs:Array Value):Bq (w.alloc (.cells cs t)) w.heap.size t cs:=heap_alloc_new w _
theorem Bq.put {w:World} {p:Nat} {t:TypeId} {cs:Array Value} (h:Bq w p t cs) (j:Nat) (v:Value):Bq (w.setCell ⟨p,j,none⟩ v) p t (cs.setIfInBounds j v):=heap_setCell_same w p j cs t v h
abbrev FsAt (w:World) (p:Nat) (x:FsV):Prop:=Bq w p 33 x.cs
theorem qab {w:World} {p:Nat} {x:FsV} (h:FsAt w p x):w.cell? ⟨p,0,none⟩=some (.slice x.a1 x.n1 x.c1)∧w.cell? ⟨p,1,none⟩=some (.slice x.a2 x.n2 x.c2)∧w.cell? ⟨p,2,none⟩=some (.slice x.a3 x.n3 x.c3)∧w.cell? ⟨p,3,none⟩=some (.int .u32 x.g)∧w.cell? ⟨p,4,none⟩=some (.slice x.a4 x.n4 x.c4)∧w.cell? ⟨p,5,none⟩=some (.slice x.a5 x.n5 x.c5):=
 ⟨h.cell 0,h.cell 1,h.cell 2,h.cell 3,h.cell 4,h.cell 5⟩
theorem quy (x:FsV) (f:Fsd) (w:World) (h:RdX w x f):
  Calls Tryz.prog 165 #[x.val] w fun e w'=>e=.returned (.int .i64 (qbg f))∧Below w.heap.size w w':=by
 obtain ⟨w1,ew⟩:∃w1,w.alloc (.cells x.cs 33)=w1:=⟨_,rfl⟩
 have hb1:Below w.heap.size w w1:=by rw [←ew];exact (Below.refl _ _).alloc (Nat.le_refl _) _
 have qbe:=hide (show FsAt w1 w.heap.size x by rw [←ew];exact Bq.new _ _ _);obtain ⟨k0,k1,k2,k3,k4,k5⟩:=qab qbe.out;have HX:=hide h;have qad:=hide hb1;clear h hb1;unfold FsV.val;unfold FsV.cs at ew
 go_enter Tryz.func165,Tryz.ntmps165
 go_wp2_with fail
 refine (qwk (d:=f.1) w1 (HX.out.d.carry qad.out)).mono ?_
 rintro e w2 ⟨rfl,hb2⟩;have qae:=bT qad hb2;clear k0 k1 k2 k3 k4 k5 ew hb2;go_wp2;go_ret;exact ⟨rfl,qae.out⟩
theorem qii (fs:List Fl):(qde fs).length≤4096:=by
 unfold qde
 by_cases h:chkF fs 4096=0
 ·rw [if_pos h]
  have h1:=(qcl h).2.2.2.1.1;exact (qif h1).1
 ·rw [if_neg h];simp
theorem qxa (fs:List Fl):∀x∈qde fs,wfX x:=by
 unfold qde
 by_cases h:chkF fs 4096=0
 ·rw [if_pos h]
  intro x hx;have h1:=(qcl h).2.2.2.1.1
  have:=(qif h1).2 x hx
  unfold wfX;omega
 ·rw [if_neg h];simp
theorem qsk (f:Fsd):∀x∈qaq f,wfX x:=by
 intro x hx
 rcases List.mem_append.1 hx with h | h
 ·exact qxa _ x h
 ·exact qxa _ x h
theorem qako (x:FsV) (f:Fsd) (w:World) (h:RdX w x f) (hw:WfX f):
  Calls Tryz.prog 177 #[x.val] w fun e w'=>∃v,e=.returned v∧OwE w' w.heap.size v (qaq f)∧Below w.heap.size w w':=by
 obtain ⟨w1,ew⟩:∃w1,w.alloc (.cells x.cs 33)=w1:=⟨_,rfl⟩
 have hb1:Below w.heap.size w w1:=by rw [←ew];exact (Below.refl _ _).alloc (Nat.le_refl _) _
 have qbe:=hide (show FsAt w1 w.heap.size x by rw [←ew];exact Bq.new _ _ _);obtain ⟨k0,k1,k2,k3,k4,k5⟩:=qab qbe.out;have HX:=hide h;have qad:=hide hb1;clear h hb1;unfold FsV.val;unfold FsV.cs at ew
 go_enter Tryz.func177,Tryz.ntmps177
 go_wp2_with fail
 refine (qw4 _ _ _ f.2.2.1 w1 (HX.out.fl.carry qad.out) HX.out.n4 hw.fl).mono ?_
 rintro e w2 ⟨v2,rfl,ho2,hb2⟩;have qb9:=hide (qbe.out.carry hb2);have qae:=bT qad hb2;obtain ⟨m2,hm2⟩:∃m2,m2=(qde f.2.2.1).length:=⟨_,rfl⟩
 obtain ⟨y2,z2,e2⟩:∃a c,v2=.slice a m2 c:=by rw [hm2];exact ho2.form
 subst e2;have HO2:=hide (ho2.mono qad.out.size);have HM2:=hide hm2;clear k0 k1 k2 k3 k4 k5 ew hb2 ho2 hm2;obtain ⟨k0,k1,k2,k3,k4,k5⟩:=qab qb9.out
 go_wp2_with fail
 refine (qw4 _ _ _ f.2.2.2 w2 (HX.out.kl.carry qae.out) HX.out.n5 hw.kl).mono ?_
 rintro e w3 ⟨v3,rfl,ho3,hb3⟩;have qak:=bT qae hb3;obtain ⟨m3,hm3⟩:∃m3,m3=(qde f.2.2.2).length:=⟨_,rfl⟩
 obtain ⟨y3,z3,e3⟩:∃a c,v3=.slice a m3 c:=by rw [hm3];exact ho3.form
 subst e3;have HO3:=hide (ho3.mono qae.out.size);have HO2':=hide (HO2.out.carry hb3);have HM3:=hide hm3;clear k0 k1 k2 k3 k4 k5 hb3 ho3 hm3 HO2 hw;have hbx:Below w3.heap.size w3 (w3.alloc (.cells #[.slice y2 m2 z2,.slice y3 m3 z3] 96)):=(Below.refl _ _).alloc (Nat.le_refl _) _;have hct:=qod w3.heap.size y2 m2 z2 y3 m3 z3 (qde f.2.2.1) (qde f.2.2.2) (w3.alloc (.cells #[.slice y2 m2 z2,.slice y3 m3 z3] 96)) (heap_alloc_new w3 _) (HO2'.out.rd.carry hbx) HM2.out (HO3.out.rd.carry hbx) HM3.out (by have:=qii f.2.2.1;have:=qii f.2.2.2;omega);have HBX:=hide hbx;clear hbx
 go_wp2_with fail
 refine hct.mono ?_
 rintro e w4 ⟨v4,rfl,ho4,hb4⟩;have hbx:=HBX.out.trans (hb4.mono (HBX.out.size));have HB4:=bT qak hbx;have HO4:=hide (ho4.mono (Nat.le_trans qak.out.size HBX.out.size));clear hct hbx HBX hb4 ho4;go_wp2;go_ret;exact ⟨_,rfl,HO4.out,HB4.out⟩
theorem any34 (l:List Pu) (k:Nat) (hk:k<l.length):(l.take (k+1)).any (fun p=>decide (p.1<34))=((l.take k).any (fun p=>decide (p.1<34)) || decide ((l[k]).1<34)):=by
 rw [List.take_succ_eq_append_getElem hk,List.any_append]
 simp
theorem qm1 (N:Int) (u:Value) (w:World) (hu:u.oneCell'=true):
  Calls Tryz.prog 171 #[.agg #[.int .i64 N,u]] w fun e w'=>e=.returned (.bool (decide (N<34)))∧Below w.heap.size w w':=by
 have hb0:∀o,Below w.heap.size w (w.alloc o):=fun o=>(Below.refl _ _).alloc (Nat.le_refl _) _
 go_enter Tryz.func171,Tryz.ntmps171
 go_wp2;go_ret;exact ⟨rfl,hb0 _⟩
theorem qsl (a:Option Addr) (n c:Nat) (l:List Pu) (w:World) (hrd:RdW w (.slice a n c) l) (hn:n=l.length):
  Calls Tryz.prog 152 #[.slice a n c,.func (.func 171) #[] #[]] w fun e w'=>∃i:Int,e=.returned (.int .i64 i)∧decide (0≤i)=l.any (fun p=>decide (p.1<34))∧Below w.heap.size w w':=by
 have hm:n≤maxLen:=hn ▸ hrd.len_le;unfold maxLen at hm;have HR:=hide hrd;have HN:=hide hn;clear hrd hn
 go_enter Tryz.func152,Tryz.ntmps152
 go_wp2
 go_loopw [8] (fun i wr=>∃k:Nat,k≤n∧i=.int .i64 k∧Hid ((l.take k).any (fun p=>decide (p.1<34))=false)∧Below w.heap.size w wr) (fun i _=>n - (intOf i).toNat)
 case atStart=>exact ⟨0,Nat.zero_le _,rfl,hide (by simp),Below.refl _ _⟩
 case round=>
  obtain ⟨k,hk,rfl,hall,hbel⟩:=hrel
  by_cases hlt:k<n
  ·have hlt':(k:Int)<n:=by omega
   have hkl:k<l.length:=by have:=HN.out;omega
   obtain ⟨b,off,rfl,q0,x9,m9,d9,q1,q2,q3⟩:=(HR.out.carry hbel).at k hkl;obtain ⟨N,hN⟩:∃N,N=(l[k]).1:=⟨_,rfl⟩;rw [←hN] at q0;have HN2:=hide hN;clear q2 q3 hN
   go_wp2_with fail
   refine (qm1 N _ _ rfl).mono ?_
   rintro e w1 ⟨rfl,hb1⟩;have hb1':Below w.heap.size w w1:=hbel.trans (hb1.mono hbel.size);clear hb1 q0 q1
   by_cases hq:N<34
   ·have HM:=hide (show l.any (fun p=>decide (p.1<34))=true by
     rw [List.any_eq_true]
     exact ⟨l[k],List.getElem_mem hkl,by rw [←HN2.out];simpa using hq⟩)
    have hq':decide (N<34)=true:=by simpa using hq
    clear hq;go_wp2;go_ret;exact ⟨_,rfl,by rw [HM.out];simp,hb1'⟩
   ·have HM:=hide (show (l.take (k+1)).any (fun p=>decide (p.1<34))=false by
     rw [any34 l k hkl,hall.out,←HN2.out];simpa using hq)
    have hq':decide (N<34)=false:=by simpa using hq
    clear hq;go_wp2;go_roundw
    case rel=>exact ⟨k+1,by omega,rfl,HM,hb1'⟩
    case measure=>simp only [intOf];omega
  ·have hd:decide ((k:Int)<n)=false:=by simpa using (by omega:¬(k:Int)<n)
   have HM:=hide (show l.any (fun p=>decide (p.1<34))=false by
    have:=hall.out
    rwa [List.take_of_length_le (by have:=HN.out;omega)] at this)
   go_wp2;go_ret;exact ⟨_,rfl,by rw [HM.out];rfl,hbel⟩
theorem ql5 (a:Option Addr) (n c:Nat) (l:List Pu) (w:World) (hrd:RdW w (.slice a n c) l) (hn:n=l.length):
  Calls Tryz.prog 77 #[.slice a n c,.func (.func 171) #[] #[]] w fun e w'=>e=.returned (.bool (l.any (fun p=>decide (p.1<34))))∧Below w.heap.size w w':=by
 have hix:=qsl a n c l w hrd hn;clear hrd hn
 go_enter Tryz.func77,Tryz.ntmps77
 go_wp2_with fail
 refine hix.mono ?_
 rintro e w1 ⟨i,rfl,hi,hb1⟩;have HI:=hide hi;clear hi;go_wp2;go_ret;exact ⟨by rw [←HI.out];rfl,hb1⟩
theorem qage {l:List Ex} {k j:Nat} (hk:k<l.length) (hj:j<k) (hl:l.length≤4096) (h:qdx l[k] (l[j]'(by omega))=true):chkX l=8:=by
 by_cases ha:allX l=0
 ·refine qm6 (k:=k+1) hk ha ?_
  rw [qbc l k hk,qgo,Bool.and_eq_false_iff]
  right
  rw [List.all_eq_false];refine ⟨l[j]'(by omega), ?_,by rw [h];simp⟩;rw [List.mem_take_iff_getElem];exact ⟨j,by omega,rfl⟩
 ·rw [qkd ha]
  rcases qm3 l with ⟨_,h1⟩ | ⟨h1,_⟩ | ⟨h1,_⟩
  ·omega
  ·exact h1
  ·exact absurd h1 ha
theorem qakp {l:List Ex} {k:Nat} (hk:k<l.length) (hl:l.length≤4096) (h:mayX l[k]=false):chkX l=8:=by
 have:=qoz hk hl h
 rw [qkd (by rw [this];decide),this]
theorem qagf {l:List Ex} (h:4096<l.length):chkX l=4:=by
 have:allX l=4:=by unfold allX;rw [if_pos h]
 rw [qkd (by rw [this];decide),this]
theorem qog (a:Option Addr) (n c:Nat) (l:List Ex) (w:World) (hrd:RdE w (.slice a n c) l) (hn:n=l.length) (hwf:∀x∈l,wfX x):
  Calls Tryz.prog 240 #[.slice a n c] w fun e w'=>e=.returned (.int .i64 (chkX l))∧Below w.heap.size w w':=by
 have hm:n≤maxLen:=hn ▸ hrd.len_le;unfold maxLen at hm;have HR:=hide hrd;have HN:=hide hn;have HW:=hide hwf;clear hrd hn hwf
 by_cases g1:n > 4096
 ·have HM:=hide (qagf (l:=l) (by have:=HN.out;omega))
  have g1':(4096:Int)<n:=by omega
  go_enter Tryz.func240,Tryz.ntmps240
  go_wp2;go_ret;exact ⟨by rw [HM.out];rfl,Below.refl _ _⟩
 have g1':decide ((4096:Int)<n)=false:=by simpa using (by omega:¬(4096:Int)<n)
 clear hm
 go_enter Tryz.func240,Tryz.ntmps240
 go_wp2
 go_loopw [3] (fun i wr=>∃k:Nat,k≤n∧i=.int .i64 k∧Hid (∀x∈l.take k,mayX x=true)∧Hid (apX (l.take k)=true)∧Below w.heap.size w wr) (fun i _=>n - (intOf i).toNat)
 case atStart=>exact ⟨0,Nat.zero_le _,rfl,hide (by simp),hide (by simp [apX]),Below.refl _ _⟩
 case round=>
  obtain ⟨k,hk,rfl,hall,hap,hbel⟩:=hrel
  by_cases hlt:k<n
  ·have hlt':(k:Int)<n:=by omega
   have hkl:k<l.length:=by have:=HN.out;omega
   have hw1:wrap64 ((k:Int)+1)=(k:Int)+1:=qha (by omega);obtain ⟨b,off,e,q0,q1⟩:=(HR.out.carry hbel).at k hkl;subst e
   go_wp2_with fail
   refine (qwn (l[k]) (HW.out _ (List.getElem_mem hkl)) _).mono ?_
   rintro e wc ⟨rfl,hbc⟩;have hbc':Below w.heap.size w wc:=hbel.trans (hbc.mono hbel.size);clear hbc
   cases hp:mayX l[k] with
   | false=>
    have HM:=hide (qakp hkl (by have:=HN.out;omega) hp);clear hp;go_wp2;go_ret;exact ⟨by rw [HM.out];rfl,hbc'⟩
   | true=>
    have HP:=hide hp
    have HA:=hide (show ∀x∈l.take (k+1),mayX x=true by
     intro x hx;rw [qbc l k hkl] at hx
     rcases List.mem_append.1 hx with hx | hx
     ·exact hall.out x hx
     ·rw [List.mem_singleton.1 hx];exact hp)
    clear hp q0 q1 hbel;go_wp2
    go_loopw [4] (fun i wr=>∃j:Nat,j≤k∧i=.int .i64 j∧Hid (∀y∈l.take j,qdx l[k] y=false)∧Below w.heap.size w wr) (fun i _=>k - (intOf i).toNat)
    case atStart=>exact ⟨0,Nat.zero_le _,rfl,hide (by simp),hbc'⟩
    case round=>
     obtain ⟨j,hj,rfl,hno,hbel⟩:=hrel
     by_cases hjk:j<k
     ·have hjk':(j:Int)<k:=by omega
      have hjl:j<l.length:=by omega
      have hjn:j<n:=by omega
      have hw2:wrap64 ((j:Int)+1)=(j:Int)+1:=qha (by omega);obtain ⟨b,off,e,q0,q1⟩:=(HR.out.carry hbel).at k hkl;cases e;obtain ⟨b,off,e,q2,q3⟩:=(HR.out.carry hbel).at j hjl;cases e;have HPj:=hide (HA.out (l[j]) (by rw [List.mem_take_iff_getElem];exact ⟨j,by omega,rfl⟩))
      obtain ⟨S,eS⟩:∃S:World→Prop,S=fun wx=>(wx.cell? ⟨b,off+k*2,none⟩=some (.int .i64 (l[k]).1)∧wx.cell? ⟨b,off+k*2+1,none⟩=some (.int .i64 (l[k]).2))∧(wx.cell? ⟨b,off+j*2,none⟩=some (.int .i64 (l[j]).1)∧wx.cell? ⟨b,off+j*2+1,none⟩=some (.int .i64 (l[j]).2))∧Below wr.heap.size wr wx:=⟨_,rfl⟩
      have hK:Keeps S:=by rw [eS];exact ((qaa _ _).and (qaa _ _)).and (((qaa _ _).and (qaa _ _)).and (qap wr))
      have hS0:S wr:=by rw [eS];exact ⟨⟨q0,q1⟩,⟨q2,q3⟩,Below.refl _ _⟩
      go_wp2;rw [eS] at hK hS0
      refine qaj hK (by kernel_rfl) hS0 ?_
      intro hS
      refine rP [0,1,2,3,4,5,6,7] 1 ?qa1 ?qp1 hS ?qn1
      case qp1=>
       iterate 8 (apply Yl.cons rfl rfl;focus (rintro wx ⟨⟨x1,x2⟩,⟨x3,x4⟩,x5⟩;go_simp;all_goals (with_reducible rfl));try simp only [Act.put,sA,sB,sC])
       exact Yl.nil
      refine rV hK 8 (.bool (qdx l[k] l[j])) rfl hS (qabj (l[k]) (l[j]) HP.out HPj.out _) ?_
      clear hS;intro w33 hS
      try simp only [Act.put,sA,sB,sC]
      refine rD ?_
      cases hmt:qdx l[k] l[j] with
      | true=>
       have HM:=hide (qage hkl hjk (by have:=HN.out;omega) hmt);have hbz:=hbel.trans (hS.2.2.mono hbel.size);clear hmt;go_wp2;go_ret;exact ⟨by rw [HM.out];rfl,hbz⟩
      | false=>
       have HNO:=hide (show ∀y∈l.take (j+1),qdx l[k] y=false by
        intro y hy;rw [qbc l j hjl] at hy
        rcases List.mem_append.1 hy with hy | hy
        ·exact hno.out y hy
        ·rw [List.mem_singleton.1 hy];exact hmt)
       have hbz:=hbel.trans (hS.2.2.mono hbel.size);clear hmt;go_wp2;go_roundw
       case rel=>exact ⟨j+1,by omega,rfl,HNO,hbz⟩
       case measure=>simp only [intOf];omega
     ·have hd:decide ((j:Int)<k)=false:=by simpa using (by omega:¬(j:Int)<k)
      have HAP:=hide (show apX (l.take (k+1))=true by
       rw [qbc l k hkl,qgo,hap.out,Bool.true_and,List.all_eq_true];intro y hy;rw [show k=j by omega] at hy
       rw [hno.out y hy];rfl)
      go_wp2;go_roundw
      case rel=>exact ⟨k+1,by omega,rfl,HA,HAP,hbel⟩
      case measure=>simp only [intOf];omega
  ·have hd:decide ((k:Int)<n)=false:=by simpa using (by omega:¬(k:Int)<n)
   have e:k=l.length:=by have:=HN.out;omega
   have HM:=hide (show chkX l=0 from qhz (qk2 (by omega) (by rw [←e];exact hall.out)) (by have:=hap.out;rwa [e,List.take_length] at this));clear e;go_wp2;go_ret;exact ⟨by rw [HM.out];rfl,hbel⟩
theorem quz (a:Option Addr) (n c:Nat) (l:List Ex) (w:World) (hrd:RdE w (.slice a n c) l) (hn:n=l.length) (hwf:∀x∈l,wfX x):
  Calls Tryz.prog 198 #[.slice a n c] w fun e w'=>∃v,e=.returned (.tuple #[v,.int .i64 (chkX l)])∧OwI w' w.heap.size v (qcr l)∧Below w.heap.size w w':=by
 have HR:=hide hrd;have HN:=hide hn;have HA:=hide (qog a n c l w hrd hn hwf);clear hrd hn hwf
 go_enter Tryz.func198,Tryz.ntmps198
 go_wp2_with fail
 refine HA.out.mono ?_
 rintro e wa ⟨rfl,hba⟩
 by_cases hz:chkX l=0
 ·have HZ:=hide (qi4 hz).1
  have HM:=hide (show qcr l=qam l by unfold qcr;rw [if_pos hz]);rw [hz];have HC:=hide hz
  have hn4:n≤4096:=by have:=(qcp HZ.out).1;have:=HN.out;omega
  clear hz;go_wp2
  go_loopw [5,6] (fun s i wr=>∃k:Nat,k≤n∧i=.int .i64 k∧Hid (OwI wr w.heap.size s (qam (l.take k)))∧Below w.heap.size w wr) (fun _ i _=>n - (intOf i).toNat)
  case atStart=>exact ⟨0,Nat.zero_le _,rfl,hide (OwI.nil _ _),hba⟩
  case round=>
   obtain ⟨k,hk,rfl,ho,hbel⟩:=hrel
   by_cases hlt:k<n
   ·have hlt':(k:Int)<n:=by omega
    have hkl:k<l.length:=by have:=HN.out;omega
    have hw0:wrap64 ((k:Int)+1)=(k:Int)+1:=qha (by omega);obtain ⟨b,off,e,q0,q1⟩:=(HR.out.carry hbel).at k hkl;subst e;have HQ:=hide (fun wx (hb:Below w.heap.size w wx)=>(HR.out.carry hb).at k hkl);have HE:=hide (show qam (l.take (k+1))=qam (l.take k)++blkX l[k] (l[k]).2.toNat by rw [qbc l k hkl,qjt]);have hx:=(qcp HZ.out).2 _ (List.getElem_mem hkl);have HL:=hide (fun m hm=>qnx (m:=m) HZ.out hkl hm);generalize hX:l[k]=X at *;obtain ⟨P,R⟩:=X
    simp only at hx HE q0 q1 HL HQ
    obtain ⟨r,rfl⟩:∃r:Nat,R=r:=⟨R.toNat,by omega⟩
    have hPr:wrap64 (P+(r:Int))=P+(r:Int):=by unfold wrap64;omega
    have hPi:IntKind.i64.wrap (P+(r:Int))=P+(r:Int):=by rw [IntKind.wrap_i64];omega
    clear hX;go_wp2
    go_loopw [5,7] (fun s i wr=>∃j:Nat,j≤r∧i=.int .i64 (P+(j:Int))∧Hid (OwI wr w.heap.size s (qam (l.take k)++blkX (P,(r:Int)) j))∧Below w.heap.size w wr) (fun _ i _=>(P+r - intOf i).toNat)
    case atStart=>exact ⟨0,Nat.zero_le _,by simp,hide (by simpa [blkX] using ho.out),hbel⟩
    case round=>
     obtain ⟨j,hj,rfl,ho2,hbel2⟩:=hrel;obtain ⟨b',off',e,p0,p1⟩:=HQ.out wr hbel2;cases e
     by_cases hjt:j<r
     ·have hjt':P+(j:Int)<P+(r:Int):=by omega
      have hlen:=HL.out j (by omega);have HRUN:=hide (fun nq:Nat=>qabi (w:=wr.drewN nq) ho2.out hbel2.size (by omega) (P+j))
      have hw1:wrap64 (P+(j:Int)+1)=P+(j:Int)+1:=by unfold wrap64;omega
      go_wp2
      go_quiet (fail)
      obtain ⟨g9,c9,w9,hrun,hown9,hbel9, -⟩:=HRUN.out nq
      have HO:=hide (show OwI w9 w.heap.size (.slice (some ⟨g9,0,none⟩) ((qam (l.take k)++blkX (P,(r:Int)) j).length+1) c9) (qam (l.take k)++blkX (P,(r:Int)) (j+1)) by
       rw [qq4,←List.append_assoc];exact hown9)
      have hb9:Below w.heap.size w w9:=hbel2.trans ⟨hbel9.os,hbel9.tape,hbel9.output,hbel9.size,hbel9.block⟩;clear hown9 hbel9
      go_wp2_with (at_builtin;refine qaf rfl (.tmp 39) (.tmp 41) 93 rfl rfl rfl rfl hrun ?_)
      go_roundw
      case rel=>exact ⟨j+1,by omega,congrArg (Value.int .i64) (by omega),by rw [←List.length_append];exact HO,hb9⟩
      case measure=>simp only [intOf];omega
     ·have hd:decide (P+(j:Int)<P+(r:Int))=false:=by simpa using (by omega:¬P+(j:Int)<P+(r:Int))
      have hd2:decide ((j:Int)<(r:Int))=false:=by simpa using (by omega:¬(j:Int)<(r:Int))
      have HO:=hide (show OwI wr w.heap.size _ (qam (l.take (k+1))) by
       rw [HE.out,Int.toNat_natCast]
       have e:j=r:=by omega
       rw [←e];rw [←e] at ho2;exact ho2.out)
      go_wp2
      go_quiet (fail)
      go_wp2;go_roundw
      case rel=>exact ⟨k+1,by omega,rfl,HO,below_drewN hbel2 _⟩
      case measure=>simp only [intOf];omega
   ·have hd:decide ((k:Int)<n)=false:=by simpa using (by omega:¬(k:Int)<n)
    have HE:=hide (show qam (l.take k)=qcr l by rw [HM.out,List.take_of_length_le (by have:=HN.out;omega)]);go_wp2;go_ret2;exact ⟨_,by rw [HC.out];rfl,by rw [←HE.out];exact ho.out,hbel⟩
 ·have HM:=hide (show qcr l=[] by unfold qcr;rw [if_neg hz])
  generalize hE:chkX l=E at *
  have hz':(E==0)=false:=by simpa using hz
  go_wp2;go_ret2;exact ⟨_,by rw [hE];rfl,by rw [HM.out];exact OwI.nil _ _,hba⟩
end Go.Proofs.YtmeaiocohalphaaGreatDoor

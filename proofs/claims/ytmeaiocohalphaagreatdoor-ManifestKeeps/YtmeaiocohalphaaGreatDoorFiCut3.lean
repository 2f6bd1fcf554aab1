/-
  What files.Read does: a file is cut from bytes.
-/
import Derived.Test.YtmeaiocohalphaaGreatDoorFiRef1
import Derived.Test.YtmeaiocohalphaaGreatDoorMathFi3
set_option maxHeartbeats 2000000
set_option maxRecDepth 100000
namespace Go.Proofs.YtmeaiocohalphaaGreatDoor
open Go.RowKit
set_option linter.unusedVariables false
set_option linter.unusedSimpArgs false
def FileAt (w:World) (q:Nat) (s:ByteArray) (y:Value):Prop:=w.heap[q]? =some (.cells #[.string s,y] 98 (0,0))
theorem FileAt.carry {w w':World} {q:Nat} {s:ByteArray} {y:Value} (h:FileAt w q s y) (hb:Below w.heap.size w w'):FileAt w' q s y:=(hb.block q (Array.getElem?_eq_some_iff.1 h).1).trans h
theorem FileAt.cell1 {w:World} {q:Nat} {s:ByteArray} {y:Value} (h:FileAt w q s y):w.cell? ⟨q,1,none⟩=some y:=by rw [cell_of_row w q 1 _ _ (0,0) h];rfl
theorem FileAt.cell0 {w:World} {q:Nat} {s:ByteArray} {y:Value} (h:FileAt w q s y):w.cell? ⟨q,0,none⟩=some (.string s):=by rw [cell_of_row w q 0 _ _ (0,0) h];rfl
theorem FileAt.new (w:World) (s:ByteArray) (y:Value):FileAt (w.alloc (.cells #[.string s,y] 98)) w.heap.size s y:=heap_alloc_new w _
def RdU (w:World) (v:Value) (l:List UInt8):Prop:=
 (l=[]∧(v=.slice none 0 0∨∃a c,v=.slice (some a) 0 c))∨
 ∃b off c cs,v=.slice (some ⟨b,off,none⟩) l.length c∧l.length≤c∧c≤maxLen∧w.heap[b]? =some (.cells cs 5 (0,0))∧∀j,(h:j<l.length)→w.cell? ⟨b,off+j,none⟩=some (.int .u8 (l[j]).toNat)
theorem RdU.rd {w:World} {v:Value} {l:List UInt8} (h:RdU w v l):Rd w v l:=by
 rcases h with h | ⟨b,off,c,cs,e,h1,h2,_,h3⟩
 ·exact .inl h
 ·exact .inr ⟨b,off,c,e,h1,h2,h3⟩
theorem RdU.carry {w w':World} {v:Value} {l:List UInt8} (h:RdU w v l) (hb:Below w.heap.size w w'):RdU w' v l:=by
 rcases h with h | ⟨b,off,c,cs,e,h1,h2,h4,h3⟩
 ·exact .inl h
 ·exact .inr ⟨b,off,c,cs,e,h1,h2,(hb.block b (Array.getElem?_eq_some_iff.1 h4).1).trans h4,fun j hj=>by rw [hb.cell (World.block_lt_of_cell? w _ (h3 j hj))];exact h3 j hj⟩
theorem OwBy.rdU {w:World} {base:Nat} {v:Value} {l:List UInt8} (h:OwBy w base v l):RdU w v l:=by
 rcases h.2 with ⟨rfl,hn⟩ | ⟨g,cap,cur,rfl,_,hg,hn,hm,hsz,htake⟩
 ·exact .inl ⟨List.length_eq_zero_iff.1 hn,.inl rfl⟩
 ·refine .inr ⟨g,0,cap,cur,rfl,hn,hm,hg,fun j hj=>?_⟩
  have:=h.cells (g:=g) rfl j (.int .u8 (l[j]).toNat) (by simp [u8v,List.getElem?_eq_getElem hj])
  simpa [Addr.add_lit] using this
def KeepT (t0:TypeId) (w w':World):Prop:=∀(k:Nat) (cs:Array Value) (t:TypeId) (fr:Nat × Nat),t≠t0→w.heap[k]? =some (Obj.cells cs t fr)→w'.heap[k]? =some (Obj.cells cs t fr)
theorem RdU.keepT {w w':World} {v:Value} {l:List UInt8} (h:RdU w v l) {t0:TypeId} (ht:5≠t0) (hk:KeepT t0 w w'):RdU w' v l:=by
 rcases h with h | ⟨b,off,c,cs,e,h1,h2,h4,h3⟩
 ·exact .inl h
 ·have h5:=hk b cs _ _ ht h4
  refine .inr ⟨b,off,c,cs,e,h1,h2,h5,fun j hj=>?_⟩;rw [cell_of_row w' b _ _ _ (0,0) h5,←cell_of_row w b _ _ _ (0,0) h4];exact h3 j hj
def SubX (v:Value) (l:List UInt8) (v':Value) (r:List UInt8):Prop:=(∀wx,Rd wx v l→Rd wx v' r)∧∀wx,RdU wx v l→RdU wx v' r
theorem SubX.trans {v v1 v2:Value} {l l1 l2:List UInt8} (h:SubX v l v1 l1) (k:SubX v1 l1 v2 l2):SubX v l v2 l2:=⟨fun w h'=>k.1 w (h.1 w h'),fun w h'=>k.2 w (h.2 w h')⟩
theorem qagd {b off n c k:Nat} {l:List UInt8} (hn:n=l.length) (hc:n≤c) (hm:c≤maxLen) (hk:k≤n) (hkc:k≠c):SubX (.slice (some ⟨b,off,none⟩) n c) l (.slice (some ⟨b,off+k,none⟩) (l.drop k).length (c - k)) (l.drop k):=by
 subst hn;have hl:(l.drop k).length=l.length - k:=List.length_drop
 have key:∀(wx:World) (b' off' c':Nat),Value.slice (some ⟨b,off,none⟩) l.length c=.slice (some ⟨b',off',none⟩) l.length c'→(∀j,(h:j<l.length)→wx.cell? ⟨b',off'+j,none⟩=some (.int .u8 (l[j]).toNat))→∀j,(h:j<(l.drop k).length)→wx.cell? ⟨b,off+k+j,none⟩=some (.int .u8 ((l.drop k)[j]).toNat):=by
  intro wx b' off' c' e h j hj;cases e;rw [List.getElem_drop,Nat.add_assoc];exact h (k+j) (by omega)
 refine ⟨fun wx h=>?_,fun wx h=>?_⟩
 ·rcases h with ⟨h,_⟩ | ⟨b',off',c',e,h1,h2,h3⟩
  ·have:l.drop k=[]:=by rw [h];simp
   rw [this];exact .inl ⟨rfl,.inr ⟨_,_,rfl⟩⟩
  ·exact .inr ⟨b,off+k,c - k,rfl,by omega,by omega,key wx b' off' c' e h3⟩
 ·rcases h with ⟨h,_⟩ | ⟨b',off',c',cs,e,h1,h2,h4,h3⟩
  ·have:l.drop k=[]:=by rw [h];simp
   rw [this];exact .inl ⟨rfl,.inr ⟨_,_,rfl⟩⟩
  ·have e':=e
   cases e';exact .inr ⟨b,off+k,c - k,cs,rfl,by omega,by omega,h4,key wx b off c e h3⟩
theorem qakb {a:Addr} {n c:Nat} {l:List UInt8} {r:List UInt8} (hr:r=[]) (c':Nat):SubX (.slice (some a) n c) l (.slice (some a) r.length c') r:=by
 subst hr;exact ⟨fun _ _=>.inl ⟨rfl,.inr ⟨_,_,rfl⟩⟩,fun _ _=>.inl ⟨rfl,.inr ⟨_,_,rfl⟩⟩⟩
theorem qakc {l r:List UInt8} {m:Nat} (h:cnum l=some (m,r)):∃k,rd l=some (m,k)∧m≤4096∧r=l.drop k:=by
 unfold cnum at h
 cases e:rd l with
 | none=>rw [e] at h;cases h
 | some p=>
  obtain ⟨n,k⟩:=p;rw [e] at h
  simp only at h
  by_cases hm:n≤4096
  ·rw [if_pos hm] at h
   injection h with h
   injection h with e1 e2
   subst e1 e2;exact ⟨k,rfl,hm,rfl⟩
  ·rw [if_neg hm] at h;cases h
theorem qd6 (a:Option Addr) (n c:Nat) (l r:List UInt8) (m:Nat) (w:World) (hrd:Rd w (.slice a n c) l) (h:cnum l=some (m,r)):
  Calls Tryz.prog 256 #[.slice a n c] w fun e w'=>∃a2 c2,e=.returned (.tuple #[.int .i64 m,.slice a2 r.length c2,.int .i64 0])∧SubX (.slice a n c) l (.slice a2 r.length c2) r∧Below w.heap.size w w':=by
 obtain ⟨k,e1,e2,e3⟩:=qakc h;have hread:=qlh w hrd;rw [e1] at hread;unfold rdV at hread;obtain ⟨hk0,hkl,hk10,hn64⟩:=qtf e1;have HE:=hide e3
 rcases hrd with ⟨hl,_⟩ | ⟨b,off,c',e,h1,h2,h3⟩
 ·rw [hl] at hkl;simp at hkl;omega
 obtain ⟨nn,hnn⟩:∃nn,nn=l.length:=⟨_,rfl⟩;rw [←hnn] at e h1 hkl;cases e
 have g1:decide ((4096:Int)<m)=false:=by simpa using (by omega:¬(4096:Int)<m)
 have g2:IntKind.i64.wrap (m:Int)=m:=by rw [IntKind.wrap_i64];omega
 have g3:(k:Int)≤n:=by omega
 have g4:(0:Int)≤k:=by omega
 have g5:(n:Int)≤c:=by omega
 unfold maxLen at h2
 by_cases hck:k=c
 ·have HX:=hide (show SubX (.slice (some ⟨b,off,none⟩) n c) l (.slice (some ⟨b,off,none⟩) r.length 0) r from qakb (by rw [e3];exact List.drop_of_length_le (by omega)) 0)
  have hrl:r.length=0:=by rw [e3,List.length_drop];omega
  have hkn:n=k:=by omega
  subst hck;subst hkn;rw [hrl] at HX ⊢;clear h3 e3 h e1 hnn hrl hkl h1 h2
  go_enter Tryz.func256,Tryz.ntmps256
  go_wp2_with fail
  refine hread.mono ?_
  rintro e w1 ⟨rfl,rfl⟩;clear hread;go_wp2
  go_quiet (fail)
  go_wp2;go_ret3;exact ⟨some ⟨b,off,none⟩,0,by simp_all,HX.out,below_drewN (Below.refl _ _) _⟩
 ·have HX:=hide (show SubX (.slice (some ⟨b,off,none⟩) n c) l (.slice (some ⟨b,off+k,none⟩) r.length (c - k)) r by rw [e3];exact qagd hnn h1 (by unfold maxLen;omega) hkl hck)
  have HRL:=hide (show r.length=n - k by rw [e3,List.length_drop,←hnn]);clear h3 e3 h e1 hnn
  go_enter Tryz.func256,Tryz.ntmps256
  go_wp2_with fail
  refine hread.mono ?_
  rintro e w1 ⟨rfl,rfl⟩;clear hread;go_wp2
  go_quiet (fail)
  go_wp2;go_ret3;exact ⟨some ⟨b,off+k,none⟩,c - k,by rw [HRL.out];simp,HX.out,below_drewN (Below.refl _ _) _⟩
theorem qe6 (a:Option Addr) (n c:Nat) (l:List UInt8) (w:World) (hrd:Rd w (.slice a n c) l) (h:cnum l=none):
  Calls Tryz.prog 256 #[.slice a n c] w fun e w'=>e=.returned (.tuple #[.int .i64 0,.slice none 0 0,.int .i64 8])∧Below w.heap.size w w':=by
 have hread:=qlh w hrd
 cases e:rd l with
 | none=>
  rw [e] at hread;unfold rdV at hread;clear hrd h e
  go_enter Tryz.func256,Tryz.ntmps256
  go_wp2_with fail
  refine hread.mono ?_
  rintro e w1 ⟨rfl,rfl⟩;clear hread;go_wp2;go_ret3;exact ⟨rfl,Below.refl _ _⟩
 | some p=>
  obtain ⟨m,k⟩:=p;rw [e] at hread;unfold rdV at hread
  have hm:4096<m:=by
   unfold cnum at h;rw [e] at h
   simp only at h
   by_cases hm:m≤4096
   ·rw [if_pos hm] at h;cases h
   ·omega
  have g1:(4096:Int)<m:=by omega
  clear hrd h e
  go_enter Tryz.func256,Tryz.ntmps256
  go_wp2_with fail
  refine hread.mono ?_
  rintro e w1 ⟨rfl,rfl⟩;clear hread;go_wp2;go_ret3;exact ⟨rfl,Below.refl _ _⟩
def ExtAt (w:World) (q:Nat) (x y:Value):Prop:=w.heap[q]? =some (.cells #[x,y] 237 (0,0))
theorem ExtAt.carry {w w':World} {q:Nat} {x y:Value} (h:ExtAt w q x y) (hb:Below w.heap.size w w'):ExtAt w' q x y:=(hb.block q (Array.getElem?_eq_some_iff.1 h).1).trans h
theorem ExtAt.cell0 {w:World} {q:Nat} {x y:Value} (h:ExtAt w q x y):w.cell? ⟨q,0,none⟩=some x:=by rw [cell_of_row w q 0 _ _ (0,0) h];rfl
theorem ExtAt.cell1 {w:World} {q:Nat} {x y:Value} (h:ExtAt w q x y):w.cell? ⟨q,1,none⟩=some y:=by rw [cell_of_row w q 1 _ _ (0,0) h];rfl
theorem ExtAt.new (w:World) (x y:Value):ExtAt (w.alloc (.cells #[x,y] 237)) w.heap.size x y:=heap_alloc_new w _
theorem ExtAt.put {w:World} {q:Nat} {x y:Value} (h:ExtAt w q x y) (u v:Value):ExtAt ((w.setCell ⟨q,0,none⟩ u).setCell ⟨q,1,none⟩ v) q u v:=by
 have a1:=heap_setCell_same w q 0 _ 237 u h;have a2:=heap_setCell_same (w.setCell ⟨q,0,none⟩ u) q 1 _ 237 v a1;unfold ExtAt
 rw [a2];rfl
theorem qzg {l r:List UInt8} {x:Ex} (h:cext l=some (x,r)):∃(m1 m2:Nat) (q:List UInt8),cnum l=some (m1,q)∧cnum q=some (m2,r)∧x=((m1:Int),(m2:Int)):=by
 unfold cext at h
 cases e:cnum l with
 | none=>rw [e] at h;cases h
 | some p=>
  obtain ⟨m,q⟩:=p;rw [e] at h
  simp only at h
  cases e2:cnum q with
  | none=>rw [e2] at h;cases h
  | some p=>
   obtain ⟨m2,q2⟩:=p;rw [e2] at h
   simp only at h
   injection h with h
   injection h with h1 h2
   subst h1 h2;exact ⟨m,m2,q,rfl,e2,rfl⟩
theorem qage {l:List UInt8} (h:cext l=none):cnum l=none∨∃m q,cnum l=some (m,q)∧cnum q=none:=by
 unfold cext at h
 cases e:cnum l with
 | none=>exact .inl rfl
 | some p=>
  obtain ⟨m,q⟩:=p;rw [e] at h
  simp only at h
  cases e2:cnum q with
  | none=>exact .inr ⟨m,q,rfl,e2⟩
  | some p=>
   obtain ⟨m2,q2⟩:=p;rw [e2] at h;cases h
theorem qt3 (a:Option Addr) (n c:Nat) (l r:List UInt8) (x:Ex) (w:World) (hrd:Rd w (.slice a n c) l) (h:cext l=some (x,r)):
  Calls Tryz.prog 276 #[.slice a n c] w fun e w'=>∃a2 c2,e=.returned (.tuple #[.agg #[.int .i64 x.1,.int .i64 x.2],.slice a2 r.length c2,.int .i64 0])∧SubX (.slice a n c) l (.slice a2 r.length c2) r∧Below w.heap.size w w':=by
 obtain ⟨m1,m2,q,e1,e2,rfl⟩:=qzg h;obtain ⟨W0,hW0⟩:∃W0,W0=w.alloc (.cells #[.int .i64 0,.int .i64 0] 237):=⟨_,rfl⟩
 have hb0:Below w.heap.size w W0:=by rw [hW0];exact (Below.refl _ _).alloc (Nat.le_refl _) _
 have HX0:=hide (show ExtAt W0 w.heap.size (.int .i64 0) (.int .i64 0) by rw [hW0];exact ExtAt.new w _ _);have HR:=hide hrd;have HB0:=hide hb0;have hc1:=qd6 a n c l q m1 W0 (hrd.carry hb0) e1;have HE2:=hide e2;clear hrd hb0 h e1 e2
 go_enter Tryz.func276,Tryz.ntmps276
 go_wp2_with fail
 rw [←hW0];clear hW0
 refine hc1.mono ?_
 rintro e w1 ⟨a1,c1,rfl,s1,b1⟩;have HB1:=hide (show Below w.heap.size w w1 from HB0.out.trans (b1.mono HB0.out.size));have HX1:=hide (HX0.out.carry b1);have HS1:=hide s1;clear hc1 b1 s1 HX0 HB0;obtain ⟨p1,hp1⟩:∃p,p=q.length:=⟨_,rfl⟩;rw [←hp1] at HS1 ⊢;clear hp1
 go_wp2_with fail
 refine (qd6 a1 p1 c1 q r m2 w1 (HS1.out.1 _ (HR.out.carry HB1.out)) HE2.out).mono ?_
 rintro e w2 ⟨a2,c2,rfl,s2,b2⟩;have HB2:=hide (show Below w.heap.size w w2 from HB1.out.trans (b2.mono HB1.out.size));have HX2:=hide (HX1.out.carry b2);have HS2:=hide (HS1.out.trans s2);clear b2 s2 HX1 HB1 HS1;obtain ⟨p2,hp2⟩:∃p,p=r.length:=⟨_,rfl⟩;rw [←hp2] at HS2 ⊢;have HPP2:=hide hp2;clear hp2;have x0:=HX2.out.cell0;have x1:=HX2.out.cell1;have z0:=frozen_of_row w2 w.heap.size 0 _ _ HX2.out;have z1:=frozen_of_row w2 w.heap.size 1 _ _ HX2.out;have hp:=HX2.out.put (.int .i64 m1) (.int .i64 m2);have hg:=qcg (w:=w2) (q:=w.heap.size) (.int .i64 m1) (.int .i64 m2);have HBE:=hide (HB2.out.grown hg HB2.out.size (by intro k hk;cases hk;omega));have y0:=hp.cell0;have y1:=hp.cell1;clear hp hg;go_wp2;obtain ⟨w9,hw9⟩:∃w9,w9=(w2.setCell ⟨w.heap.size,0,none⟩ (.int .i64 m1)).setCell ⟨w.heap.size,1,none⟩ (.int .i64 m2):=⟨_,rfl⟩;rw [←hw9] at y0 y1 HBE ⊢
 try simp only [Exit.inBlock,Exit.then]
 refine bodyPost_ret (v:=.tuple #[.agg #[.int .i64 m1,.int .i64 m2],.slice a2 p2 c2,.int .i64 0]) ?_ rfl ⟨a2,c2,by rw [←HPP2.out],by rw [←HPP2.out];exact HS2.out,HBE.out⟩
 clear hw9 x0 x1 z0 z1
 simp [results,Tryz.results276,go_sem, *]
theorem qt4 (a:Option Addr) (n c:Nat) (l:List UInt8) (w:World) (hrd:Rd w (.slice a n c) l) (h:cext l=none):
  Calls Tryz.prog 276 #[.slice a n c] w fun e w'=>e=.returned (.tuple #[.agg #[.int .i64 0,.int .i64 0],.slice none 0 0,.int .i64 8])∧Below w.heap.size w w':=by
 obtain ⟨W0,hW0⟩:∃W0,W0=w.alloc (.cells #[.int .i64 0,.int .i64 0] 237):=⟨_,rfl⟩
 have hb0:Below w.heap.size w W0:=by rw [hW0];exact (Below.refl _ _).alloc (Nat.le_refl _) _
 have HX0:=hide (show ExtAt W0 w.heap.size (.int .i64 0) (.int .i64 0) by rw [hW0];exact ExtAt.new w _ _);have HR:=hide hrd;have HB0:=hide hb0
 rcases qage h with h1 | ⟨m,q,h1,h2⟩
 ·have hc1:=qe6 a n c l W0 (hrd.carry hb0) h1
  clear hrd hb0 h h1
  go_enter Tryz.func276,Tryz.ntmps276
  go_wp2_with fail
  rw [←hW0];clear hW0
  refine hc1.mono ?_
  rintro e w2 ⟨rfl,b1⟩;have HB2:=hide (show Below w.heap.size w w2 from HB0.out.trans (b1.mono HB0.out.size));have HX2:=hide (HX0.out.carry b1);clear hc1 b1 HX0 HB0;have x0:=HX2.out.cell0;have x1:=HX2.out.cell1;have z0:=frozen_of_row w2 w.heap.size 0 _ _ HX2.out;have z1:=frozen_of_row w2 w.heap.size 1 _ _ HX2.out;have hp:=HX2.out.put (.int .i64 0) (.int .i64 0);have hg:=qcg (w:=w2) (q:=w.heap.size) (.int .i64 0) (.int .i64 0);have HBE:=hide (HB2.out.grown hg HB2.out.size (by intro k hk;cases hk;omega));have y0:=hp.cell0;have y1:=hp.cell1;clear hp hg;go_wp2;obtain ⟨w9,hw9⟩:∃w9,w9=(w2.setCell ⟨w.heap.size,0,none⟩ (.int .i64 0)).setCell ⟨w.heap.size,1,none⟩ (.int .i64 0):=⟨_,rfl⟩;rw [←hw9] at y0 y1 HBE ⊢
  try simp only [Exit.inBlock,Exit.then]
  refine bodyPost_ret (v:=.tuple #[.agg #[.int .i64 0,.int .i64 0],.slice none 0 0,.int .i64 8]) ?_ rfl ⟨rfl,HBE.out⟩
  clear hw9 x0 x1 z0 z1
  simp [results,Tryz.results276,go_sem, *]
 ·have hc1:=qd6 a n c l q m W0 (hrd.carry hb0) h1
  have HE2:=hide h2;clear hrd hb0 h h1 h2
  go_enter Tryz.func276,Tryz.ntmps276
  go_wp2_with fail
  rw [←hW0];clear hW0
  refine hc1.mono ?_
  rintro e w1 ⟨a1,c1,rfl,s1,b1⟩;have HB1:=hide (show Below w.heap.size w w1 from HB0.out.trans (b1.mono HB0.out.size));have HX1:=hide (HX0.out.carry b1);have HS1:=hide s1;clear hc1 b1 s1 HX0 HB0;obtain ⟨p1,hp1⟩:∃p,p=q.length:=⟨_,rfl⟩;rw [←hp1] at HS1 ⊢;clear hp1
  go_wp2_with fail
  refine (qe6 a1 p1 c1 q w1 (HS1.out.1 _ (HR.out.carry HB1.out)) HE2.out).mono ?_
  rintro e w2 ⟨rfl,b2⟩;have HB2:=hide (show Below w.heap.size w w2 from HB1.out.trans (b2.mono HB1.out.size));have HX2:=hide (HX1.out.carry b2);clear b2 HX1 HB1 HS1;have x0:=HX2.out.cell0;have x1:=HX2.out.cell1;have z0:=frozen_of_row w2 w.heap.size 0 _ _ HX2.out;have z1:=frozen_of_row w2 w.heap.size 1 _ _ HX2.out;have hp:=HX2.out.put (.int .i64 0) (.int .i64 0);have hg:=qcg (w:=w2) (q:=w.heap.size) (.int .i64 0) (.int .i64 0);have HBE:=hide (HB2.out.grown hg HB2.out.size (by intro k hk;cases hk;omega));have y0:=hp.cell0;have y1:=hp.cell1;clear hp hg;go_wp2;obtain ⟨w9,hw9⟩:∃w9,w9=(w2.setCell ⟨w.heap.size,0,none⟩ (.int .i64 0)).setCell ⟨w.heap.size,1,none⟩ (.int .i64 0):=⟨_,rfl⟩;rw [←hw9] at y0 y1 HBE ⊢
  try simp only [Exit.inBlock,Exit.then]
  refine bodyPost_ret (v:=.tuple #[.agg #[.int .i64 0,.int .i64 0],.slice none 0 0,.int .i64 8]) ?_ rfl ⟨rfl,HBE.out⟩
  clear hw9 x0 x1 z0 z1
  simp [results,Tryz.results276,go_sem, *]
theorem qxi {w w':World} {base:Nat} {e:TypeId} {size:Nat} {v:Value} {n:Nat} {xs:List Value} (q:w.ownsRow base e size v n xs) (hg:w.grownBy w' v.ownBlock):KeepT e w w':=fun k cs t fr ht hk=>by
 have hlt:=(Array.getElem?_eq_some_iff.1 hk).1;rw [hg.block k hlt ?_]
 ·exact hk
 ·intro e0
  rcases q.2 with ⟨rfl,_⟩ | ⟨g,cap,cur,rfl,_,hgc,_⟩
  ·cases e0
  ·cases e0
   rw [hk] at hgc;cases hgc;exact ht rfl
theorem KeepT.below {t0:TypeId} {w w':World} (h:Below w.heap.size w w'):KeepT t0 w w':=fun k cs t fr _ hk=>by rw [h.block k (Array.getElem?_eq_some_iff.1 hk).1];exact hk
theorem KeepT.trans {t0:TypeId} {w w1 w2:World} (h:KeepT t0 w w1) (k:KeepT t0 w1 w2):KeepT t0 w w2:=fun i cs t fr ht hi=>k i cs t fr ht (h i cs t fr ht hi)
theorem KeepT.set {w:World} {q i:Nat} {cs:Array Value} {t0:TypeId} {u:Value} (h:w.heap[q]? =some (.cells cs t0 (0,0))):KeepT t0 w (w.setCell ⟨q,i,none⟩ u):=fun k ds t fr ht hk=>by
 have:k≠q:=by
  rintro rfl;rw [h] at hk;cases hk;exact ht rfl
 exact (heap_setCell_other w ⟨q,i,none⟩ k u this).trans hk
theorem qagf {w:World} {base:Nat} {v:Value} {l:List Ex} (h:OwE w base v l) (hb:base≤w.heap.size) (hl:l.length≤1000000) (x y:Int):
  ∃g c w',(Builtin.append_ #[96,96] 96 #[v,.slice (some ⟨w.heap.size,0,none⟩) 1 1]).run Tryz.prog (w.alloc (.cells #[.int .i64 x,.int .i64 y] 237))=.ok (.slice (some ⟨g,0,none⟩) (l.length+1) c) w'∧
   OwE w' base (.slice (some ⟨g,0,none⟩) (l.length+1) c) (l++[(x,y)])∧Below base w w'∧KeepT 237 w w':=by
 obtain ⟨w8,ew8⟩:∃w8,w8=w.alloc (.cells #[.int .i64 x,.int .i64 y] 237):=⟨_,rfl⟩;have hn8:=qes w #[.int .i64 x,.int .i64 y] 237;rw [←ew8] at hn8 ⊢
 have hb8:Below w.heap.size w w8:=by rw [ew8];exact (Below.refl _ _).alloc (Nat.le_refl _) _
 obtain ⟨i0,hi,hz0,hz1,hz2⟩:=info_parts Tryz.infoEx;have q2:w8.ownsRow base 237 2 v l.length (cellsE l):=qa4 h hb8
 obtain ⟨v9,w9,hrun9,hown9,hg9,_⟩:=run_append_own (P:=Tryz.prog) w8 base 96 96 237 i0 _ 2 16 Tryz.underlying96 hi hz0 hz1 hz2 rfl (by decide) _ _ _ q2 ⟨w.heap.size,0,none⟩ 1 1 [.int .i64 x,.int .i64 y] rfl hn8 (by
  intro u hu
  simp at hu
  rcases hu with rfl | rfl<;>rfl) (by unfold maxLen;omega) (by omega) (Nat.le_trans hb hb8.size)
 have hb9:Below base w w9:=(hb8.mono hb).grown hg9 (Nat.le_trans hb hb8.size) fun k hk=>(q2.lt k hk).1
 have e:cellsE (l++[(x,y)])=cellsE l++[.int .i64 x,.int .i64 y]:=by rw [qds];rfl
 have hle:(l++[(x,y)]).length=l.length+1:=by simp
 rcases hown9.2 with ⟨_,h0⟩ | ⟨g,cap,cur,h0,_⟩
 ·exact absurd h0 (by omega)
 ·subst h0
  exact ⟨g,cap,w9,hrun9,by unfold OwE;rw [hle,e];exact hown9,hb9,(KeepT.below hb8).trans (qxi q2 hg9)⟩
theorem qab7 {w:World} {base:Nat} {v:Value} {fs:List Fl} (h:OwF w base v fs) (hb:base≤w.heap.size) (hl:fs.length≤1000000) (s:List UInt8) (x:Value) (l:List Ex) (hx:OwE w base x l):
  ∃g c w',(Builtin.append_ #[29,29] 29 #[v,.slice (some ⟨w.heap.size,0,none⟩) 1 1]).run Tryz.prog (w.alloc (.cells #[.string (bs s),x] 98))=.ok (.slice (some ⟨g,0,none⟩) (fs.length+1) c) w'∧
   OwF w' base (.slice (some ⟨g,0,none⟩) (fs.length+1) c) (fs++[(s,l)])∧Below base w w'∧KeepT 98 w w':=by
 obtain ⟨ps,rfl,h⟩:=h;rw [List.length_map] at hl;obtain ⟨w8,ew8⟩:∃w8,w8=w.alloc (.cells #[.string (bs s),x] 98):=⟨_,rfl⟩;have hn8:=qes w #[.string (bs s),x] 98;rw [←ew8] at hn8 ⊢
 have hb8:Below w.heap.size w w8:=by rw [ew8];exact (Below.refl _ _).alloc (Nat.le_refl _) _
 obtain ⟨i0,hi,hz0,hz1,hz2⟩:=info_parts Tryz.infoFl;have q2:w8.ownsRow base 98 2 v ps.length (qai ps):=qa4 h.1 hb8
 obtain ⟨v9,w9,hrun9,hown9,hg9,_⟩:=run_append_own (P:=Tryz.prog) w8 base 29 29 98 i0 _ 2 40 Tryz.underlying29 hi hz0 hz1 hz2 rfl (by decide) _ _ _ q2 ⟨w.heap.size,0,none⟩ 1 1 [.string (bs s),x] rfl hn8 (by
  intro u hu
  simp at hu
  rcases hu with rfl | rfl
  ·rfl
  ·exact hx.ownForm) (by unfold maxLen;omega) (by omega) (Nat.le_trans hb hb8.size)
 have hb9:Below base w w9:=(hb8.mono hb).grown hg9 (Nat.le_trans hb hb8.size) fun k hk=>(q2.lt k hk).1
 have e:qai (ps++[((s,l),x)])=qai ps++[.string (bs s),x]:=by rw [qcx];rfl
 have hle:(ps++[((s,l),x)]).length=ps.length+1:=by simp
 have hin:∀p∈ps++[((s,l),x)],OwE w9 base p.2 p.1.2:=by
  intro p hp
  have h0:OwE w8 base p.2 p.1.2:=by
   rcases List.mem_append.1 hp with hp | hp
   ·exact (h.2 p hp).carry hb8
   ·obtain rfl:p=((s,l),x):=by simpa using hp
    exact hx.carry hb8
  exact h0.keptF q2 hg9
 rcases hown9.2 with ⟨_,h0⟩ | ⟨g,cap,cur,h0,_⟩
 ·exact absurd h0 (by omega)
 ·subst h0
  rw [List.length_map];exact ⟨g,cap,w9,hrun9,⟨ps++[((s,l),x)],by simp,by rw [hle,e];exact hown9,hin⟩,hb9,(KeepT.below hb8).trans (qxi q2 hg9)⟩
theorem qagg (a:Option Addr) (n c:Nat) (l s r:List UInt8) (w:World) (hl:l.length≤1000000) (hrd:Rd w (.slice a n c) l) (h:ct l=some (s,r)):
  Calls Tryz.prog 105 #[.slice a n c] w fun e w'=>∃a2 c2,e=.returned (.tuple #[.string (bs s),.slice a2 r.length c2,.int .i64 0])∧OwBy w' w.heap.size (.slice a2 r.length c2) r∧Below w.heap.size w w':=by
 refine (qj8 w (by omega) hrd).mono ?_
 rintro e w' ⟨v,rfl,hv,hb⟩;obtain ⟨x,rfl,ho⟩:=qh3 hv
 have e1:cutT l=bs s:=by unfold cutT;rw [h]
 have e2:qli l=0:=by unfold qli;rw [h]
 have e3:cutR l=r:=by unfold cutR;rw [h]
 rw [e3] at ho;rw [e1,e2]
 obtain ⟨a2,c2,rfl⟩:∃a2 c2,x=.slice a2 r.length c2:=by
  rcases ho.2 with ⟨rfl,hn⟩ | ⟨g,cap,cur,rfl,_⟩
  ·exact ⟨none,0,by rw [hn]⟩
  ·exact ⟨_,_,rfl⟩
 exact ⟨a2,c2,rfl,ho,hb⟩
theorem qab8 (a:Option Addr) (n c:Nat) (l:List UInt8) (w:World) (hl:l.length≤1000000) (hrd:Rd w (.slice a n c) l) (h:ct l=none):
  Calls Tryz.prog 105 #[.slice a n c] w fun e w'=>∃x,e=.returned (.tuple #[.string {data:=#[]},x,.int .i64 8])∧Below w.heap.size w w':=by
 refine (qj8 w (by omega) hrd).mono ?_
 rintro e w' ⟨v,rfl,hv,hb⟩;obtain ⟨x,rfl,ho⟩:=qh3 hv
 have e1:cutT l={data:=#[]}:=by unfold cutT;rw [h];rfl
 have e2:qli l=8:=by unfold qli;rw [h]
 rw [e1,e2];exact ⟨x,rfl,hb⟩
end Go.Proofs.YtmeaiocohalphaaGreatDoor

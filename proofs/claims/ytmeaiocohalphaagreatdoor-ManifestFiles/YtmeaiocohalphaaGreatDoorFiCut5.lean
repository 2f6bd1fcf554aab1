/-
  What files.Read does: files are cut from bytes; Read.
-/
import Derived.Test.YtmeaiocohalphaaGreatDoorFiRef1
import Derived.Test.YtmeaiocohalphaaGreatDoorMathFi3
set_option maxHeartbeats 4000000
set_option maxRecDepth 100000
namespace Go.Proofs.YtmeaiocohalphaaGreatDoor
open Go.RowKit
set_option linter.all false
def FileAt (w:World) (q:Nat) (s:ByteArray) (y:Value):Prop:=w.heap[q]? =some (.cells #[.string s,y] 98 (0,0))
theorem FileAt.carry {w w':World} {q:Nat} {s:ByteArray} {y:Value} (h:FileAt w q s y) (hb:Below w.heap.size w w'):FileAt w' q s y:=(hb.block q (Array.getElem?_eq_some_iff.1 h).1).trans h
theorem FileAt.cell1 {w:World} {q:Nat} {s:ByteArray} {y:Value} (h:FileAt w q s y):w.cell? ⟨q,1,none⟩=some y:=by rw [cell_of_row w q 1 _ _ (0,0) h];rfl
theorem FileAt.cell0 {w:World} {q:Nat} {s:ByteArray} {y:Value} (h:FileAt w q s y):w.cell? ⟨q,0,none⟩=some (.string s):=by rw [cell_of_row w q 0 _ _ (0,0) h];rfl
theorem FileAt.new (w:World) (s:ByteArray) (y:Value):FileAt (w.alloc (.cells #[.string s,y] 98)) w.heap.size s y:=heap_alloc_new w _
def RdU (w:World) (v:Value) (l:List UInt8):Prop:=
 (l=[]∧(v=.slice none 0 0∨∃a c,v=.slice (some a) 0 c))∨
 ∃b off c cs,v=.slice (some ⟨b,off,none⟩) l.length c∧l.length≤c∧c≤maxLen∧w.heap[b]? =some (.cells cs 5 (0,0))∧∀j,(h:j<l.length)→w.cell? ⟨b,off+j,none⟩=some (.int .u8 (l[j]).toNat)
theorem RdU.rd {w:World} {v:Value} {l:List UInt8} (h:RdU w v l):Rd w v l:=by
 rcases h with h | ⟨b,off,c,cs,e,h1,h2,_,h3⟩
 ·exact .inl h
 ·exact .inr ⟨b,off,c,e,h1,h2,h3⟩
theorem RdU.carry {w w':World} {v:Value} {l:List UInt8} (h:RdU w v l) (hb:Below w.heap.size w w'):RdU w' v l:=by
 rcases h with h | ⟨b,off,c,cs,e,h1,h2,h4,h3⟩
 ·exact .inl h
 ·exact .inr ⟨b,off,c,cs,e,h1,h2,(hb.block b (Array.getElem?_eq_some_iff.1 h4).1).trans h4,fun j hj=>by rw [hb.cell (World.block_lt_of_cell? w _ (h3 j hj))];exact h3 j hj⟩
theorem OwBy.rdU {w:World} {base:Nat} {v:Value} {l:List UInt8} (h:OwBy w base v l):RdU w v l:=by
 rcases h.2 with ⟨rfl,hn⟩ | ⟨g,cap,cur,rfl,_,hg,hn,hm,hsz,htake⟩
 ·exact .inl ⟨List.length_eq_zero_iff.1 hn,.inl rfl⟩
 ·refine .inr ⟨g,0,cap,cur,rfl,hn,hm,hg,fun j hj=>?_⟩
  have:=h.cells (g:=g) rfl j (.int .u8 (l[j]).toNat) (by simp [u8v,List.getElem?_eq_getElem hj])
  simpa [Addr.add_lit] using this
def KeepT (t0:TypeId) (w w':World):Prop:=∀(k:Nat) (cs:Array Value) (t:TypeId) (fr:Nat × Nat),t≠t0→w.heap[k]? =some (Obj.cells cs t fr)→w'.heap[k]? =some (Obj.cells cs t fr)
theorem RdU.keepT {w w':World} {v:Value} {l:List UInt8} (h:RdU w v l) {t0:TypeId} (ht:5≠t0) (hk:KeepT t0 w w'):RdU w' v l:=by
 rcases h with h | ⟨b,off,c,cs,e,h1,h2,h4,h3⟩
 ·exact .inl h
 ·have h5:=hk b cs _ _ ht h4
  refine .inr ⟨b,off,c,cs,e,h1,h2,h5,fun j hj=>?_⟩;rw [cell_of_row w' b _ _ _ (0,0) h5,←cell_of_row w b _ _ _ (0,0) h4];exact h3 j hj
def SubX (v:Value) (l:List UInt8) (v':Value) (r:List UInt8):Prop:=(∀wx,Rd wx v l→Rd wx v' r)∧∀wx,RdU wx v l→RdU wx v' r
theorem SubX.refl (v:Value) (l:List UInt8):SubX v l v l:=⟨fun _ h=>h,fun _ h=>h⟩
theorem SubX.trans {v v1 v2:Value} {l l1 l2:List UInt8} (h:SubX v l v1 l1) (k:SubX v1 l1 v2 l2):SubX v l v2 l2:=⟨fun w h'=>k.1 w (h.1 w h'),fun w h'=>k.2 w (h.2 w h')⟩
theorem qqa {b off n c k:Nat} {l:List UInt8} (hn:n=l.length) (hc:n≤c) (hm:c≤maxLen) (hk:k≤n) (hkc:k≠c):SubX (.slice (some ⟨b,off,none⟩) n c) l (.slice (some ⟨b,off+k,none⟩) (l.drop k).length (c - k)) (l.drop k):=by
 subst hn;have hl:(l.drop k).length=l.length - k:=List.length_drop
 have key:∀(wx:World) (b' off' c':Nat),Value.slice (some ⟨b,off,none⟩) l.length c=.slice (some ⟨b',off',none⟩) l.length c'→(∀j,(h:j<l.length)→wx.cell? ⟨b',off'+j,none⟩=some (.int .u8 (l[j]).toNat))→∀j,(h:j<(l.drop k).length)→wx.cell? ⟨b,off+k+j,none⟩=some (.int .u8 ((l.drop k)[j]).toNat):=by
  intro wx b' off' c' e h j hj;cases e;rw [List.getElem_drop,Nat.add_assoc];exact h (k+j) (by omega)
 refine ⟨fun wx h=>?_,fun wx h=>?_⟩
 ·rcases h with ⟨h,_⟩ | ⟨b',off',c',e,h1,h2,h3⟩
  ·have:l.drop k=[]:=by rw [h];simp
   rw [this];exact .inl ⟨rfl,.inr ⟨_,_,rfl⟩⟩
  ·exact .inr ⟨b,off+k,c - k,rfl,by omega,by omega,key wx b' off' c' e h3⟩
 ·rcases h with ⟨h,_⟩ | ⟨b',off',c',cs,e,h1,h2,h4,h3⟩
  ·have:l.drop k=[]:=by rw [h];simp
   rw [this];exact .inl ⟨rfl,.inr ⟨_,_,rfl⟩⟩
  ·have e':=e
   cases e';exact .inr ⟨b,off+k,c - k,cs,rfl,by omega,by omega,h4,key wx b off c e h3⟩
theorem qqb {a:Addr} {n c:Nat} {l:List UInt8} {r:List UInt8} (hr:r=[]) (c':Nat):SubX (.slice (some a) n c) l (.slice (some a) r.length c') r:=by
 subst hr;exact ⟨fun _ _=>.inl ⟨rfl,.inr ⟨_,_,rfl⟩⟩,fun _ _=>.inl ⟨rfl,.inr ⟨_,_,rfl⟩⟩⟩
theorem qakn {l r:List UInt8} {m:Nat} (h:cnum l=some (m,r)):∃k,rd l=some (m,k)∧m≤4096∧r=l.drop k:=by
 unfold cnum at h
 cases e:rd l with
 | none=>rw [e] at h;cases h
 | some p=>
  obtain ⟨n,k⟩:=p;rw [e] at h
  simp only at h
  by_cases hm:n≤4096
  ·rw [if_pos hm] at h
   injection h with h
   injection h with e1 e2
   subst e1 e2;exact ⟨k,rfl,hm,rfl⟩
  ·rw [if_neg hm] at h;cases h
theorem qej (a:Option Addr) (n c:Nat) (l r:List UInt8) (m:Nat) (w:World) (hrd:Rd w (.slice a n c) l) (h:cnum l=some (m,r)):
  Calls Tryz.prog 256 #[.slice a n c] w fun e w'=>∃a2 c2,e=.returned (.tuple #[.int .i64 m,.slice a2 r.length c2,.int .i64 0])∧SubX (.slice a n c) l (.slice a2 r.length c2) r∧Below w.heap.size w w':=by
 obtain ⟨k,e1,e2,e3⟩:=qakn h;have hread:=qly w hrd;rw [e1] at hread;unfold rdV at hread;obtain ⟨hk0,hkl,hk10,hn64⟩:=qhj e1;have HE:=hide e3
 rcases hrd with ⟨hl,_⟩ | ⟨b,off,c',e,h1,h2,h3⟩
 ·rw [hl] at hkl;simp at hkl;omega
 obtain ⟨nn,hnn⟩:∃nn,nn=l.length:=⟨_,rfl⟩;rw [←hnn] at e h1 hkl;cases e
 have g1:decide ((4096:Int)<m)=false:=by simpa using (by omega:¬(4096:Int)<m)
 have g2:IntKind.i64.wrap (m:Int)=m:=by rw [IntKind.wrap_i64];omega
 have g3:(k:Int)≤n:=by omega
 have g4:(0:Int)≤k:=by omega
 have g5:(n:Int)≤c:=by omega
 unfold maxLen at h2
 by_cases hck:k=c
 ·have HX:=hide (show SubX (.slice (some ⟨b,off,none⟩) n c) l (.slice (some ⟨b,off,none⟩) r.length 0) r from qqb (by rw [e3];exact List.drop_of_length_le (by omega)) 0)
  have hrl:r.length=0:=by rw [e3,List.length_drop];omega
  have hkn:n=k:=by omega
  subst hck;subst hkn;rw [hrl] at HX ⊢;clear h3 e3 h e1 hnn hrl hkl h1 h2
  go_enter Tryz.func256,Tryz.ntmps256
  go_wp2_with fail
  refine hread.mono ?_
  rintro e w1 ⟨rfl,rfl⟩;clear hread;go_wp2
  go_quiet (fail)
  go_wp2;go_ret3;exact ⟨some ⟨b,off,none⟩,0,by simp_all,HX.out,below_drewN (Below.refl _ _) _⟩
 ·have HX:=hide (show SubX (.slice (some ⟨b,off,none⟩) n c) l (.slice (some ⟨b,off+k,none⟩) r.length (c - k)) r by rw [e3];exact qqa hnn h1 (by unfold maxLen;omega) hkl hck)
  have HRL:=hide (show r.length=n - k by rw [e3,List.length_drop,←hnn]);clear h3 e3 h e1 hnn
  go_enter Tryz.func256,Tryz.ntmps256
  go_wp2_with fail
  refine hread.mono ?_
  rintro e w1 ⟨rfl,rfl⟩;clear hread;go_wp2
  go_quiet (fail)
  go_wp2;go_ret3;exact ⟨some ⟨b,off+k,none⟩,c - k,by rw [HRL.out];simp,HX.out,below_drewN (Below.refl _ _) _⟩
theorem qfn (a:Option Addr) (n c:Nat) (l:List UInt8) (w:World) (hrd:Rd w (.slice a n c) l) (h:cnum l=none):
  Calls Tryz.prog 256 #[.slice a n c] w fun e w'=>e=.returned (.tuple #[.int .i64 0,.slice none 0 0,.int .i64 8])∧Below w.heap.size w w':=by
 have hread:=qly w hrd
 cases e:rd l with
 | none=>
  rw [e] at hread;unfold rdV at hread;clear hrd h e
  go_enter Tryz.func256,Tryz.ntmps256
  go_wp2_with fail
  refine hread.mono ?_
  rintro e w1 ⟨rfl,rfl⟩;clear hread;go_wp2;go_ret3;exact ⟨rfl,Below.refl _ _⟩
 | some p=>
  obtain ⟨m,k⟩:=p;rw [e] at hread;unfold rdV at hread
  have hm:4096<m:=by
   unfold cnum at h;rw [e] at h
   simp only at h
   by_cases hm:m≤4096
   ·rw [if_pos hm] at h;cases h
   ·omega
  have g1:(4096:Int)<m:=by omega
  clear hrd h e
  go_enter Tryz.func256,Tryz.ntmps256
  go_wp2_with fail
  refine hread.mono ?_
  rintro e w1 ⟨rfl,rfl⟩;clear hread;go_wp2;go_ret3;exact ⟨rfl,Below.refl _ _⟩
def ExtAt (w:World) (q:Nat) (x y:Value):Prop:=w.heap[q]? =some (.cells #[x,y] 237 (0,0))
theorem ExtAt.carry {w w':World} {q:Nat} {x y:Value} (h:ExtAt w q x y) (hb:Below w.heap.size w w'):ExtAt w' q x y:=(hb.block q (Array.getElem?_eq_some_iff.1 h).1).trans h
theorem ExtAt.cell0 {w:World} {q:Nat} {x y:Value} (h:ExtAt w q x y):w.cell? ⟨q,0,none⟩=some x:=by rw [cell_of_row w q 0 _ _ (0,0) h];rfl
theorem ExtAt.cell1 {w:World} {q:Nat} {x y:Value} (h:ExtAt w q x y):w.cell? ⟨q,1,none⟩=some y:=by rw [cell_of_row w q 1 _ _ (0,0) h];rfl
theorem ExtAt.new (w:World) (x y:Value):ExtAt (w.alloc (.cells #[x,y] 237)) w.heap.size x y:=heap_alloc_new w _
theorem ExtAt.put {w:World} {q:Nat} {x y:Value} (h:ExtAt w q x y) (u v:Value):ExtAt ((w.setCell ⟨q,0,none⟩ u).setCell ⟨q,1,none⟩ v) q u v:=by
 have a1:=heap_setCell_same w q 0 _ 237 u h;have a2:=heap_setCell_same (w.setCell ⟨q,0,none⟩ u) q 1 _ 237 v a1;unfold ExtAt
 rw [a2];rfl
theorem qy9 {l r:List UInt8} {x:Ex} (h:cext l=some (x,r)):∃(m1 m2:Nat) (q:List UInt8),cnum l=some (m1,q)∧cnum q=some (m2,r)∧x=((m1:Int),(m2:Int)):=by
 unfold cext at h
 cases e:cnum l with
 | none=>rw [e] at h;cases h
 | some p=>
  obtain ⟨m,q⟩:=p;rw [e] at h
  simp only at h
  cases e2:cnum q with
  | none=>rw [e2] at h;cases h
  | some p=>
   obtain ⟨m2,q2⟩:=p;rw [e2] at h
   simp only at h
   injection h with h
   injection h with h1 h2
   subst h1 h2;exact ⟨m,m2,q,rfl,e2,rfl⟩
theorem qaf9 {l:List UInt8} (h:cext l=none):cnum l=none∨∃m q,cnum l=some (m,q)∧cnum q=none:=by
 unfold cext at h
 cases e:cnum l with
 | none=>exact .inl rfl
 | some p=>
  obtain ⟨m,q⟩:=p;rw [e] at h
  simp only at h
  cases e2:cnum q with
  | none=>exact .inr ⟨m,q,rfl,e2⟩
  | some p=>
   obtain ⟨m2,q2⟩:=p;rw [e2] at h;cases h
theorem quv (a:Option Addr) (n c:Nat) (l r:List UInt8) (x:Ex) (w:World) (hrd:Rd w (.slice a n c) l) (h:cext l=some (x,r)):
  Calls Tryz.prog 276 #[.slice a n c] w fun e w'=>∃a2 c2,e=.returned (.tuple #[.agg #[.int .i64 x.1,.int .i64 x.2],.slice a2 r.length c2,.int .i64 0])∧SubX (.slice a n c) l (.slice a2 r.length c2) r∧Below w.heap.size w w':=by
 obtain ⟨m1,m2,q,e1,e2,rfl⟩:=qy9 h;obtain ⟨W0,hW0⟩:∃W0,W0=w.alloc (.cells #[.int .i64 0,.int .i64 0] 237):=⟨_,rfl⟩
 have hb0:Below w.heap.size w W0:=by rw [hW0];exact (Below.refl _ _).alloc (Nat.le_refl _) _
 have HX0:=hide (show ExtAt W0 w.heap.size (.int .i64 0) (.int .i64 0) by rw [hW0];exact ExtAt.new w _ _);have HR:=hide hrd;have HB0:=hide hb0;have hc1:=qej a n c l q m1 W0 (hrd.carry hb0) e1;have HE2:=hide e2;clear hrd hb0 h e1 e2
 go_enter Tryz.func276,Tryz.ntmps276
 go_wp2_with fail
 rw [←hW0];clear hW0
 refine hc1.mono ?_
 rintro e w1 ⟨a1,c1,rfl,s1,b1⟩;have HB1:=bT HB0 b1;have HX1:=hide (HX0.out.carry b1);have HS1:=hide s1;clear hc1 b1 s1 HX0 HB0;obtain ⟨p1,hp1⟩:∃p,p=q.length:=⟨_,rfl⟩;rw [←hp1] at HS1 ⊢;clear hp1
 go_wp2_with fail
 refine (qej a1 p1 c1 q r m2 w1 (HS1.out.1 _ (HR.out.carry HB1.out)) HE2.out).mono ?_
 rintro e w2 ⟨a2,c2,rfl,s2,b2⟩;have HB2:=bT HB1 b2;have HX2:=hide (HX1.out.carry b2);have HS2:=hide (HS1.out.trans s2);clear b2 s2 HX1 HB1 HS1;obtain ⟨p2,hp2⟩:∃p,p=r.length:=⟨_,rfl⟩;rw [←hp2] at HS2 ⊢;have HPP2:=hide hp2;clear hp2;have x0:=HX2.out.cell0;have x1:=HX2.out.cell1;have z0:=frozen_of_row w2 w.heap.size 0 _ _ HX2.out;have z1:=frozen_of_row w2 w.heap.size 1 _ _ HX2.out;have hp:=HX2.out.put (.int .i64 m1) (.int .i64 m2);have hg:=qbw (w:=w2) (q:=w.heap.size) (.int .i64 m1) (.int .i64 m2);have HBE:=hide (HB2.out.grown hg HB2.out.size (by intro k hk;cases hk;omega));have y0:=hp.cell0;have y1:=hp.cell1;clear hp hg;go_wp2;obtain ⟨w9,hw9⟩:∃w9,w9=(w2.setCell ⟨w.heap.size,0,none⟩ (.int .i64 m1)).setCell ⟨w.heap.size,1,none⟩ (.int .i64 m2):=⟨_,rfl⟩;rw [←hw9] at y0 y1 HBE ⊢
 try simp only [Exit.inBlock,Exit.then]
 refine bodyPost_ret (v:=.tuple #[.agg #[.int .i64 m1,.int .i64 m2],.slice a2 p2 c2,.int .i64 0]) ?_ rfl ⟨a2,c2,by rw [←HPP2.out],by rw [←HPP2.out];exact HS2.out,HBE.out⟩
 clear hw9 x0 x1 z0 z1
 simp [results,Tryz.results276,go_sem, *]
theorem quw (a:Option Addr) (n c:Nat) (l:List UInt8) (w:World) (hrd:Rd w (.slice a n c) l) (h:cext l=none):
  Calls Tryz.prog 276 #[.slice a n c] w fun e w'=>e=.returned (.tuple #[.agg #[.int .i64 0,.int .i64 0],.slice none 0 0,.int .i64 8])∧Below w.heap.size w w':=by
 obtain ⟨W0,hW0⟩:∃W0,W0=w.alloc (.cells #[.int .i64 0,.int .i64 0] 237):=⟨_,rfl⟩
 have hb0:Below w.heap.size w W0:=by rw [hW0];exact (Below.refl _ _).alloc (Nat.le_refl _) _
 have HX0:=hide (show ExtAt W0 w.heap.size (.int .i64 0) (.int .i64 0) by rw [hW0];exact ExtAt.new w _ _);have HR:=hide hrd;have HB0:=hide hb0
 rcases qaf9 h with h1 | ⟨m,q,h1,h2⟩
 ·have hc1:=qfn a n c l W0 (hrd.carry hb0) h1
  clear hrd hb0 h h1
  go_enter Tryz.func276,Tryz.ntmps276
  go_wp2_with fail
  rw [←hW0];clear hW0
  refine hc1.mono ?_
  rintro e w2 ⟨rfl,b1⟩;have HB2:=bT HB0 b1;have HX2:=hide (HX0.out.carry b1);clear hc1 b1 HX0 HB0;have x0:=HX2.out.cell0;have x1:=HX2.out.cell1;have z0:=frozen_of_row w2 w.heap.size 0 _ _ HX2.out;have z1:=frozen_of_row w2 w.heap.size 1 _ _ HX2.out;have hp:=HX2.out.put (.int .i64 0) (.int .i64 0);have hg:=qbw (w:=w2) (q:=w.heap.size) (.int .i64 0) (.int .i64 0);have HBE:=hide (HB2.out.grown hg HB2.out.size (by intro k hk;cases hk;omega));have y0:=hp.cell0;have y1:=hp.cell1;clear hp hg;go_wp2;obtain ⟨w9,hw9⟩:∃w9,w9=(w2.setCell ⟨w.heap.size,0,none⟩ (.int .i64 0)).setCell ⟨w.heap.size,1,none⟩ (.int .i64 0):=⟨_,rfl⟩;rw [←hw9] at y0 y1 HBE ⊢
  try simp only [Exit.inBlock,Exit.then]
  refine bodyPost_ret (v:=.tuple #[.agg #[.int .i64 0,.int .i64 0],.slice none 0 0,.int .i64 8]) ?_ rfl ⟨rfl,HBE.out⟩
  clear hw9 x0 x1 z0 z1
  simp [results,Tryz.results276,go_sem, *]
 ·have hc1:=qej a n c l q m W0 (hrd.carry hb0) h1
  have HE2:=hide h2;clear hrd hb0 h h1 h2
  go_enter Tryz.func276,Tryz.ntmps276
  go_wp2_with fail
  rw [←hW0];clear hW0
  refine hc1.mono ?_
  rintro e w1 ⟨a1,c1,rfl,s1,b1⟩;have HB1:=bT HB0 b1;have HX1:=hide (HX0.out.carry b1);have HS1:=hide s1;clear hc1 b1 s1 HX0 HB0;obtain ⟨p1,hp1⟩:∃p,p=q.length:=⟨_,rfl⟩;rw [←hp1] at HS1 ⊢;clear hp1
  go_wp2_with fail
  refine (qfn a1 p1 c1 q w1 (HS1.out.1 _ (HR.out.carry HB1.out)) HE2.out).mono ?_
  rintro e w2 ⟨rfl,b2⟩;have HB2:=bT HB1 b2;have HX2:=hide (HX1.out.carry b2);clear b2 HX1 HB1 HS1;have x0:=HX2.out.cell0;have x1:=HX2.out.cell1;have z0:=frozen_of_row w2 w.heap.size 0 _ _ HX2.out;have z1:=frozen_of_row w2 w.heap.size 1 _ _ HX2.out;have hp:=HX2.out.put (.int .i64 0) (.int .i64 0);have hg:=qbw (w:=w2) (q:=w.heap.size) (.int .i64 0) (.int .i64 0);have HBE:=hide (HB2.out.grown hg HB2.out.size (by intro k hk;cases hk;omega));have y0:=hp.cell0;have y1:=hp.cell1;clear hp hg;go_wp2;obtain ⟨w9,hw9⟩:∃w9,w9=(w2.setCell ⟨w.heap.size,0,none⟩ (.int .i64 0)).setCell ⟨w.heap.size,1,none⟩ (.int .i64 0):=⟨_,rfl⟩;rw [←hw9] at y0 y1 HBE ⊢
  try simp only [Exit.inBlock,Exit.then]
  refine bodyPost_ret (v:=.tuple #[.agg #[.int .i64 0,.int .i64 0],.slice none 0 0,.int .i64 8]) ?_ rfl ⟨rfl,HBE.out⟩
  clear hw9 x0 x1 z0 z1
  simp [results,Tryz.results276,go_sem, *]
theorem qw7 {w w':World} {base:Nat} {e:TypeId} {size:Nat} {v:Value} {n:Nat} {xs:List Value} (q:w.ownsRow base e size v n xs) (hg:w.grownBy w' v.ownBlock):KeepT e w w':=fun k cs t fr ht hk=>by
 have hlt:=(Array.getElem?_eq_some_iff.1 hk).1;rw [hg.block k hlt ?_]
 ·exact hk
 ·intro e0
  rcases q.2 with ⟨rfl,_⟩ | ⟨g,cap,cur,rfl,_,hgc,_⟩
  ·cases e0
  ·cases e0
   rw [hk] at hgc;cases hgc;exact ht rfl
theorem KeepT.below {t0:TypeId} {w w':World} (h:Below w.heap.size w w'):KeepT t0 w w':=fun k cs t fr _ hk=>by rw [h.block k (Array.getElem?_eq_some_iff.1 hk).1];exact hk
theorem KeepT.trans {t0:TypeId} {w w1 w2:World} (h:KeepT t0 w w1) (k:KeepT t0 w1 w2):KeepT t0 w w2:=fun i cs t fr ht hi=>k i cs t fr ht (h i cs t fr ht hi)
theorem KeepT.set {w:World} {q i:Nat} {cs:Array Value} {t0:TypeId} {u:Value} (h:w.heap[q]? =some (.cells cs t0 (0,0))):KeepT t0 w (w.setCell ⟨q,i,none⟩ u):=fun k ds t fr ht hk=>by
 have:k≠q:=by
  rintro rfl;rw [h] at hk;cases hk;exact ht rfl
 exact (heap_setCell_other w ⟨q,i,none⟩ k u this).trans hk
theorem qw8 {w:World} {base:Nat} {v:Value} {l:List Ex} (h:OwE w base v l) (hb:base≤w.heap.size) (hl:l.length≤1000000) (x y:Int):
  ∃g c w',(Builtin.append_ #[96,96] 96 #[v,.slice (some ⟨w.heap.size,0,none⟩) 1 1]).run Tryz.prog (w.alloc (.cells #[.int .i64 x,.int .i64 y] 237))=.ok (.slice (some ⟨g,0,none⟩) (l.length+1) c) w'∧
   OwE w' base (.slice (some ⟨g,0,none⟩) (l.length+1) c) (l++[(x,y)])∧Below base w w'∧KeepT 237 w w':=by
 obtain ⟨w8,ew8⟩:∃w8,w8=w.alloc (.cells #[.int .i64 x,.int .i64 y] 237):=⟨_,rfl⟩;have hn8:=qe7 w #[.int .i64 x,.int .i64 y] 237;rw [←ew8] at hn8 ⊢
 have hb8:Below w.heap.size w w8:=by rw [ew8];exact (Below.refl _ _).alloc (Nat.le_refl _) _
 obtain ⟨i0,hi,hz0,hz1,hz2⟩:=info_parts Tryz.infoEx;have q2:w8.ownsRow base 237 2 v l.length (cellsE l):=qa7 h hb8
 obtain ⟨v9,w9,hrun9,hown9,hg9,_⟩:=run_append_own (P:=Tryz.prog) w8 base 96 96 237 i0 _ 2 16 Tryz.underlying96 hi hz0 hz1 hz2 rfl (by decide) _ _ _ q2 ⟨w.heap.size,0,none⟩ 1 1 [.int .i64 x,.int .i64 y] rfl hn8 (by
  intro u hu
  simp at hu
  rcases hu with rfl | rfl<;>rfl) (by unfold maxLen;omega) (by omega) (Nat.le_trans hb hb8.size)
 have hb9:Below base w w9:=(hb8.mono hb).grown hg9 (Nat.le_trans hb hb8.size) fun k hk=>(q2.lt k hk).1
 have e:cellsE (l++[(x,y)])=cellsE l++[.int .i64 x,.int .i64 y]:=by rw [qd0];rfl
 have hle:(l++[(x,y)]).length=l.length+1:=by simp
 rcases hown9.2 with ⟨_,h0⟩ | ⟨g,cap,cur,h0,_⟩
 ·exact absurd h0 (by omega)
 ·subst h0
  exact ⟨g,cap,w9,hrun9,by unfold OwE;rw [hle,e];exact hown9,hb9,(KeepT.below hb8).trans (qw7 q2 hg9)⟩
theorem qsi {w:World} {base:Nat} {v:Value} {fs:List Fl} (h:OwF w base v fs) (hb:base≤w.heap.size) (hl:fs.length≤1000000) (s:List UInt8) (x:Value) (l:List Ex) (hx:OwE w base x l):
  ∃g c w',(Builtin.append_ #[29,29] 29 #[v,.slice (some ⟨w.heap.size,0,none⟩) 1 1]).run Tryz.prog (w.alloc (.cells #[.string (bs s),x] 98))=.ok (.slice (some ⟨g,0,none⟩) (fs.length+1) c) w'∧
   OwF w' base (.slice (some ⟨g,0,none⟩) (fs.length+1) c) (fs++[(s,l)])∧Below base w w'∧KeepT 98 w w':=by
 obtain ⟨ps,rfl,h⟩:=h;rw [List.length_map] at hl;obtain ⟨w8,ew8⟩:∃w8,w8=w.alloc (.cells #[.string (bs s),x] 98):=⟨_,rfl⟩;have hn8:=qe7 w #[.string (bs s),x] 98;rw [←ew8] at hn8 ⊢
 have hb8:Below w.heap.size w w8:=by rw [ew8];exact (Below.refl _ _).alloc (Nat.le_refl _) _
 obtain ⟨i0,hi,hz0,hz1,hz2⟩:=info_parts Tryz.infoFl;have q2:w8.ownsRow base 98 2 v ps.length (qal ps):=qa7 h.1 hb8
 obtain ⟨v9,w9,hrun9,hown9,hg9,_⟩:=run_append_own (P:=Tryz.prog) w8 base 29 29 98 i0 _ 2 40 Tryz.underlying29 hi hz0 hz1 hz2 rfl (by decide) _ _ _ q2 ⟨w.heap.size,0,none⟩ 1 1 [.string (bs s),x] rfl hn8 (by
  intro u hu
  simp at hu
  rcases hu with rfl | rfl
  ·rfl
  ·exact hx.ownForm) (by unfold maxLen;omega) (by omega) (Nat.le_trans hb hb8.size)
 have hb9:Below base w w9:=(hb8.mono hb).grown hg9 (Nat.le_trans hb hb8.size) fun k hk=>(q2.lt k hk).1
 have e:qal (ps++[((s,l),x)])=qal ps++[.string (bs s),x]:=by rw [qdb];rfl
 have hle:(ps++[((s,l),x)]).length=ps.length+1:=by simp
 have hin:∀p∈ps++[((s,l),x)],OwE w9 base p.2 p.1.2:=by
  intro p hp
  have h0:OwE w8 base p.2 p.1.2:=by
   rcases List.mem_append.1 hp with hp | hp
   ·exact (h.2 p hp).carry hb8
   ·obtain rfl:p=((s,l),x):=by simpa using hp
    exact hx.carry hb8
  exact h0.keptF q2 hg9
 rcases hown9.2 with ⟨_,h0⟩ | ⟨g,cap,cur,h0,_⟩
 ·exact absurd h0 (by omega)
 ·subst h0
  rw [List.length_map];exact ⟨g,cap,w9,hrun9,⟨ps++[((s,l),x)],by simp,by rw [hle,e];exact hown9,hin⟩,hb9,(KeepT.below hb8).trans (qw7 q2 hg9)⟩
theorem qaga (a:Option Addr) (n c:Nat) (l s r:List UInt8) (w:World) (hl:l.length≤1000000) (hrd:Rd w (.slice a n c) l) (h:ct l=some (s,r)):
  Calls Tryz.prog 105 #[.slice a n c] w fun e w'=>∃a2 c2,e=.returned (.tuple #[.string (bs s),.slice a2 r.length c2,.int .i64 0])∧OwBy w' w.heap.size (.slice a2 r.length c2) r∧Below w.heap.size w w':=by
 refine (qkp w (by omega) hrd).mono ?_
 rintro e w' ⟨v,rfl,hv,hb⟩;obtain ⟨x,rfl,ho⟩:=qe6 hv
 have e1:cutT l=bs s:=by unfold cutT;rw [h]
 have e2:qhq l=0:=by unfold qhq;rw [h]
 have e3:cutR l=r:=by unfold cutR;rw [h]
 rw [e3] at ho;rw [e1,e2]
 obtain ⟨a2,c2,rfl⟩:∃a2 c2,x=.slice a2 r.length c2:=by
  rcases ho.2 with ⟨rfl,hn⟩ | ⟨g,cap,cur,rfl,_⟩
  ·exact ⟨none,0,by rw [hn]⟩
  ·exact ⟨_,_,rfl⟩
 exact ⟨a2,c2,rfl,ho,hb⟩
theorem qab0 (a:Option Addr) (n c:Nat) (l:List UInt8) (w:World) (hl:l.length≤1000000) (hrd:Rd w (.slice a n c) l) (h:ct l=none):
  Calls Tryz.prog 105 #[.slice a n c] w fun e w'=>∃x,e=.returned (.tuple #[.string {data:=#[]},x,.int .i64 8])∧Below w.heap.size w w':=by
 refine (qkp w (by omega) hrd).mono ?_
 rintro e w' ⟨v,rfl,hv,hb⟩;obtain ⟨x,rfl,ho⟩:=qe6 hv
 have e1:cutT l={data:=#[]}:=by unfold cutT;rw [h];rfl
 have e2:qhq l=8:=by unfold qhq;rw [h]
 rw [e1,e2];exact ⟨x,rfl,hb⟩
abbrev qw9:Value:=.agg #[.string {data:=#[]},.slice none 0 0]
def FileP (l:List UInt8) (w w':World) (e:Ending):Prop:=
 (∃s es r a5 c5 a6 c6,qfg l=some ((s,es),r)∧e=.returned (.tuple #[.agg #[.string (bs s),.slice a5 es.length c5],.slice a6 r.length c6,.int .i64 0])∧OwE w' w.heap.size (.slice a5 es.length c5) es∧RdU w' (.slice a6 r.length c6) r)∨
 (qfg l=none∧e=.returned (.tuple #[qw9,.slice none 0 0,.int .i64 8]))
theorem qagb {l:List UInt8} (h:ct l=none):qfg l=none:=by unfold qfg;rw [h]
theorem qagc {l s q:List UInt8} (h:ct l=some (s,q)) (h2:cnum q=none):qfg l=none:=by unfold qfg;rw [h];simp only;rw [h2]
theorem qagd {l s q q2:List UInt8} {m:Nat} (h:ct l=some (s,q)) (h2:cnum q=some (m,q2)):qfg l=(match qff m q2 with | none=>none | some (es,z)=>some ((s,es),z)):=by
 unfold qfg;rw [h]
 simp only
 rw [h2];rfl
theorem FileAt.put {w:World} {q:Nat} {s:ByteArray} {y:Value} (h:FileAt w q s y) (u:ByteArray) (v:Value):FileAt ((w.setCell ⟨q,0,none⟩ (.string u)).setCell ⟨q,1,none⟩ v) q u v:=by
 have a1:=heap_setCell_same w q 0 _ 98 (.string u) h;have a2:=heap_setCell_same (w.setCell ⟨q,0,none⟩ (.string u)) q 1 _ 98 v a1;unfold FileAt
 rw [a2];rfl
theorem FileAt.put1 {w:World} {q:Nat} {s:ByteArray} {y:Value} (h:FileAt w q s y) (v:Value):FileAt (w.setCell ⟨q,1,none⟩ v) q s v:=by
 have a1:=heap_setCell_same w q 1 _ 98 v h;unfold FileAt
 rw [a1];rfl
theorem KeepT.two {w:World} {q:Nat} {s u:ByteArray} {y v:Value} (h:FileAt w q s y):KeepT 98 w ((w.setCell ⟨q,0,none⟩ (.string u)).setCell ⟨q,1,none⟩ v):=(KeepT.set h).trans (KeepT.set (heap_setCell_same w q 0 _ 98 (.string u) h))
theorem qux (a:Option Addr) (n c:Nat) (l:List UInt8) (w:World) (hl:l.length≤1000000) (hrd:Rd w (.slice a n c) l):
  Calls Tryz.prog 257 #[.slice a n c] w fun e w'=>FileP l w w' e∧Below w.heap.size w w':=by
 obtain ⟨W0,hW0⟩:∃W0,W0=w.alloc (.cells #[.string {data:=#[]},.slice none 0 0] 98):=⟨_,rfl⟩
 have hb0:Below w.heap.size w W0:=by rw [hW0];exact (Below.refl _ _).alloc (Nat.le_refl _) _
 have HX0:=hide (show FileAt W0 w.heap.size {data:=#[]} (.slice none 0 0) by rw [hW0];exact FileAt.new w _ _);have HB0:=hide hb0
 cases hct:ct l with
 | none=>
  have hc1:=qab0 a n c l W0 hl (hrd.carry hb0) hct;have HP:=hide (qagb hct);clear hrd hb0 hct
  go_enter Tryz.func257,Tryz.ntmps257
  go_wp2_with fail
  rw [←hW0];clear hW0
  refine hc1.mono ?_
  rintro e w2 ⟨x,rfl,b1⟩;have HB2:=bT HB0 b1;have HX2:=hide (HX0.out.carry b1);clear hc1 b1 HX0 HB0;have x0:=HX2.out.cell0;have x1:=HX2.out.cell1;have z0:=frozen_of_row w2 w.heap.size 0 _ _ HX2.out;have z1:=frozen_of_row w2 w.heap.size 1 _ _ HX2.out;have hp:=HX2.out.put {data:=#[]} (.slice none 0 0);have hg:=qbw (w:=w2) (q:=w.heap.size) (.string {data:=#[]}) (.slice none 0 0);have HBE:=hide (HB2.out.grown hg HB2.out.size (by intro k hk;cases hk;omega));have y0:=hp.cell0;have y1:=hp.cell1;clear hp hg;go_wp2;obtain ⟨w9,hw9⟩:∃w9,w9=(w2.setCell ⟨w.heap.size,0,none⟩ (.string {data:=#[]})).setCell ⟨w.heap.size,1,none⟩ (.slice none 0 0):=⟨_,rfl⟩;rw [←hw9] at y0 y1 HBE ⊢
  try simp only [Exit.inBlock,Exit.then]
  refine bodyPost_ret (v:=.tuple #[qw9,.slice none 0 0,.int .i64 8]) ?_ rfl ⟨.inr ⟨HP.out,rfl⟩,HBE.out⟩
  clear hw9 x0 x1 z0 z1
  simp [results,Tryz.results257,go_sem, *]
 | some p=>
  obtain ⟨s,q1⟩:=p;have hc1:=qaga a n c l s q1 W0 hl (hrd.carry hb0) hct;have HCT:=hide hct;clear hrd hb0 hct
  go_enter Tryz.func257,Tryz.ntmps257
  go_wp2_with fail
  rw [←hW0];clear hW0
  refine hc1.mono ?_
  rintro e w1 ⟨a1,c1,rfl,o1,b1⟩;have HB1:=bT HB0 b1;have HX1:=hide (HX0.out.carry b1);have HU1:=hide o1.rdU;clear hc1 b1 o1 HX0 HB0;obtain ⟨p1,hp1⟩:∃p,p=q1.length:=⟨_,rfl⟩;rw [←hp1] at HU1 ⊢;clear hp1
  cases hcn:cnum q1 with
  | none=>
   have HP:=hide (qagc HCT.out hcn);have HCN:=hide hcn;clear hcn
   go_wp2_with fail
   refine (qfn a1 p1 c1 q1 w1 HU1.out.rd HCN.out).mono ?_
   rintro e w2 ⟨rfl,b2⟩;have HB2:=bT HB1 b2;have HX2:=hide (HX1.out.carry b2);clear b2 HX1 HB1;have x0:=HX2.out.cell0;have x1:=HX2.out.cell1;have z0:=frozen_of_row w2 w.heap.size 0 _ _ HX2.out;have z1:=frozen_of_row w2 w.heap.size 1 _ _ HX2.out;have hp:=HX2.out.put {data:=#[]} (.slice none 0 0);have hg:=qbw (w:=w2) (q:=w.heap.size) (.string {data:=#[]}) (.slice none 0 0);have HBE:=hide (HB2.out.grown hg HB2.out.size (by intro k hk;cases hk;omega));have y0:=hp.cell0;have y1:=hp.cell1;clear hp hg;go_wp2;obtain ⟨w9,hw9⟩:∃w9,w9=(w2.setCell ⟨w.heap.size,0,none⟩ (.string {data:=#[]})).setCell ⟨w.heap.size,1,none⟩ (.slice none 0 0):=⟨_,rfl⟩;rw [←hw9] at y0 y1 HBE ⊢
   try simp only [Exit.inBlock,Exit.then]
   refine bodyPost_ret (v:=.tuple #[qw9,.slice none 0 0,.int .i64 8]) ?_ rfl ⟨.inr ⟨HP.out,rfl⟩,HBE.out⟩
   clear hw9 x0 x1 z0 z1
   simp [results,Tryz.results257,go_sem, *]
  | some p=>
   obtain ⟨m,q2⟩:=p;have HCE:=hide (qagd HCT.out hcn);have hmm:m≤4096:=(qfe hcn).1;have HCN:=hide hcn;clear hcn
   go_wp2_with fail
   refine (qej a1 p1 c1 q1 q2 m w1 HU1.out.rd HCN.out).mono ?_
   rintro e w2 ⟨a2,c2,rfl,s2,b2⟩;have HB2:=bT HB1 b2;have HX2:=hide (HX1.out.carry b2);have HU2:=hide (s2.2 _ (HU1.out.carry b2));clear b2 s2 HX1 HB1 HU1;obtain ⟨p2,hp2⟩:∃p,p=q2.length:=⟨_,rfl⟩;rw [←hp2] at HU2 ⊢;have HP2:=hide hp2;clear hp2;obtain ⟨W1,hW1⟩:∃W1,W1=w2.alloc (.cells #[.string (bs s),.slice none 0 0] 98):=⟨_,rfl⟩
   have hbn:Below w2.heap.size w2 W1:=by rw [hW1];exact (Below.refl _ _).alloc (Nat.le_refl _) _
   obtain ⟨F,hF⟩:∃F,F=w2.heap.size:=⟨_,rfl⟩;obtain ⟨R,hR⟩:∃R,R=w.heap.size:=⟨_,rfl⟩;have HF1:=hide (show FileAt W1 F (bs s) (.slice none 0 0) by rw [hW1,hF];exact FileAt.new w2 _ _);have HX3:=hide (show FileAt W1 R {data:=#[]} (.slice none 0 0) by rw [hR];exact HX2.out.carry hbn);have HU3:=hide (HU2.out.carry hbn);have HB3:=bT HB2 hbn;obtain ⟨B,hB⟩:∃B,B=W1.heap.size:=⟨_,rfl⟩;have HSB:=hide (show w.heap.size≤B by rw [hB];exact HB3.out.size)
   have HFR:=hide (show F<B∧R<B∧F≠R∧w.heap.size≤F∧w.heap.size≤R by
    have h1:=(Array.getElem?_eq_some_iff.1 HF1.out).1;have h2:=(Array.getElem?_eq_some_iff.1 HX3.out).1;have h3:=(Array.getElem?_eq_some_iff.1 HX2.out).1;have h4:=HB2.out.size
    omega)
   have hgo:True:=trivial;go_wp2;rw [←hW1];rw [←hF];rw [←hR];clear hW1 hF hR hbn HX2 HU2 HB2 hgo
   go_loopw [35,0] (fun i bv wr=>∃k:Nat,k≤m∧i=.int .i64 k∧∃ab nb cb,bv=.slice ab nb cb∧∃e1 r1 ve,Hid (qff k q2=some (e1,r1))∧Hid (nb=r1.length)∧Hid (RdU wr (.slice ab nb cb) r1)∧Hid (FileAt wr F (bs s) ve)∧Hid (OwE wr B ve e1)∧Hid (FileAt wr R {data:=#[]} (.slice none 0 0))∧Hid (Below w.heap.size w wr)∧Hid (B≤wr.heap.size)) (fun i _ _=>m - (intOf i).toNat)
   case atStart=>exact ⟨0,Nat.zero_le _,rfl,a2,p2,c2,rfl,[],q2,.slice none 0 0,hide rfl,HP2,HU3,HF1,hide (OwE.nil _ _),HX3,HB3,hide (Nat.le_of_eq hB)⟩
   case round=>
    obtain ⟨k,hk,rfl,ab,nb,cb,rfl,e1,r1,ve,hce,hnb,hu,hfa,hoe,hx,hbw,hbs⟩:=hrel
    by_cases hlt:k<m
    ·have hlt':(k:Int)<m:=by omega
     cases hcx:cext r1 with
     | none=>
      have HP:=hide (show qfg l=none by rw [HCE.out,qaao hce.out hcx hlt]);have hc3:=quw ab nb cb r1 wr hu.out.rd hcx;clear hcx
      go_wp2_with fail
      refine hc3.mono ?_
      rintro e w3 ⟨rfl,b3⟩;have HB4:=bT hbw b3;have HX4:=hide (hx.out.carry b3);obtain ⟨w4,hw4⟩:∃w4,w4=w3.alloc (.cells #[.int .i64 0,.int .i64 0] 237):=⟨_,rfl⟩
      have hb4:Below w3.heap.size w3 w4:=by rw [hw4];exact (Below.refl _ _).alloc (Nat.le_refl _) _
      have HB5:=bT HB4 hb4;have HX5:=hide (HX4.out.carry hb4);clear hc3 b3 hb4 HB4 HX4;have x0:=HX5.out.cell0;have x1:=HX5.out.cell1;have z0:=frozen_of_row w4 R 0 _ _ HX5.out;have z1:=frozen_of_row w4 R 1 _ _ HX5.out;have hp:=HX5.out.put {data:=#[]} (.slice none 0 0);have hg:=qbw (w:=w4) (q:=R) (.string {data:=#[]}) (.slice none 0 0);have HBE:=hide (HB5.out.grown hg HB5.out.size (by intro k hk;cases hk;exact HFR.out.2.2.2.2));have y0:=hp.cell0;have y1:=hp.cell1;clear hp hg;rw [hw4] at x0 x1 z0 z1;go_wp2
      try rw [←hw4]
      obtain ⟨w9,hw9⟩:∃w9,w9=(w4.setCell ⟨R,0,none⟩ (.string {data:=#[]})).setCell ⟨R,1,none⟩ (.slice none 0 0):=⟨_,rfl⟩;rw [←hw9] at y0 y1 HBE ⊢
      try simp only [Exit.inBlock,Exit.then]
      refine bodyPost_ret (v:=.tuple #[qw9,.slice none 0 0,.int .i64 8]) ?_ rfl ⟨.inr ⟨HP.out,rfl⟩,HBE.out⟩
      clear hw9 x0 x1 z0 z1 hw4
      simp [results,Tryz.results257,go_sem, *]
     | some p=>
      obtain ⟨x,r2⟩:=p;have HNX:=hide (qym hce.out hcx);have hel:=(qk9 _ _ _ _ hce.out).1;have hc3:=quv ab nb cb r1 r2 x wr hu.out.rd hcx;clear hcx;obtain ⟨x,y⟩:=x
      go_wp2_with fail
      refine hc3.mono ?_
      rintro e w3 ⟨a4,c4,rfl,s4,b3⟩;have HB4:=bT hbw b3;obtain ⟨w4,hw4⟩:∃w4,w4=w3.alloc (.cells #[.int .i64 x,.int .i64 y] 237):=⟨_,rfl⟩
      have hb4:Below w3.heap.size w3 w4:=by rw [hw4];exact (Below.refl _ _).alloc (Nat.le_refl _) _
      have hb34:Below wr.heap.size wr w4:=b3.trans (hb4.mono b3.size);have HU5:=hide (s4.2 _ (hu.out.carry hb34));have HX5:=hide (hx.out.carry hb34);have HF5:=hide (hfa.out.carry hb34);have HB5:=bT hbw hb34;have HS5:=hide (show B≤w4.heap.size from Nat.le_trans hbs.out hb34.size);obtain ⟨g9,c9,w9,hrun,ho9,hb9,hk9⟩:=qw8 (hoe.out.carry hb34) HS5.out (by omega) x y;have HF9:=hide (show FileAt w9 F (bs s) ve from (hb9.block F HFR.out.1).trans HF5.out);have HX9:=hide (show FileAt w9 R {data:=#[]} (.slice none 0 0) from (hb9.block R HFR.out.2.1).trans HX5.out);have HU9:=hide (HU5.out.keepT (by decide) hk9);have HB9:=hide (show Below w.heap.size w w9 from HB5.out.trans (hb9.mono HSB.out));have hF4:=HF5.out.cell1;have hF9:=HF9.out.cell1;have hz9:=frozen_of_row w9 F 1 _ _ HF9.out;obtain ⟨N9,hN9⟩:∃N,N=e1.length+1:=⟨_,rfl⟩;rw [←hN9] at hrun ho9;clear hN9;have hg:=qai w9 ⟨F,1,none⟩ (.slice (some ⟨g9,0,none⟩) N9 c9);have HFz:=hide (HF9.out.put1 (.slice (some ⟨g9,0,none⟩) N9 c9));have HXz:=hide (show FileAt (w9.setCell ⟨F,1,none⟩ (.slice (some ⟨g9,0,none⟩) N9 c9)) R {data:=#[]} (.slice none 0 0) from (heap_setCell_other w9 ⟨F,1,none⟩ R (.slice (some ⟨g9,0,none⟩) N9 c9) (fun e:R=F=>HFR.out.2.2.1 e.symm)).trans HX9.out);have HUz:=hide (HU9.out.keepT (by decide) (KeepT.set (i:=1) (u:=.slice (some ⟨g9,0,none⟩) N9 c9) HF9.out));have HOz:=hide (show OwE (w9.setCell ⟨F,1,none⟩ (.slice (some ⟨g9,0,none⟩) N9 c9)) B (.slice (some ⟨g9,0,none⟩) N9 c9) (e1++[(x,y)]) from qb8 ho9 hg HF9.out (by decide));have HBz:=hide (show Below w.heap.size w (w9.setCell ⟨F,1,none⟩ (.slice (some ⟨g9,0,none⟩) N9 c9)) from HB9.out.grown hg HB9.out.size (by intro k hk;cases hk;exact HFR.out.2.2.2.1));have HSz:=hide (show B≤(w9.setCell ⟨F,1,none⟩ (.slice (some ⟨g9,0,none⟩) N9 c9)).heap.size from Nat.le_trans (Nat.le_trans HS5.out hb9.size) hg.size);obtain ⟨nb2,hnb2⟩:∃p,p=r2.length:=⟨_,rfl⟩;rw [←hnb2] at HUz ⊢;have HN2:=hide hnb2;obtain ⟨av,cv,hve⟩:∃av cv,ve=.slice av e1.length cv:=hoe.out.form;subst hve
      clear hc3 b3 s4 hb4 hb34 ho9 hb9 hk9 HB4 HU5 HX5 HF5 HB5 HS5 HF9 HX9 HU9 HB9 hg hnb2 hel hoe hfa hx hu hbw hbs hce hnb;obtain ⟨fl,hfl⟩:∃fl,fl=e1.length:=⟨_,rfl⟩;rw [←hfl] at hrun hF4 hF9;clear hfl;rw [show w4.heap.size=w3.heap.size+1 by rw [hw4];simp] at hrun;rw [hw4] at hrun hF4
      go_wp2_with (at_builtin;refine qaf rfl (.tmp 48) (.tmp 50) 96 rfl rfl rfl rfl hrun ?_)
      try clear hrun
      try clear hF4
      try clear hw4
      try clear hF9
      try clear hz9
      generalize w9.setCell ⟨F,1,none⟩ (.slice (some ⟨g9,0,none⟩) N9 c9)=wz at *;go_roundw
      case rel=>exact ⟨k+1,by omega,rfl,a4,nb2,c4,rfl,e1++[(x,y)],r2,(.slice (some ⟨g9,0,none⟩) N9 c9),HNX,HN2,HUz,HFz,HOz,HXz,HBz,HSz⟩
      case measure=>simp only [intOf];omega
    ·have hd:decide ((k:Int)<m)=false:=by simpa using (by omega:¬(k:Int)<m)
     have e:k=m:=by omega
     have HCS:=hide (show qfg l=some ((s,e1),r1) by rw [HCE.out,←e,hce.out]);clear e;have f0:=hfa.out.cell0;have f1:=hfa.out.cell1;have x0:=hx.out.cell0;have x1:=hx.out.cell1;have z0:=frozen_of_row wr R 0 _ _ hx.out;have z1:=frozen_of_row wr R 1 _ _ hx.out;obtain ⟨av,cv,hve⟩:∃av cv,ve=.slice av e1.length cv:=hoe.out.form;subst hve;obtain ⟨fl,hfl⟩:∃fl,fl=e1.length:=⟨_,rfl⟩;rw [←hfl] at hfa hoe f1;have HFL:=hide hfl;clear hfl;have hp:=hx.out.put (bs s) (.slice av fl cv);have hg:=qbw (w:=wr) (q:=R) (.string (bs s)) (.slice av fl cv);have HOz:=hide (show OwE _ B (.slice av fl cv) e1 from qb8 hoe.out hg hx.out (by decide));have HUz:=hide (hu.out.keepT (by decide) (KeepT.two (u:=bs s) (v:=.slice av fl cv) hx.out));have HBE:=hide (hbw.out.grown hg hbw.out.size (by intro k hk;cases hk;exact HFR.out.2.2.2.2));have y0:=hp.cell0;have y1:=hp.cell1;clear hp hg;go_wp2;obtain ⟨w9,hw9⟩:∃w9,w9=(wr.setCell ⟨R,0,none⟩ (.string (bs s))).setCell ⟨R,1,none⟩ (.slice av fl cv):=⟨_,rfl⟩;rw [←hw9] at y0 y1 HBE HOz HUz ⊢
     try simp only [Exit.inBlock,Exit.then]
     refine bodyPost_ret (v:=.tuple #[.agg #[.string (bs s),.slice av fl cv],.slice ab nb cb,.int .i64 0]) ?_ rfl ⟨.inl ⟨s,e1,r1,av,cv,ab,cb,HCS.out,by rw [←HFL.out,←hnb.out],by rw [←HFL.out];exact HOz.out.mono HSB.out,by rw [←hnb.out];exact HUz.out⟩,HBE.out⟩
     clear hw9 x0 x1 z0 z1 f0 f1
     simp [results,Tryz.results257,go_sem, *]
def FilesP (l:List UInt8) (w w':World) (e:Ending):Prop:=
 (∃fs r a5 c5 a6 c6,qc0 l=some (fs,r)∧e=.returned (.tuple #[.slice a5 fs.length c5,.slice a6 r.length c6,.int .i64 0])∧OwF w' w.heap.size (.slice a5 fs.length c5) fs)∨
 (qc0 l=none∧e=.returned (.tuple #[.slice none 0 0,.slice none 0 0,.int .i64 8]))
theorem qab1 {l:List UInt8} (h:cnum l=none):qc0 l=none:=by unfold qc0;rw [h]
theorem qab2 {l q:List UInt8} {m:Nat} (h:cnum l=some (m,q)):qc0 l=qfu m q:=by unfold qc0;rw [h]
theorem qsj (a:Option Addr) (n c:Nat) (l:List UInt8) (w:World) (hl:l.length≤1000000) (hrd:Rd w (.slice a n c) l):
  Calls Tryz.prog 218 #[.slice a n c] w fun e w'=>FilesP l w w' e∧Below w.heap.size w w':=by
 cases hcn:cnum l with
 | none=>
  have hc1:=qfn a n c l w hrd hcn;have HP:=hide (qab1 hcn);clear hrd hcn
  go_enter Tryz.func218,Tryz.ntmps218
  go_wp2_with fail
  refine hc1.mono ?_
  rintro e w2 ⟨rfl,b1⟩;clear hc1;go_wp2;go_ret3;exact ⟨.inr ⟨HP.out,rfl⟩,b1⟩
 | some p=>
  obtain ⟨m,q⟩:=p;have hc1:=qej a n c l q m w hrd hcn;have HCE:=hide (qab2 hcn);have hmm:m≤4096:=(qfe hcn).1;have HQL:=hide (show q.length≤1000000 by have:=qafd hcn;omega);have HR:=hide hrd;clear hrd hcn
  go_enter Tryz.func218,Tryz.ntmps218
  go_wp2_with fail
  refine hc1.mono ?_
  rintro e w2 ⟨a2,c2,rfl,s2,b2⟩;have HR2:=hide (s2.1 _ HR.out);have HB2:=hide b2;clear hc1 s2 b2;obtain ⟨p2,hp2⟩:∃p,p=q.length:=⟨_,rfl⟩;rw [←hp2] at HR2 ⊢;have HP2:=hide hp2;clear hp2;go_wp2
  go_loopw [21,7,0] (fun i lv bv wr=>∃k:Nat,k≤m∧i=.int .i64 k∧∃ab nb cb,bv=.slice ab nb cb∧∃fs r,Hid (qfu k q=some (fs,r))∧Hid (nb=r.length)∧Hid (Rd w (.slice ab nb cb) r∨RdU wr (.slice ab nb cb) r)∧Hid (OwF wr w.heap.size lv fs)∧Hid (Below w.heap.size w wr)) (fun i _ _ _=>m - (intOf i).toNat)
  case atStart=>exact ⟨0,Nat.zero_le _,rfl,a2,p2,c2,rfl,[],q,hide rfl,HP2,hide (.inl HR2.out),hide (OwF.nil _ _),HB2⟩
  case round=>
   obtain ⟨k,hk,rfl,ab,nb,cb,rfl,fs,r,hce,hnb,hu,hof,hbw⟩:=hrel
   by_cases hlt:k<m
   ·have hlt':(k:Int)<m:=by omega
    have hrl:r.length≤1000000:=by
     have h1:=(qh4 _ _ _ _ hce.out).2.2;have h2:=HQL.out;rw [h1,List.length_append] at h2;omega
    have hfl:=(qh4 _ _ _ _ hce.out).1;have HRr:=hide (show Rd wr (.slice ab nb cb) r from hu.out.elim (fun h=>h.carry hbw.out) (fun h=>h.rd))
    go_wp2_with fail
    refine (qux ab nb cb r wr hrl HRr.out).mono ?_
    rintro e w3 ⟨hP,b3⟩;have HB4:=bT hbw b3
    rcases hP with ⟨s,es,r2,a5,c5,a6,c6,hcf,rfl,ho5,hu5⟩ | ⟨hcf,rfl⟩
    ·have HNX:=hide (qyn hce.out hcf)
     obtain ⟨w4,hw4⟩:∃w4,w4=w3.alloc (.cells #[.string (bs s),.slice a5 es.length c5] 98):=⟨_,rfl⟩
     have hb4:Below w3.heap.size w3 w4:=by rw [hw4];exact (Below.refl _ _).alloc (Nat.le_refl _) _
     have hb34:Below wr.heap.size wr w4:=b3.trans (hb4.mono b3.size);have HB5:=bT hbw hb34;obtain ⟨g9,c9,w9,hrun,ho9,hb9,hk9⟩:=qsi (hof.out.carry hb34) HB5.out.size (by omega) s (.slice a5 es.length c5) es ((ho5.carry hb4).mono hbw.out.size);have HU9:=hide ((hu5.carry hb4).keepT (by decide) hk9);have HB9:=hide (show Below w.heap.size w w9 from HB5.out.trans hb9);have HO9:=hide ho9;obtain ⟨av,cv,hve⟩:=hof.out.form;subst hve;obtain ⟨nb2,hnb2⟩:∃p,p=r2.length:=⟨_,rfl⟩;rw [←hnb2] at HU9 ⊢;have HN2:=hide hnb2;clear hcf b3 ho5 hu5 hb4 hb34 ho9 hb9 hk9 HB5 HB4 hnb2 hof hu hbw hce hnb HRr hrl;obtain ⟨fl,hfl2⟩:∃fl,fl=fs.length:=⟨_,rfl⟩;rw [←hfl2] at hrun HO9 ⊢;clear hfl2 hfl;obtain ⟨el,hel⟩:∃el,el=es.length:=⟨_,rfl⟩;rw [←hel] at hrun hw4 ⊢;clear hel;rw [show w4.heap.size=w3.heap.size+1 by rw [hw4];simp] at hrun;rw [hw4] at hrun
     go_wp2_with (at_builtin;refine qaf rfl (.tmp 32) (.tmp 34) 29 rfl rfl rfl rfl hrun ?_)
     try clear hrun
     try clear hw4
     go_roundw
     case rel=>exact ⟨k+1,by omega,rfl,a6,nb2,c6,rfl,_,r2,HNX,HN2,hide (.inr HU9.out),HO9,HB9⟩
     case measure=>simp only [intOf];omega
    ·have HP:=hide (show qc0 l=none by rw [HCE.out];exact qaar hce.out hcf hlt)
     clear hcf b3;obtain ⟨w4,hw4⟩:∃w4,w4=w3.alloc (.cells #[.string {data:=#[]},.slice none 0 0] 98):=⟨_,rfl⟩;have HB5:=hide (show Below w.heap.size w w4 by rw [hw4];exact HB4.out.alloc HB4.out.size _);go_wp2;go_ret3;exact ⟨.inr ⟨HP.out,rfl⟩,by rw [←hw4];exact HB5.out⟩
   ·have hd:decide ((k:Int)<m)=false:=by simpa using (by omega:¬(k:Int)<m)
    have e:k=m:=by omega
    have HCS:=hide (show qc0 l=some (fs,r) by rw [HCE.out,←e,hce.out]);clear e;obtain ⟨av,cv,hve⟩:=hof.out.form;subst hve;obtain ⟨fl,hfl⟩:∃fl,fl=fs.length:=⟨_,rfl⟩;rw [←hfl] at hof ⊢;have HFL:=hide hfl;clear hfl;go_wp2;go_ret3;exact ⟨.inl ⟨fs,r,av,cv,ab,cb,HCS.out,by rw [←HFL.out,←hnb.out];rfl,by rw [←HFL.out];exact hof.out⟩,hbw.out⟩
theorem qab3 (a:Option Addr) (n c:Nat) (l:List UInt8) (B:Int) (w:World) (hrd:Rd w (.slice a n c) l) (hn:n=l.length) (hl:l.length≤1000000):
  Calls Tryz.prog 154 #[.slice a n c,.int .i64 B] w fun e w'=>∃v,e=.returned (.tuple #[.agg #[v],.int .i64 (qcv l B)])∧OwF w' w.heap.size v (qfv l B)∧Below w.heap.size w w':=by
 obtain ⟨W0,hW0⟩:∃W0,W0=w.alloc (.cells #[.slice none 0 0] 31):=⟨_,rfl⟩
 have hb0:Below w.heap.size w W0:=by rw [hW0];exact (Below.refl _ _).alloc (Nat.le_refl _) _
 have HA_W0:=hide (show BlkD W0 w.heap.size by rw [hW0];exact BlkD.new w _);have HB_W0:=hide hb0;have HR:=hide hrd;have HN:=hide hn;have hbm:=qf9 B W0;clear hrd hn hb0
 by_cases g1:blkP B
 case neg=>
  rw [decide_eq_false g1] at hbm;have HE:=hide (qre (b:=l) g1);have HL:=hide (qdn (b:=l) (B:=B) (by rw [HE.out];omega));clear g1
  go_enter Tryz.func154,Tryz.ntmps154
  go_wp2_with fail
  rw [←hW0];clear hW0
  refine hbm.mono ?_
  rintro e wq ⟨rfl,hwq⟩;subst hwq;clear hbm;have hc:=HA_W0.out.cell;have hf:=HA_W0.out.fz;obtain ⟨z0,hg, -⟩:=HA_W0.out.put (.slice none 0 0);obtain ⟨y,hy⟩:=HA_W0.out;have HOR:=hide (show OwF (wq.setCell ⟨w.heap.size,0,none⟩ (.slice none 0 0)) w.heap.size (.slice none 0 0) _ from OwF.nil _ _);have HBR:=hide (HB_W0.out.grown hg HB_W0.out.size (by intro k hk;cases hk;omega));clear hy hg;go_wp2;obtain ⟨w9,hw9⟩:∃w9,w9=wq.setCell ⟨w.heap.size,0,none⟩ (.slice none 0 0):=⟨_,rfl⟩;rw [←hw9] at z0 HOR HBR ⊢
  try simp only [Exit.inBlock,Exit.then]
  refine bodyPost_ret (v:=.tuple #[.agg #[.slice none 0 0],.int .i64 2]) ?_ rfl ⟨.slice none 0 0,by rw [HE.out],by rw [HL.out];exact HOR.out,HBR.out⟩
  clear hw9 hc hf
  simp [results,Tryz.results154,go_sem, *]
 rw [decide_eq_true g1] at hbm;have HBK:=hide g1;clear g1
 go_enter Tryz.func154,Tryz.ntmps154
 go_wp2_with fail
 rw [←hW0];clear hW0
 refine hbm.mono ?_
 rintro e wq ⟨rfl,hwq⟩;subst hwq;clear hbm
 by_cases g2:2048<n
 ·have g2':(2048:Int)<n:=by omega
  have HE:=hide (qnh HBK.out (by have:=HN.out;omega:2048<l.length));have HL:=hide (qdn (b:=l) (B:=B) (by rw [HE.out];omega));have hc:=HA_W0.out.cell;have hf:=HA_W0.out.fz;obtain ⟨z0,hg, -⟩:=HA_W0.out.put (.slice none 0 0);obtain ⟨y,hy⟩:=HA_W0.out;have HOR:=hide (show OwF (wq.setCell ⟨w.heap.size,0,none⟩ (.slice none 0 0)) w.heap.size (.slice none 0 0) _ from OwF.nil _ _);have HBR:=hide (HB_W0.out.grown hg HB_W0.out.size (by intro k hk;cases hk;omega));clear hy hg;go_wp2;obtain ⟨w9,hw9⟩:∃w9,w9=wq.setCell ⟨w.heap.size,0,none⟩ (.slice none 0 0):=⟨_,rfl⟩;rw [←hw9] at z0 HOR HBR ⊢
  try simp only [Exit.inBlock,Exit.then]
  refine bodyPost_ret (v:=.tuple #[.agg #[.slice none 0 0],.int .i64 3]) ?_ rfl ⟨.slice none 0 0,by rw [HE.out],by rw [HL.out];exact HOR.out,HBR.out⟩
  clear hw9 hc hf
  simp [results,Tryz.results154,go_sem, *]
 have g2':decide ((2048:Int)<n)=false:=by simpa using (by omega:¬(2048:Int)<n)
 have HN2:=hide (show ¬2048<l.length by have:=HN.out;omega);have HA_wq:=HA_W0;have qab4:=HB_W0;clear HA_W0 HB_W0;have HSZ:=hide qab4.out.size
 go_wp2_with fail
 refine (qsj a n c l wq hl (HR.out.carry qab4.out)).mono ?_
 rintro e w1 ⟨hP,hb1⟩;have qbn:=hide (HA_wq.out.carry hb1);have qad:=bT qab4 hb1;clear HA_wq qab4 hb1
 rcases hP with ⟨fs,r,a5,c5,a6,c6,hcf,rfl,ho5⟩ | ⟨hcf,rfl⟩
 rotate_left
 ·have HE:=hide (qni HBK.out HN2.out hcf)
  have HL:=hide (qdn (b:=l) (B:=B) (by rw [HE.out];omega));clear hcf;have hc:=qbn.out.cell;have hf:=qbn.out.fz;obtain ⟨z0,hg, -⟩:=qbn.out.put (.slice none 0 0);obtain ⟨y,hy⟩:=qbn.out;have HOR:=hide (show OwF (w1.setCell ⟨w.heap.size,0,none⟩ (.slice none 0 0)) w.heap.size (.slice none 0 0) _ from OwF.nil _ _);have HBR:=hide (qad.out.grown hg qad.out.size (by intro k hk;cases hk;omega));clear hy hg;go_wp2;obtain ⟨w9,hw9⟩:∃w9,w9=w1.setCell ⟨w.heap.size,0,none⟩ (.slice none 0 0):=⟨_,rfl⟩;rw [←hw9] at z0 HOR HBR ⊢
  try simp only [Exit.inBlock,Exit.then]
  refine bodyPost_ret (v:=.tuple #[.agg #[.slice none 0 0],.int .i64 8]) ?_ rfl ⟨.slice none 0 0,by rw [HE.out],by rw [HL.out];exact HOR.out,HBR.out⟩
  clear hw9 hc hf
  simp [results,Tryz.results154,go_sem, *]
 have qof:=hide (ho5.mono HSZ.out);have HCF:=hide hcf;have HWF:=hide (show wfFs fs from fun f hf x hx=>qais (((qng hcf).2.1 f hf).2 x hx));clear hcf ho5;obtain ⟨p,hp⟩:∃p,p=fs.length:=⟨_,rfl⟩;rw [←hp] at qof ⊢;have HP:=hide hp;obtain ⟨q,hq⟩:∃q,q=r.length:=⟨_,rfl⟩;rw [←hq];have HQ:=hide hq;clear hp hq
 by_cases g3:0<q
 ·have g3':(0:Int)<q:=by omega
  have HE:=hide (qnj HBK.out HN2.out HCF.out (fun e=>by have:=HQ.out;rw [e] at this;simp at this;omega));have HL:=hide (qdn (b:=l) (B:=B) (by rw [HE.out];omega));have hc:=qbn.out.cell;have hf:=qbn.out.fz;obtain ⟨z0,hg, -⟩:=qbn.out.put (.slice none 0 0);obtain ⟨y,hy⟩:=qbn.out;have HOR:=hide (show OwF (w1.setCell ⟨w.heap.size,0,none⟩ (.slice none 0 0)) w.heap.size (.slice none 0 0) _ from OwF.nil _ _);have HBR:=hide (qad.out.grown hg qad.out.size (by intro k hk;cases hk;omega));clear hy hg;go_wp2;obtain ⟨w9,hw9⟩:∃w9,w9=w1.setCell ⟨w.heap.size,0,none⟩ (.slice none 0 0):=⟨_,rfl⟩;rw [←hw9] at z0 HOR HBR ⊢
  try simp only [Exit.inBlock,Exit.then]
  refine bodyPost_ret (v:=.tuple #[.agg #[.slice none 0 0],.int .i64 8]) ?_ rfl ⟨.slice none 0 0,by rw [HE.out],by rw [HL.out];exact HOR.out,HBR.out⟩
  clear hw9 hc hf
  simp [results,Tryz.results154,go_sem, *]
 have g3':decide ((0:Int)<q)=false:=by simpa using (by omega:¬(0:Int)<q)
 have HRS:=hide (qnk HBK.out HN2.out (show qc0 l=some (fs,[]) by rw [HCF.out,List.eq_nil_of_length_eq_zero (l:=r) (by have:=HQ.out;omega)]));have hmy:=qwy a5 p c5 fs B w1 qof.out.rd HP.out HWF.out
 by_cases g4:mayF fs B
 ·rw [decide_eq_true g4] at hmy
  have HE:=hide (show qcv l B=0 by rw [HRS.out.1,if_pos g4]);have HL:=hide (HRS.out.2 g4);clear g4
  go_wp2_with fail
  refine (hmy).mono ?_
  rintro e w2 ⟨rfl,hb2⟩;have qct:=hide (qbn.out.carry hb2);have qaix:=hide (qof.out.carry hb2);have qae:=bT qad hb2;clear qbn qof qad hb2;clear hmy;have hc:=qct.out.cell;have hf:=qct.out.fz;obtain ⟨z0,hg, -⟩:=qct.out.put (.slice a5 p c5);obtain ⟨y,hy⟩:=qct.out;have HOR:=hide (show OwF (w2.setCell ⟨w.heap.size,0,none⟩ (.slice a5 p c5)) w.heap.size (.slice a5 p c5) _ from (qaix.out).keptS hg hy (by decide) (by decide));have HBR:=hide (qae.out.grown hg qae.out.size (by intro k hk;cases hk;omega));clear hy hg;go_wp2;obtain ⟨w9,hw9⟩:∃w9,w9=w2.setCell ⟨w.heap.size,0,none⟩ (.slice a5 p c5):=⟨_,rfl⟩;rw [←hw9] at z0 HOR HBR ⊢
  try simp only [Exit.inBlock,Exit.then]
  refine bodyPost_ret (v:=.tuple #[.agg #[.slice a5 p c5],.int .i64 0]) ?_ rfl ⟨.slice a5 p c5,by rw [HE.out],by rw [HL.out];exact HOR.out,HBR.out⟩
  clear hw9 hc hf
  simp [results,Tryz.results154,go_sem, *]
 ·rw [decide_eq_false g4] at hmy
  have HE:=hide (show qcv l B=8 by rw [HRS.out.1,if_neg g4]);have HL:=hide (qdn (b:=l) (B:=B) (by rw [HE.out];omega));clear g4
  go_wp2_with fail
  refine (hmy).mono ?_
  rintro e w2 ⟨rfl,hb2⟩;have qct:=hide (qbn.out.carry hb2);have qaix:=hide (qof.out.carry hb2);have qae:=bT qad hb2;clear qbn qof qad hb2;clear hmy;have hc:=qct.out.cell;have hf:=qct.out.fz;obtain ⟨z0,hg, -⟩:=qct.out.put (.slice none 0 0);obtain ⟨y,hy⟩:=qct.out;have HOR:=hide (show OwF (w2.setCell ⟨w.heap.size,0,none⟩ (.slice none 0 0)) w.heap.size (.slice none 0 0) _ from OwF.nil _ _);have HBR:=hide (qae.out.grown hg qae.out.size (by intro k hk;cases hk;omega));clear hy hg;go_wp2;obtain ⟨w9,hw9⟩:∃w9,w9=w2.setCell ⟨w.heap.size,0,none⟩ (.slice none 0 0):=⟨_,rfl⟩;rw [←hw9] at z0 HOR HBR ⊢
  try simp only [Exit.inBlock,Exit.then]
  refine bodyPost_ret (v:=.tuple #[.agg #[.slice none 0 0],.int .i64 8]) ?_ rfl ⟨.slice none 0 0,by rw [HE.out],by rw [HL.out];exact HOR.out,HBR.out⟩
  clear hw9 hc hf
  simp [results,Tryz.results154,go_sem, *]
end Go.Proofs.YtmeaiocohalphaaGreatDoor

/-
  What dev's count, checkPut, checkAct, mayBe and Check do.
-/
import Derived.Test.YthilibleedbchaaGreatMathFi3
import Derived.Test.YthilibleedbchaaGreatFiCut3
import Derived.ArgAppend
import Derived.Laws.OwnMore
import Derived.Test.YthilibleedbchaaGreatRegD
import Derived.Test.YthilibleedbchaaGreatMathRm
import Derived.Test.YthilibleedbchaaGreatRmMay
set_option maxHeartbeats 400000
set_option maxRecDepth 100000
namespace Go.Proofs.YthilibleedbchaaGreat
open Go.RowKit
set_option linter.all false
def ShE (w:World) (base:Nat) (v:Value):Prop:=v=.slice none 0 0∨∃g n cap cur,v=.slice (some ⟨g,0,none⟩) n cap∧base≤g∧w.heap[g]? =some (.cells cur 116 (0,0))∧n≤cap∧cap≤maxLen∧cur.size=cap*2
theorem OwE.sh {w:World} {base:Nat} {v:Value} {l:List Ex} (h:OwE w base v l):ShE w base v:=by
 rcases h.2 with ⟨rfl,hn⟩ | ⟨g,cap,cur,rfl,hb,hg,hn,hm,hsz,htake⟩
 ·exact .inl rfl
 ·exact .inr ⟨g,_,cap,cur,rfl,hb,hg,hn,hm,hsz⟩
theorem ShE.shp {w w':World} {base:Nat} {v:Value} (h:ShE w base v) (k:Shp base w w'):ShE w' base v:=by
 rcases h with h | ⟨g,n,cap,cur,rfl,h1,h2,h3,h4,h5⟩
 ·exact .inl h
 ·obtain ⟨cs',k1,k2,_⟩:=k.2.2 g _ _ h2
  exact .inr ⟨g,n,cap,cs',rfl,h1,k1,h3,h4,by rw [k2,h5]⟩
def head0:Value→Value
 | .slice a _ c=>.slice a 0 c
 | v=>v
theorem qkz {base:Nat} {w w':World} (hb:base≤w.heap.size) (h:Below w.heap.size w w'):Shp base w w':=
 ⟨h.mono hb,h.size,fun k cs t hk=>⟨cs,(h.block k (Array.getElem?_eq_some_iff.1 hk).1).trans hk,rfl,fun _=>rfl⟩⟩
theorem qtv {base:Nat} {w w':World} (hb:base≤w.heap.size) (h:w.grownBy w' none):Shp base w w':=
 ⟨(Below.refl base w).grown h hb (by intro k hk;cases hk),h.size,fun k cs t hk=>⟨cs,(h.block k (Array.getElem?_eq_some_iff.1 hk).1 (by simp)).trans hk,rfl,fun _=>rfl⟩⟩
theorem qaa6 {w:World} {base:Nat} {v:Value} (h:ShE w base v) (hb:base≤w.heap.size) (x y:Int):
  ∃g c w',(Builtin.append_ #[73,73] 73 #[head0 v,.slice (some ⟨w.heap.size,0,none⟩) 1 1]).run Tryz.prog (w.alloc (.cells #[.int .i64 x,.int .i64 y] 116))=.ok (.slice (some ⟨g,0,none⟩) 1 c) w'∧
   ShE w' base (.slice (some ⟨g,0,none⟩) 1 c)∧Shp base w w':=by
 obtain ⟨w8,ew8⟩:∃w8,w8=w.alloc (.cells #[.int .i64 x,.int .i64 y] 116):=⟨_,rfl⟩;have hn8:=qd6 w #[.int .i64 x,.int .i64 y] 116;rw [←ew8] at hn8 ⊢
 have hb8:Below w.heap.size w w8:=by rw [ew8];exact (Below.refl _ _).alloc (Nat.le_refl _) _
 have hs8:Shp base w w8:=qkz hb hb8;have hbb:base≤w8.heap.size:=Nat.le_trans hb hb8.size;have h8:=h.shp hs8;obtain ⟨i0,hi,hz0,hz1,hz2⟩:=info_parts Tryz.infoEx
 have h1c:∀u∈([.int .i64 x,.int .i64 y]:List Value),u.oneCell'=true:=by
  intro u hu
  simp at hu
  rcases hu with rfl | rfl<;>rfl
 rcases h8 with rfl | ⟨g,n,cap,cur,rfl,h1,h2,h3,h4,h5⟩
 ·obtain ⟨v9,w9,hrun9,hown9,hg9,_⟩:=run_append_own (P:=Tryz.prog) w8 base 73 73 116 i0 _ 2 16 Tryz.underlying73 hi hz0 hz1 hz2 rfl (by decide) _ _ _ (World.ownsRow_nil w8 base 116 2) ⟨w.heap.size,0,none⟩ 1 1 [.int .i64 x,.int .i64 y] rfl hn8 h1c (by unfold maxLen;omega) (by omega) hbb
  rcases hown9.2 with ⟨_,h0⟩ | ⟨g,cap,cur,h0,k1,k2,k3,k4,k5,_⟩
  ·exact absurd h0 (by omega)
  ·subst h0
   exact ⟨g,cap,w9,hrun9,.inr ⟨g,1,cap,cur,rfl,k1,k2,k3,k4,k5⟩,hs8.trans (qtv hbb hg9)⟩
 ·by_cases hc:1≤cap
  ·obtain ⟨w9,hrun9,hown9,hg9⟩:=run_append_fits (P:=Tryz.prog) w8 base 73 73 116 i0 2 Tryz.underlying73 hi hz1 g 0 cap [] ⟨by simp,.inr ⟨g,cap,cur,rfl,h1,h2,Nat.zero_le _,h4,h5,by simp⟩⟩ ⟨w.heap.size,0,none⟩ 1 1 [.int .i64 x,.int .i64 y] rfl hn8 h1c (by omega)
   rcases hown9.2 with ⟨h0,_⟩ | ⟨g',cap',cur',h0,k1,k2,k3,k4,k5,_⟩
   ·cases h0
   ·cases h0
    refine ⟨g,cap,w9,hrun9,.inr ⟨g,1,cap,cur',rfl,k1,k2,k3,k4,k5⟩,hs8.trans ⟨(Below.refl base w8).grown hg9 hbb (by intro k hk;cases hk;exact h1),hg9.size,fun k cs t hk=>?_⟩⟩
    by_cases e:k=g
    ·subst e
     rw [h2] at hk;cases hk;exact ⟨cur',k2,by rw [k5,h5],fun ht=>absurd rfl ht⟩
    ·exact ⟨cs,(hg9.block k (Array.getElem?_eq_some_iff.1 hk).1 (by intro e';cases e';exact e rfl)).trans hk,rfl,fun _=>rfl⟩
  ·obtain ⟨v9,w9,hrun9,hown9,hg9⟩:=run_append_arg_grows (P:=Tryz.prog) w8 73 73 116 i0 _ 2 16 Tryz.underlying73 hi hz0 hz1 hz2 rfl (by decide) ⟨g,0,none⟩ 0 cap [] rfl (by simp) ⟨w.heap.size,0,none⟩ 1 1 [.int .i64 x,.int .i64 y] rfl hn8 (by omega) (by unfold maxLen;omega) (by omega)
   rcases hown9.2 with ⟨_,h0⟩ | ⟨g',cap',cur',h0,k1,k2,k3,k4,k5,_⟩
   ·exact absurd h0 (by omega)
   ·subst h0
    exact ⟨g',cap',w9,hrun9,.inr ⟨g',1,cap',cur',rfl,Nat.le_trans hbb k1,k2,k3,k4,k5⟩,hs8.trans (qtv hbb hg9)⟩
def RowF (w:World) (base:Nat) (v:Value) (n:Nat):Prop:=(v=.slice none 0 0∧n=0)∨∃(g cap:Nat) (cs:Array Value),v=.slice (some ⟨g,0,none⟩) n cap∧base≤g∧w.heap[g]? =some (.cells cs 75 (0,0))∧n*2≤cs.size∧∀k,k<n→∃u,cs[k*2+1]? =some u∧ShE w base u
theorem OwF.rowF {w:World} {base:Nat} {v:Value} {fs:List Fl} (h:OwF w base v fs):RowF w base v fs.length:=by
 obtain ⟨ps,rfl,h,hi⟩:=h;rw [List.length_map]
 rcases h.2 with ⟨rfl,hn⟩ | ⟨g,cap,cur,rfl,hb,hg,hn,hm,hsz,htake⟩
 ·exact .inl ⟨rfl,hn⟩
 ·refine .inr ⟨g,cap,cur,rfl,hb,hg,by rw [hsz];omega,fun k hk=>?_⟩
  have hp:=hi ps[k] (List.getElem_mem hk);refine ⟨_, ?_,hp.sh⟩;have e2:=(qfg ps k hk).2;have c2:=h.cells (g:=g) rfl _ _ e2;have c3:=cell_of_row w g (k*2+1) _ _ (0,0) hg;rw [Addr.add_lit] at c2;rw [Nat.zero_add,c3] at c2;exact c2
theorem RowF.shp {w w':World} {base:Nat} {v:Value} {n:Nat} (h:RowF w base v n) (k:Shp base w w'):RowF w' base v n:=by
 rcases h with h | ⟨g,cap,cs,rfl,h1,h2,h3,h4⟩
 ·exact .inl h
 ·obtain ⟨cs',k1,k2,k3⟩:=k.2.2 g _ _ h2
  have:=k3 (by decide)
  subst this;exact .inr ⟨g,cap,cs',rfl,h1,k1,h3,fun i hi=>by obtain ⟨u,e1,e2⟩:=h4 i hi;exact ⟨u,e1,e2.shp k⟩⟩
def Tf (base:Nat) (w w':World):Prop:=Below base w w'∧w.heap.size≤w'.heap.size∧(∀(i:Nat) cs t,w.heap[i]? =some (.cells cs t (0,0))→t≠75→t≠116→w'.heap[i]? =some (.cells cs t (0,0)))∧
 (∀v,ShE w base v→ShE w' base v)∧∀v n,RowF w base v n→RowF w' base v n
theorem Tf.refl (base:Nat) (w:World):Tf base w w:=⟨Below.refl _ _,Nat.le_refl _,fun _ _ _ h _ _=>h,fun _ h=>h,fun _ _ h=>h⟩
theorem Tf.trans {base:Nat} {a b c:World} (h:Tf base a b) (k:Tf base b c):Tf base a c:=
 ⟨h.1.trans k.1,Nat.le_trans h.2.1 k.2.1,fun i cs t hi h1 h2=>k.2.2.1 i cs t (h.2.2.1 i cs t hi h1 h2) h1 h2,fun v hv=>k.2.2.2.1 v (h.2.2.2.1 v hv),fun v n hv=>k.2.2.2.2 v n (h.2.2.2.2 v n hv)⟩
theorem Tf.shp {base:Nat} {w w':World} (k:Shp base w w'):Tf base w w':=
 ⟨k.1,k.2.1,fun i cs t hi h1 h2=>by obtain ⟨cs',e1,_,e3⟩:=k.2.2 i _ _ hi;rw [e3 h2] at e1;exact e1,fun v hv=>hv.shp k,fun v n hv=>hv.shp k⟩
theorem ShE.file {w:World} {base g:Nat} {cs:Array Value} {v:Value} (h:ShE w base v) (hg:w.heap[g]? =some (.cells cs 75 (0,0))) (j:Nat) (u:Value):ShE (w.setCell ⟨g,j,none⟩ u) base v:=by
 rcases h with h | ⟨g',n,cap,cur,rfl,h1,h2,h3,h4,h5⟩
 ·exact .inl h
 ·refine .inr ⟨g',n,cap,cur,rfl,h1, ?_,h3,h4,h5⟩
  refine (heap_setCell_other w ⟨g,j,none⟩ g' u ?_).trans h2;rintro rfl;rw [h2] at hg;cases hg
theorem Tf.set {base:Nat} {w:World} {g k n cap:Nat} {cs:Array Value} {u:Value} (hb:base≤w.heap.size) (h1:base≤g) (h2:w.heap[g]? =some (.cells cs 75 (0,0))) (hu:ShE w base u):Tf base w (w.setCell ⟨g,k*2+1,none⟩ u):=by
 have hg:=qae w ⟨g,k*2+1,none⟩ u;refine ⟨(Below.refl _ _).grown hg hb (by intro i hi;cases hi;exact h1),hg.size,fun i ds t hi t1 t2=>?_,fun v hv=>hv.file h2 _ _,fun v m hv=>?_⟩
 ·refine (heap_setCell_other w ⟨g,k*2+1,none⟩ i u ?_).trans hi
  rintro rfl;rw [h2] at hi;cases hi;exact t1 rfl
 ·rcases hv with hv | ⟨g',cap',ds,rfl,q1,q2,q3,q4⟩
  ·exact .inl hv
  ·by_cases e:g'=g
   ·subst e
    rw [h2] at q2;cases q2;refine .inr ⟨g',cap',cs.setIfInBounds (k*2+1) u,rfl,q1,heap_setCell_same w g' (k*2+1) cs 75 u h2,by simpa using q3,fun i hi=>?_⟩;obtain ⟨u',e1,e2⟩:=q4 i hi
    by_cases ei:i=k
    ·subst ei
     refine ⟨u, ?_,hu.file h2 _ _⟩;have hlt:=(Array.getElem?_eq_some_iff.1 e1).1
     simp [Array.getElem?_setIfInBounds,hlt]
    ·refine ⟨u', ?_,e2.file h2 _ _⟩
     rw [Array.getElem?_setIfInBounds,if_neg (by omega)];exact e1
   ·exact .inr ⟨g',cap',ds,rfl,q1,(heap_setCell_other w ⟨g,k*2+1,none⟩ g' u e).trans q2,q3,fun i hi=>by obtain ⟨u',e1,e2⟩:=q4 i hi;exact ⟨u',e1,e2.file h2 _ _⟩⟩
theorem qxf {base:Nat} {w:World} {a:Option Addr} {n c:Nat} (hb:base≤w.heap.size) (h:RowF w base (.slice a n c) n) (k:Nat) (hk:k<n) (x y:Int):
  ∃(g:Nat) (a2:Option Addr) (n2 c2:Nat),a=some ⟨g,0,none⟩∧w.cell? ⟨g,k*2+1,none⟩=some (.slice a2 n2 c2)∧n2≤c2∧
   ∃g' c' w',(Builtin.append_ #[73,73] 73 #[.slice a2 0 c2,.slice (some ⟨w.heap.size,0,none⟩) 1 1]).run Tryz.prog (w.alloc (.cells #[.int .i64 x,.int .i64 y] 116))=.ok (.slice (some ⟨g',0,none⟩) 1 c') w'∧
    Hid (Shp base w w')∧Hid (Tf base w (w'.setCell ⟨g,k*2+1,none⟩ (.slice (some ⟨g',0,none⟩) 1 c'))):=by
 rcases h with ⟨h,h0⟩ | ⟨g,cap,cs,e,h1,h2,h3,h4⟩
 ·omega
 cases e;obtain ⟨u,e1,e2⟩:=h4 k hk;have hc:w.cell? ⟨g,k*2+1,none⟩=some u:=(cell_of_row w g (k*2+1) _ _ (0,0) h2).trans e1;obtain ⟨g',c',w',hrun,hsh,hshp⟩:=qaa6 e2 hb x y;obtain ⟨cs',k1,k2,k3⟩:=hshp.2.2 g _ _ h2;have hT:=(Tf.shp hshp).trans (Tf.set (k:=k) (n:=n) (cap:=c) (Nat.le_trans hb hshp.2.1) h1 k1 hsh)
 rcases e2 with rfl | ⟨ge,ne,ce,cur,rfl,_,_,hne,_⟩
 ·exact ⟨g,none,0,0,rfl,hc,Nat.le_refl _,g',c',w',hrun,hide hshp,hide hT⟩
 ·exact ⟨g,_,ne,ce,rfl,hc,hne,g',c',w',hrun,hide hshp,hide hT⟩
abbrev Pu:=Int × List UInt8
abbrev Ac:=Bool × Pu
abbrev Dk:=List UInt8 × List Pu × List Ac
def dz:Dk:=([],[],[])
def putE (k:Nat) (p:Pu):Int:=if p.1<0∨(k:Int)≤p.1 then 2 else if p.2.length≠128 then 3 else 0
def actE (k:Nat) (a:Ac):Int:=if a.1 then (if a.2.1≠0∨a.2.2≠[] then 8 else 0) else putE k a.2
def mny (d:Dk):Nat:=d.1.length / 128
def okD (d:Dk):Bool:=decide (d.1.length % 128=0) && decide (1≤mny d) && decide (mny d≤4096) && decide (d.2.1.length≤65536) && decide (d.2.2.length≤65536) && d.2.1.all (fun p=>decide (putE (mny d) p=0)) && d.2.2.all (fun a=>decide (actE (mny d) a=0))
def chk (d:Dk):Int:=if okD d then 0 else 20
theorem qdh (d:Dk):okD d=true↔d.1.length % 128=0∧1≤mny d∧mny d≤4096∧d.2.1.length≤65536∧d.2.2.length≤65536∧(∀p∈d.2.1,putE (mny d) p=0)∧∀a∈d.2.2,actE (mny d) a=0:=by
 simp [okD,Bool.and_eq_true,decide_eq_true_eq,List.all_eq_true,and_assoc]
theorem qd9 {k:Nat} {p:Pu} (h:putE k p=0):0≤p.1∧p.1<k∧p.2.length=128:=by
 unfold putE at h
 split at h
 ·cases h
 ·split at h
  ·cases h
  ·rename_i h1 h2
   refine ⟨by omega,by omega,by omega⟩
def setB (data:List UInt8) (p:Pu):List UInt8:=data.take (128*p.1.toNat)++(p.2++data.drop (128*p.1.toNat+128))
def qdv (data:List UInt8) (l:List Pu):List UInt8:=l.foldl setB data
def oneD (d:Dk) (a:Ac):Option Dk:=
 if 65536≤d.2.2.length∨(a.1=false∧65536≤d.2.1.length) then none
 else if a.1 then some (qdv d.1 d.2.1,[],d.2.2++[a]) else some (d.1,d.2.1++[a.2],d.2.2++[a])
def qbs (d:Dk):List Ac→Option Dk
 | []=>some d
 | a::l=>match oneD d a with | none=>none | some x=>qbs x l
def qcf (k:Nat):List Ac→Int
 | []=>0
 | a::l=>if actE k a=0 then qcf k l else actE k a
def doD (d:Dk) (l:List Ac) (many:Int):Dk × Int:=
 if chk d≠0 then (dz,chk d)
 else if qcf (mny d) l≠0 then (dz,qcf (mny d) l)
 else if many<0∨(l.length:Int)<many then (dz,2)
 else match qbs d (l.take many.toNat) with | none=>(dz,9) | some x=>(x,0)
def blk (data:List UInt8) (n:Nat):List UInt8:=(data.drop (128*n)).take 128
def qei (n:Int):List Pu→Option (List UInt8)
 | []=>none
 | p::l=>match qei n l with | some b=>some b | none=>if p.1=n then some p.2 else none
def nowD (d:Dk) (n:Nat):List UInt8:=(qei n d.2.1).getD (blk d.1 n)
/-! ### reading -/
def RdW (w:World) (v:Value) (l:List Pu):Prop:=
 (l=[]∧(v=.slice none 0 0∨∃a c,v=.slice (some a) 0 c))∨
 ∃b off c,v=.slice (some ⟨b,off,none⟩) l.length c∧l.length≤c∧c≤maxLen∧∀j,(h:j<l.length)→
  w.cell? ⟨b,off+j*2,none⟩=some (.int .i64 (l[j]).1)∧∃u,w.cell? ⟨b,off+j*2+1,none⟩=some u∧Rd w u (l[j]).2
def RdA (w:World) (v:Value) (l:List Ac):Prop:=
 (l=[]∧(v=.slice none 0 0∨∃a c,v=.slice (some a) 0 c))∨
 ∃b off c,v=.slice (some ⟨b,off,none⟩) l.length c∧l.length≤c∧c≤maxLen∧∀j,(h:j<l.length)→
  w.cell? ⟨b,off+j*3,none⟩=some (.bool (l[j]).1)∧w.cell? ⟨b,off+j*3+1,none⟩=some (.int .i64 (l[j]).2.1)∧∃u,w.cell? ⟨b,off+j*3+2,none⟩=some u∧Rd w u (l[j]).2.2
def RdD (w:World) (v:Value) (d:Dk):Prop:=∃x y z,v=.agg #[x,y,z]∧Rd w x d.1∧RdW w y d.2.1∧RdA w z d.2.2
theorem RdW.carry {w w':World} {v:Value} {l:List Pu} (h:RdW w v l) (hb:Below w.heap.size w w'):RdW w' v l:=by
 rcases h with h | ⟨b,off,c,rfl,hc,hm,hcell⟩
 ·exact .inl h
 ·refine .inr ⟨b,off,c,rfl,hc,hm,fun j hj=>?_⟩
  obtain ⟨h0,u,h1,h2⟩:=hcell j hj;refine ⟨?_,u, ?_,h2.carry hb⟩
  ·rw [hb.cell (World.block_lt_of_cell? w _ h0)];exact h0
  ·rw [hb.cell (World.block_lt_of_cell? w _ h1)];exact h1
theorem RdA.carry {w w':World} {v:Value} {l:List Ac} (h:RdA w v l) (hb:Below w.heap.size w w'):RdA w' v l:=by
 rcases h with h | ⟨b,off,c,rfl,hc,hm,hcell⟩
 ·exact .inl h
 ·refine .inr ⟨b,off,c,rfl,hc,hm,fun j hj=>?_⟩
  obtain ⟨h0,h1,u,h2,h3⟩:=hcell j hj;refine ⟨?_, ?_,u, ?_,h3.carry hb⟩
  ·rw [hb.cell (World.block_lt_of_cell? w _ h0)];exact h0
  ·rw [hb.cell (World.block_lt_of_cell? w _ h1)];exact h1
  ·rw [hb.cell (World.block_lt_of_cell? w _ h2)];exact h2
theorem RdD.carry {w w':World} {v:Value} {d:Dk} (h:RdD w v d) (hb:Below w.heap.size w w'):RdD w' v d:=by
 obtain ⟨x,y,z,rfl,h1,h2,h3⟩:=h;exact ⟨x,y,z,rfl,h1.carry hb,h2.carry hb,h3.carry hb⟩
theorem Rd.form {w:World} {v:Value} {l:List UInt8} (h:Rd w v l):∃a c,v=.slice a l.length c:=by
 rcases h with ⟨rfl,rfl | ⟨a,c,rfl⟩⟩ | ⟨b,off,c,rfl,_⟩<;>exact ⟨_,_,rfl⟩
theorem RdW.form {w:World} {v:Value} {l:List Pu} (h:RdW w v l):∃a c,v=.slice a l.length c:=by
 rcases h with ⟨rfl,rfl | ⟨a,c,rfl⟩⟩ | ⟨b,off,c,rfl,_⟩<;>exact ⟨_,_,rfl⟩
theorem RdA.form {w:World} {v:Value} {l:List Ac} (h:RdA w v l):∃a c,v=.slice a l.length c:=by
 rcases h with ⟨rfl,rfl | ⟨a,c,rfl⟩⟩ | ⟨b,off,c,rfl,_⟩<;>exact ⟨_,_,rfl⟩
theorem Rd.len_le {w:World} {v:Value} {l:List UInt8} (h:Rd w v l):l.length≤maxLen:=by
 rcases h with ⟨rfl,_⟩ | ⟨b,off,c,rfl,h1,h2,_⟩
 ·simp [maxLen]
 ·omega
theorem RdW.len_le {w:World} {v:Value} {l:List Pu} (h:RdW w v l):l.length≤maxLen:=by
 rcases h with ⟨rfl,_⟩ | ⟨b,off,c,rfl,h1,h2,_⟩
 ·simp [maxLen]
 ·omega
theorem RdA.len_le {w:World} {v:Value} {l:List Ac} (h:RdA w v l):l.length≤maxLen:=by
 rcases h with ⟨rfl,_⟩ | ⟨b,off,c,rfl,h1,h2,_⟩
 ·simp [maxLen]
 ·omega
theorem RdW.at {w:World} {a:Option Addr} {n c:Nat} {l:List Pu} (h:RdW w (.slice a n c) l) (j:Nat) (hj:j<l.length):
  ∃b off,a=some ⟨b,off,none⟩∧w.cell? ⟨b,off+j*2,none⟩=some (.int .i64 (l[j]).1)∧∃x m d,w.cell? ⟨b,off+j*2+1,none⟩=some (.slice x m d)∧Rd w (.slice x m d) (l[j]).2∧m=(l[j]).2.length:=by
 rcases h with ⟨rfl,_⟩ | ⟨b,off,c',e,_,_,hc⟩
 ·exact absurd hj (by simp)
 ·cases e
  obtain ⟨h0,u,h1,h2⟩:=hc j hj;obtain ⟨x,d,rfl⟩:=h2.form;exact ⟨b,off,rfl,h0,x,_,d,h1,h2,rfl⟩
theorem RdA.at {w:World} {a:Option Addr} {n c:Nat} {l:List Ac} (h:RdA w (.slice a n c) l) (j:Nat) (hj:j<l.length):
  ∃b off,a=some ⟨b,off,none⟩∧w.cell? ⟨b,off+j*3,none⟩=some (.bool (l[j]).1)∧w.cell? ⟨b,off+j*3+1,none⟩=some (.int .i64 (l[j]).2.1)∧∃x m d,w.cell? ⟨b,off+j*3+2,none⟩=some (.slice x m d)∧Rd w (.slice x m d) (l[j]).2.2∧m=(l[j]).2.2.length:=by
 rcases h with ⟨rfl,_⟩ | ⟨b,off,c',e,_,_,hc⟩
 ·exact absurd hj (by simp)
 ·cases e
  obtain ⟨h0,h0',u,h1,h2⟩:=hc j hj;obtain ⟨x,d,rfl⟩:=h2.form;exact ⟨b,off,rfl,h0,h0',x,_,d,h1,h2,rfl⟩
theorem RdD.form {w:World} {v:Value} {d:Dk} (h:RdD w v d):∃a1 c1 a2 c2 a3 c3,v=.agg #[.slice a1 d.1.length c1,.slice a2 d.2.1.length c2,.slice a3 d.2.2.length c3]∧Rd w (.slice a1 d.1.length c1) d.1∧RdW w (.slice a2 d.2.1.length c2) d.2.1∧RdA w (.slice a3 d.2.2.length c3) d.2.2:=by
 obtain ⟨x,y,z,rfl,h1,h2,h3⟩:=h;obtain ⟨a1,c1,rfl⟩:=h1.form;obtain ⟨a2,c2,rfl⟩:=h2.form;obtain ⟨a3,c3,rfl⟩:=h3.form;exact ⟨a1,c1,a2,c2,a3,c3,rfl,h1,h2,h3⟩
theorem qib (a1 a2 a3:Option Addr) (n1 c1 n2 c2 n3 c3:Nat) (hn:n1≤maxLen) (w:World):
  Calls Tryz.prog 185 #[.agg #[.slice a1 n1 c1,.slice a2 n2 c2,.slice a3 n3 c3]] w fun e w'=>e=.returned (.int .i64 (n1 / 128:Nat))∧Below w.heap.size w w':=by
 unfold maxLen at hn
 go_enter Tryz.func185,Tryz.ntmps185
 go_wp2;go_ret
 have e:wrap64 ((n1:Int) / 128)=((n1 / 128:Nat):Int):=by unfold wrap64;omega
 exact ⟨by simp [e],(Below.refl _ _).alloc (Nat.le_refl _) _⟩
theorem qje (a1 a2 a3:Option Addr) (n1 c1 n2 c2 n3 c3:Nat) (hn:n1≤maxLen) (N:Int) (x:Option Addr) (m d:Nat) (l:List UInt8) (hm:m=l.length) (w:World):
  Calls Tryz.prog 187 #[.agg #[.slice a1 n1 c1,.slice a2 n2 c2,.slice a3 n3 c3],.agg #[.int .i64 N,.slice x m d]] w fun e w'=>e=.returned (.int .i64 (putE (n1 / 128) (N,l)))∧Below w.heap.size w w':=by
 have HP:Hid (putE (n1 / 128) (N,l)=if N<0∨((n1 / 128:Nat):Int)≤N then 2 else if m≠128 then 3 else 0):=by show _=_;rw [hm];rfl
 clear hm;generalize putE (n1 / 128) (N,l)=r at HP ⊢
 by_cases h0:N<0
 ·have HR:=hide (show r=2 by rw [HP.out,if_pos (.inl h0)])
  clear HP
  go_enter Tryz.func187,Tryz.ntmps187
  go_wp2;have hK:Keeps (fun wx=>wx.cell? ⟨w.heap.size,0,none⟩=some (.slice a1 n1 c1)∧wx.cell? ⟨w.heap.size,1,none⟩=some (.slice a2 n2 c2)∧wx.cell? ⟨w.heap.size,2,none⟩=some (.slice a3 n3 c3)∧wx.cell? ⟨w.heap.size+1,0,none⟩=some (.int .i64 N)∧wx.cell? ⟨w.heap.size+1,1,none⟩=some (.slice x m d)∧Below w.heap.size w wx):=(qaa _ _).and ((qaa _ _).and ((qaa _ _).and ((qaa _ _).and ((qaa _ _).and (qal w)))))
  refine qaj hK (by kernel_rfl) ⟨by simp,by simp,by simp,by simp,by simp,((Below.refl _ _).alloc (Nat.le_refl _) _).alloc (by simp) _⟩ ?_
  intro hS
  refine qah [0,1,2,3,4,5,6,7,8,9] (fuel:=0) (a':=?zp1a) (by kernel_rfl) (by kernel_rfl) (by kernel_rfl) ?zp1p hS ?zp1n
  case zp1p=>
   iterate 4 (apply Yl.cons rfl (by kernel_rfl);focus (rintro wx ⟨x1,x2,x3,x4,x5,x6⟩;go_simp;all_goals (with_reducible rfl));try simp only [Act.put,sA,sB,sC])
   iterate 5 (apply Yl.skip rfl (by kernel_rfl);try simp only [Act.put,sA,sB,sC])
   iterate 1 (apply Yl.cons rfl (by kernel_rfl);focus (rintro wx ⟨x1,x2,x3,x4,x5,x6⟩;go_simp;all_goals (with_reducible rfl));try simp only [Act.put,sA,sB,sC])
   exact Yl.nil
  refine wpAnyH_done (by kernel_rfl) ?_ _
  refine NoPanic.normal ?_
  obtain ⟨x1,x2,x3,x4,x5,hb⟩:=hS;go_wp2;go_ret;exact ⟨by rw [HR.out];rfl,hb⟩
 ·have h0':decide (N<0)=false:=by simpa using h0
  by_cases h1:((n1 / 128:Nat):Int)≤N
  ·have HR:=hide (show r=2 by rw [HP.out,if_pos (.inr h1)])
   clear HP
   go_enter Tryz.func187,Tryz.ntmps187
   go_wp2;have hK:Keeps (fun wx=>wx.cell? ⟨w.heap.size,0,none⟩=some (.slice a1 n1 c1)∧wx.cell? ⟨w.heap.size,1,none⟩=some (.slice a2 n2 c2)∧wx.cell? ⟨w.heap.size,2,none⟩=some (.slice a3 n3 c3)∧wx.cell? ⟨w.heap.size+1,0,none⟩=some (.int .i64 N)∧wx.cell? ⟨w.heap.size+1,1,none⟩=some (.slice x m d)∧Below w.heap.size w wx):=(qaa _ _).and ((qaa _ _).and ((qaa _ _).and ((qaa _ _).and ((qaa _ _).and (qal w)))))
   refine qaj hK (by kernel_rfl) ⟨by simp,by simp,by simp,by simp,by simp,((Below.refl _ _).alloc (Nat.le_refl _) _).alloc (by simp) _⟩ ?_
   intro hS
   refine qah [0,1,2,3,4,5,6] (fuel:=3) (a':=?zp2a) (by kernel_rfl) (by kernel_rfl) (by kernel_rfl) ?zp2p hS ?zp2n
   case zp2p=>
    iterate 7 (apply Yl.cons rfl (by kernel_rfl);focus (rintro wx ⟨x1,x2,x3,x4,x5,x6⟩;go_simp;all_goals (with_reducible rfl));try simp only [Act.put,sA,sB,sC])
    exact Yl.nil
   refine qar hK (i:=7) (v:=.int .i64 (n1 / 128:Nat)) rfl (by kernel_rfl) (by rfl) (by go_simp) hS (qib a1 a2 a3 n1 c1 n2 c2 n3 c3 hn _) ?_
   clear hS;intro w12 hS
   try simp only [Act.put,sA,sB,sC]
   refine qah [8,9] (fuel:=0) (a':=?zp3a) (by kernel_rfl) (by kernel_rfl) (by kernel_rfl) ?zp3p hS ?zp3n
   case zp3p=>
    iterate 2 (apply Yl.cons rfl (by kernel_rfl);focus (rintro wx ⟨x1,x2,x3,x4,x5,x6⟩;go_simp;all_goals (with_reducible rfl));try simp only [Act.put,sA,sB,sC])
    exact Yl.nil
   refine wpAnyH_done (by kernel_rfl) ?_ _
   refine NoPanic.normal ?_
   obtain ⟨x1,x2,x3,x4,x5,hb⟩:=hS;go_wp2;go_ret;exact ⟨by rw [HR.out];rfl,hb⟩
  ·have HR:=hide (show r=if m≠128 then 3 else 0 by rw [HP.out,if_neg (by omega)])
   have h1':decide (((n1 / 128:Nat):Int)≤N)=false:=by simpa using h1
   clear HP
   go_enter Tryz.func187,Tryz.ntmps187
   go_wp2;have hK:Keeps (fun wx=>wx.cell? ⟨w.heap.size,0,none⟩=some (.slice a1 n1 c1)∧wx.cell? ⟨w.heap.size,1,none⟩=some (.slice a2 n2 c2)∧wx.cell? ⟨w.heap.size,2,none⟩=some (.slice a3 n3 c3)∧wx.cell? ⟨w.heap.size+1,0,none⟩=some (.int .i64 N)∧wx.cell? ⟨w.heap.size+1,1,none⟩=some (.slice x m d)∧Below w.heap.size w wx):=(qaa _ _).and ((qaa _ _).and ((qaa _ _).and ((qaa _ _).and ((qaa _ _).and (qal w)))))
   refine qaj hK (by kernel_rfl) ⟨by simp,by simp,by simp,by simp,by simp,((Below.refl _ _).alloc (Nat.le_refl _) _).alloc (by simp) _⟩ ?_
   intro hS
   refine qah [0,1,2,3,4,5,6] (fuel:=3) (a':=?zp4a) (by kernel_rfl) (by kernel_rfl) (by kernel_rfl) ?zp4p hS ?zp4n
   case zp4p=>
    iterate 7 (apply Yl.cons rfl (by kernel_rfl);focus (rintro wx ⟨x1,x2,x3,x4,x5,x6⟩;go_simp;all_goals (with_reducible rfl));try simp only [Act.put,sA,sB,sC])
    exact Yl.nil
   refine qar hK (i:=7) (v:=.int .i64 (n1 / 128:Nat)) rfl (by kernel_rfl) (by rfl) (by go_simp) hS (qib a1 a2 a3 n1 c1 n2 c2 n3 c3 hn _) ?_
   clear hS;intro w12 hS
   try simp only [Act.put,sA,sB,sC]
   refine qah [8,9] (fuel:=0) (a':=?zp5a) (by kernel_rfl) (by kernel_rfl) (by kernel_rfl) ?zp5p hS ?zp5n
   case zp5p=>
    iterate 2 (apply Yl.cons rfl (by kernel_rfl);focus (rintro wx ⟨x1,x2,x3,x4,x5,x6⟩;go_simp;all_goals (with_reducible rfl));try simp only [Act.put,sA,sB,sC])
    exact Yl.nil
   refine wpAnyH_done (by kernel_rfl) ?_ _
   refine NoPanic.normal ?_
   obtain ⟨x1,x2,x3,x4,x5,hb⟩:=hS
   by_cases hm:m=128
   ·subst hm
    go_wp2;go_ret;exact ⟨by rw [HR.out];rfl,hb⟩
   ·have hm':((m:Int) !=128)=true:=by simpa using (by omega:¬(m:Int)=128)
    go_wp2;go_ret;exact ⟨by rw [HR.out,if_pos hm];rfl,hb⟩
theorem qjf (a1 a2 a3:Option Addr) (n1 c1 n2 c2 n3 c3:Nat) (hn:n1≤maxLen) (s:Bool) (N:Int) (x:Option Addr) (m d:Nat) (l:List UInt8) (hm:m=l.length) (w:World):
  Calls Tryz.prog 138 #[.agg #[.slice a1 n1 c1,.slice a2 n2 c2,.slice a3 n3 c3],.agg #[.bool s,.int .i64 N,.slice x m d]] w fun e w'=>e=.returned (.int .i64 (actE (n1 / 128) (s,N,l)))∧Below w.heap.size w w':=by
 cases s
 ·have HM:=hide hm
  clear hm
  go_enter Tryz.func138,Tryz.ntmps138
  go_wp2_with fail
  refine (qje a1 a2 a3 n1 c1 n2 c2 n3 c3 hn N x m d l HM.out _).mono ?_
  rintro e w1 ⟨rfl,hb⟩;have hb1:=((Below.refl w.heap.size w).alloc (Nat.le_refl _) _ |>.alloc (by simp) _).trans (hb.mono (by simp;omega));clear hb;go_wp2;go_ret;exact ⟨rfl,hb1⟩
 ·have HP:Hid (actE (n1 / 128) (true,N,l)=if N≠0∨l≠[] then 8 else 0):=rfl
  generalize actE (n1 / 128) (true,N,l)=r at HP ⊢
  have hb1:∀o o',Below w.heap.size w ((w.alloc o).alloc o'):=fun o o'=>((Below.refl w.heap.size w).alloc (Nat.le_refl _) _ |>.alloc (by simp) _)
  by_cases h0:N=0
  ·subst h0
   by_cases h1:m=0
   ·have HR:=hide (show r=0 by rw [HP.out,if_neg];rintro (h | h);exact h rfl;exact h (List.length_eq_zero_iff.1 (by omega)))
    subst h1;clear HP hm
    go_enter Tryz.func138,Tryz.ntmps138
    go_wp2;go_ret;exact ⟨by rw [HR.out];rfl,hb1 _ _⟩
   ·have HR:=hide (show r=8 by rw [HP.out,if_pos];exact .inr fun h=>h1 (by rw [hm,h];rfl))
    clear HP hm
    have h1':((m:Int) !=0)=true:=by simpa using (by omega:¬(m:Int)=0)
    go_enter Tryz.func138,Tryz.ntmps138
    go_wp2;go_ret;exact ⟨by rw [HR.out];rfl,hb1 _ _⟩
  ·have HR:=hide (show r=8 by rw [HP.out,if_pos (.inl h0)])
   clear HP hm
   have h0':(N !=0)=true:=by simpa using h0
   go_enter Tryz.func138,Tryz.ntmps138
   go_wp2;go_ret;exact ⟨by rw [HR.out];rfl,hb1 _ _⟩
end Go.Proofs.YthilibleedbchaaGreat

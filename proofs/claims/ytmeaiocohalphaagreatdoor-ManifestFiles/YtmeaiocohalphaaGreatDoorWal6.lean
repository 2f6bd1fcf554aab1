/-
  What wal's put and refused do.
-/
import Derived.Test.YtmeaiocohalphaaGreatDoorRowG
import Derived.Test.YtmeaiocohalphaaGreatDoorRegD
import Derived.Test.YtmeaiocohalphaaGreatDoorFiKit
import Derived.Laws.StructEq
import Derived.Test.YtmeaiocohalphaaGreatDoorFiRef8
import Derived.Test.YtmeaiocohalphaaGreatDoorFsStep
import Derived.Test.YtmeaiocohalphaaGreatDoorMathFs6
import Derived.Test.YtmeaiocohalphaaGreatDoorFiApart
import Derived.Test.YtmeaiocohalphaaGreatDoorFsTop3
set_option maxHeartbeats 2000000
set_option maxRecDepth 100000
namespace Go.Proofs.YtmeaiocohalphaaGreatDoor
open Go.RowKit
set_option linter.all false
theorem qah {a b:Bool} (h:a=b):Ending.returned (.bool a)=.returned (.bool b):=by rw [h]
theorem qqq {a b:Int} (h:a=b):Ending.returned (.int .i64 a)=.returned (.int .i64 b):=by rw [h]
def OwY (w:World) (base:Nat) (v:Value) (l:List UInt8):Prop:=w.ownsRow base 5 1 v l.length (u8v l)
theorem OwY.rd {w:World} {base:Nat} {v:Value} {l:List UInt8} (h:OwY w base v l):Rd w v l:=qfy h
theorem OwY.carry {w w':World} {base:Nat} {v:Value} {l:List UInt8} (h:OwY w base v l) (hb:Below w.heap.size w w'):OwY w' base v l:=qa7 h hb
theorem OwY.form {w:World} {base:Nat} {v:Value} {l:List UInt8} (h:OwY w base v l):∃a c,v=.slice a l.length c:=by
 rcases h.2 with ⟨rfl,hn⟩ | ⟨g,cap,cur,rfl,_⟩
 ·rw [hn];exact ⟨_,_,rfl⟩
 ·exact ⟨_,_,rfl⟩
theorem OwY.mono {w:World} {base base':Nat} {v:Value} {l:List UInt8} (h:OwY w base v l) (hb:base'≤base):OwY w base' v l:=by
 refine ⟨h.1, ?_⟩
 rcases h.2 with h | ⟨g,cap,cur,e,h1,h2⟩
 ·exact .inl h
 ·exact .inr ⟨g,cap,cur,e,Nat.le_trans hb h1,h2⟩
theorem OwY.nil (w:World) (base:Nat):OwY w base (.slice none 0 0) []:=World.ownsRow_nil w base _ _
theorem qag5 {w w':World} {base:Nat} {v:Value} {l:List UInt8} (h:OwY w base v l) (hg:w.grownBy w' v.ownBlock):KeepG 5 w w':=by
 intro j cs t' fr ht hj;rw [hg.block j (Array.getElem?_eq_some_iff.1 hj).1 ?_]
 ·exact hj
 ·intro e
  rcases h.2 with ⟨rfl,hn⟩ | ⟨g,cap,cur,rfl,_,hg2,_⟩
  ·cases e
  ·cases e
   rw [hj] at hg2;cases hg2;exact ht rfl
theorem qm2 {w:World} {base:Nat} {v:Value} {l:List UInt8} (h:OwY w base v l) (hb:base≤w.heap.size) {vx:Value} {l2:List UInt8} (h2:Rd w vx l2) (hl:l.length+l2.length≤1000000000):
  ∃a n c w',Hid (n=(l++l2).length)∧(Builtin.append_ #[23,23] 23 #[v,vx]).run Tryz.prog w=.ok (.slice a n c) w'∧OwY w' base (.slice a n c) (l++l2)∧Below base w w'∧KeepG 5 w w':=by
 obtain ⟨i0,hi,hz0,hz1,hz2⟩:=info_parts Tryz.infoB
 have key:∀ad m c,vx=.slice (some ad) m c→m=l2.length→(∀j u,(u8v l2)[j]? =some u→w.cell? (ad.add j)=some u)→∃a n c w',Hid (n=(l++l2).length)∧(Builtin.append_ #[23,23] 23 #[v,vx]).run Tryz.prog w=.ok (.slice a n c) w'∧OwY w' base (.slice a n c) (l++l2)∧Below base w w'∧KeepG 5 w w':=by
  rintro ad m c rfl rfl hn8;obtain ⟨v9,w9,hrun9,hown9,hg9,_⟩:=run_append_own (P:=Tryz.prog) w base 23 23 5 i0 _ 1 1 Tryz.underlying23 hi hz0 hz1 hz2 rfl (by decide) _ _ _ h ad l2.length c (u8v l2) (by simp [u8v]) hn8 (qcx l2) (by unfold maxLen;omega) (by omega) hb
  have hb9:Below base w w9:=(Below.refl _ _).grown hg9 hb fun k hk=>(h.lt k hk).1
  rw [←List.length_append,←qd6] at hown9;have ho:OwY w9 base v9 (l++l2):=hown9;obtain ⟨b,c',rfl⟩:=ho.form;exact ⟨b,_,c',w9,hide rfl,hrun9,ho,hb9,qag5 h hg9⟩
 rcases h2 with ⟨rfl,rfl | ⟨x,d,rfl⟩⟩ | ⟨b,off,c',rfl,hc,hm,hcell⟩
 ·obtain ⟨b,c',rfl⟩:=h.form
  refine ⟨b,_,c',w,hide rfl, ?_,by simpa using h,Below.refl _ _,KeepG.below (Below.refl _ _)⟩;rw [List.append_nil];exact run_append_owned_none (P:=Tryz.prog) (w:=w) base 23 23 5 i0 1 Tryz.underlying23 hi _ _ _ h
 ·exact key _ _ _ rfl rfl (fun j u hj=>by simp [u8v] at hj)
 ·refine key _ _ _ rfl rfl fun j u hj=>?_
  obtain ⟨hj',rfl⟩:=qce l2 j u hj
  rw [Addr.add_lit];exact hcell j hj'
theorem qdw {w:World} {v:Value} {l:List UInt8} (h:Rd w v l):(convert 23 9 v).run Tryz.prog w=.ok (.string (bs l)) w:=qb1 _ _ _ Tryz.underlying23 Tryz.underlying5 Tryz.underlying9 h
theorem qar {P:Program} {w w':World} {ops:Array Oper} {rest:List Oper} {o:Oper} {a:Act} {Q:Exit→Act→World→Prop} (hgd:o.guard=none) (s x:Operand) (t:TypeId)
  (ho:o.op=.call {callee:=.builtin .append,args:=#[s,x],argTypes:=#[t,t]}) (hty:o.type=t) {v vx v':Value} (hs:a.eval s=v) (hx:a.eval x=vx)
  (hrun:(Builtin.append_ #[t,t] t #[v,vx]).run P w=.ok v' w') (h:wpList P ops Q rest (a.put o.dst v') w'):wpList P ops Q (o::rest) a w:=by
 refine wpList_plain hgd fun K hK=>?_
 unfold Oper.wp execOp
 simp only [ho,hty,resolve,invoke,builtin,Sem.run_bind,Sem.run_pure,Result.andThen_ok,List.map_toArray,List.map_cons,List.map_nil,hs,hx,hrun]
 exact hK _ _ h
theorem qak8 (n:Nat) (w:World) (hn:n<18446744073709551616):Calls Tryz.prog 86 #[.int .u64 n] w fun e w'=>∃v,e=.returned v∧OwY w' w.heap.size v (sm n)∧Below w.heap.size w w':=qlw n w hn
theorem qag6 (n:Nat) (w:World) (hn:n<18446744073709551616):Calls Tryz.prog 133 #[.int .u64 n] w fun e w'=>∃v,e=.returned v∧OwY w' w.heap.size v (sm n)∧Below w.heap.size w w':=qjh n w hn
theorem qadb (s:List UInt8) (w:World) (hs:s.length≤1000000):Calls Tryz.prog 60 #[.string (bs s)] w fun e w'=>∃v,e=.returned v∧OwY w' w.heap.size v (tx s)∧Below w.heap.size w w':=by
 have:=qws (bs s) w (by rw [qbz];omega)
 rwa [qbu] at this
theorem qjl (s:List UInt8) (w:World) (hs:s.length≤1000000):Calls Tryz.prog 63 #[.string (bs s)] w fun e w'=>∃v,e=.returned v∧OwY w' w.heap.size v (tx s)∧Below w.heap.size w w':=by
 have:=qsc (bs s) w (by rw [qbz];omega)
 rwa [qbu] at this
theorem qgj {B:Nat} {w w':World} (h:Below B w w') (n:Nat):Below B w (w'.drewN n):=⟨h.os,h.tape,h.output,h.size,h.block⟩
def Bx (w:World) (p:Nat) (t:TypeId) (cs:Array Value):Prop:=w.heap[p]? =some (.cells cs t (0,0))
theorem Bx.lt {w:World} {p:Nat} {t:TypeId} {cs:Array Value} (h:Bx w p t cs):p<w.heap.size:=(Array.getElem?_eq_some_iff.1 h).1
theorem Bx.carry {w w':World} {p:Nat} {t:TypeId} {cs:Array Value} (h:Bx w p t cs) (hb:Below w.heap.size w w'):Bx w' p t cs:=(hb.block _ h.lt).trans h
theorem Bx.keep {w w':World} {p:Nat} {t t0:TypeId} {cs:Array Value} (h:Bx w p t cs) (hk:KeepG t0 w w') (ht:t≠t0):Bx w' p t cs:=hk p _ _ _ ht h
theorem Bx.cell {w:World} {p:Nat} {t:TypeId} {cs:Array Value} (h:Bx w p t cs) (j:Nat):w.cell? ⟨p,j,none⟩=cs[j]?:=cell_of_row w p j cs t (0,0) h
theorem Bx.at {w:World} {p:Nat} {t:TypeId} {cs:Array Value} (h:Bx w p t cs) (j:Nat) {u:Value} (hu:cs[j]? =some u):w.cell? ⟨p,j,none⟩=some u:=(h.cell j).trans hu
theorem Bx.fz {w:World} {p:Nat} {t:TypeId} {cs:Array Value} (h:Bx w p t cs) (j:Nat):w.frozen? ⟨p,j,none⟩=false:=frozen_of_row w p j _ _ h
theorem Bx.new (w:World) (t:TypeId) (cs:Array Value):Bx (w.alloc (.cells cs t)) w.heap.size t cs:=heap_alloc_new w _
theorem Bx.put {w:World} {p:Nat} {t:TypeId} {cs:Array Value} (h:Bx w p t cs) (j:Nat) (v:Value):Bx (w.setCell ⟨p,j,none⟩ v) p t (cs.setIfInBounds j v):=heap_setCell_same w p j cs t v h
theorem Bx.other {w:World} {p q:Nat} {t:TypeId} {cs:Array Value} (h:Bx w p t cs) (hne:p≠q) (j:Nat) (v:Value):Bx (w.setCell ⟨q,j,none⟩ v) p t cs:=(heap_setCell_other w ⟨q,j,none⟩ p v (fun e:p=q=>hne e)).trans h
theorem qcj {w:World} {p:Nat} {t:TypeId} {cs:Array Value} (h:Bx w p t cs) (j:Nat) (v:Value):KeepG t w (w.setCell ⟨p,j,none⟩ v):=by
 intro k cs' t' fr ht hk
 have hne:k≠p:=by
  rintro rfl;unfold Bx at h;rw [h] at hk;cases hk;exact ht rfl
 exact (heap_setCell_other w ⟨p,j,none⟩ k v (fun e:k=p=>hne e)).trans hk
theorem qcm {B:Nat} {W w:World} (h:Below B W w) {p:Nat} (hp:B≤p) (j:Nat) (v:Value):Below B W (w.setCell ⟨p,j,none⟩ v):=
 ⟨h.os,h.tape,h.output,by simpa using h.size,fun k hk=>(heap_setCell_other w ⟨p,j,none⟩ k v (fun e:k=p=>by omega)).trans (h.block k hk)⟩
theorem OwG.keep {α:Type} {sz:Nat} {ec:α→List Value} {t t0:TypeId} {w w':World} {base:Nat} {v:Value} {l:List α} (h:OwG sz ec t w base v l) (hk:KeepG t0 w w') (ht:t≠t0):OwG sz ec t w' base v l:=by
 refine ⟨h.1, ?_⟩
 rcases h.2 with h | ⟨g,cap,cur,e,h1,h2,h3⟩
 ·exact .inl h
 ·exact .inr ⟨g,cap,cur,e,h1,hk g _ _ _ ht h2,h3⟩
theorem qkw {w:World} {v:Value} {l:List UInt8} (h:Rd w v l):∃a c,v=.slice a l.length c:=by
 rcases h with ⟨rfl,rfl | ⟨a,c,rfl⟩⟩ | ⟨b,off,c,rfl,_⟩<;>exact ⟨_,_,rfl⟩
theorem qxv {w:World} {a:Option Addr} {n c:Nat} {l:List UInt8} (h:Rd w (.slice a n c) l) (j:Nat) (hj:j<l.length):∃g off,a=some ⟨g,off,none⟩∧w.cell? ⟨g,off+j,none⟩=some (.int .u8 (l[j]).toNat):=by
 rcases h with ⟨rfl,_⟩ | ⟨b,off,c',e,_,_,hc⟩
 ·exact absurd hj (by simp)
 ·cases e
  exact ⟨b,off,rfl,hc j hj⟩
theorem qadc {b off n c k:Nat} {l:List UInt8} (hn:n=l.length) (hc:n≤c) (hm:c≤maxLen) (hk:k≤n) (hkc:k≠c):∀wx,Rd wx (.slice (some ⟨b,off,none⟩) n c) l→Rd wx (.slice (some ⟨b,off+k,none⟩) (l.drop k).length (c - k)) (l.drop k):=by
 subst hn;have hl:(l.drop k).length=l.length - k:=List.length_drop;intro wx h
 rcases h with ⟨h,_⟩ | ⟨b',off',c',e,h1,h2,h3⟩
 ·have:l.drop k=[]:=by rw [h];simp
  rw [this];exact .inl ⟨rfl,.inr ⟨_,_,rfl⟩⟩
 ·cases e
  refine .inr ⟨b,off+k,c - k,rfl,by omega,by omega,fun j hj=>?_⟩;rw [List.getElem_drop,Nat.add_assoc];exact h3 (k+j) (by omega)
theorem sizeY (wx:World):(sizeOf (Tryz.prog.elem 23)).run Tryz.prog wx=.ok 1 wx:=by
 rw [show Tryz.prog.elem 23=5 by kernel_rfl];obtain ⟨i0,hi,hz0,hz1,hz2⟩:=info_parts Tryz.infoB
 simp [sizeOf,typeInfo,hi,hz1]
theorem qai5 {w:World} {a:Option Addr} {n c:Nat} {l:List UInt8} (h:Rd w (.slice a n c) l) (k:Nat) (hk:k≤l.length):
  ∃a2 c2,(∀wx,(Instr.slice 23 (.slice a n c) (some (.int .i64 k)) none none).run Tryz.prog wx=.ok (.slice a2 (n - k) c2) wx)∧∀wx,Rd wx (.slice a n c) l→Rd wx (.slice a2 (n - k) c2) (l.drop k):=by
 obtain ⟨a',c',e⟩:=qkw h;cases e
 have run:∀wx,(Instr.slice 23 (.slice a l.length c) (some (.int .i64 k)) none none).run Tryz.prog wx=.ok (sliced a k l.length c 1) wx:=by
  intro wx;rw [run_slice_l wx 23 a l.length c (by kernel_rfl) .i64 k (by omega) (by omega),sizeY wx]
  simp [Result.andThen]
 unfold sliced at run
 rcases h with ⟨rfl,e | ⟨x,d,e⟩⟩ | ⟨b,off,c',e,h1,h2,h3⟩
 ·cases e
  obtain rfl:k=0:=by simpa using hk
  exact ⟨none,0,by simpa using run,fun wx _=>by simpa using (show Rd wx (.slice none 0 0) [] from .inl ⟨rfl,.inl rfl⟩)⟩
 ·cases e
  obtain rfl:k=0:=by simpa using hk
  by_cases hc:c=0
  ·exact ⟨some x,c,by simpa [hc] using run,fun wx _=>by simpa using (show Rd wx (.slice (some x) 0 c) [] from .inl ⟨rfl,.inr ⟨_,_,rfl⟩⟩)⟩
  ·exact ⟨some (x.add 0),c,by simpa [hc] using run,fun wx _=>by simpa using (show Rd wx (.slice (some (x.add 0)) 0 c) [] from .inl ⟨rfl,.inr ⟨_,_,rfl⟩⟩)⟩
 ·cases e
  by_cases hck:c=k
  ·refine ⟨some ⟨b,off,none⟩,c - k,by simpa [hck] using run,fun wx _=>?_⟩
   have e1:l.drop k=[]:=List.drop_of_length_le (by omega);rw [e1,show l.length - k=0 by omega];exact .inl ⟨rfl,.inr ⟨_,_,rfl⟩⟩
  ·refine ⟨some ⟨b,off+k,none⟩,c - k,by simpa [hck,Addr.add_lit] using run,fun wx hx=>?_⟩
   have:=qadc rfl h1 h2 hk (Ne.symm hck) wx hx
   rwa [List.length_drop] at this
theorem qqr {w:World} {a:Option Addr} {n c:Nat} {l:List UInt8} (h:Rd w (.slice a n c) l) (k:Nat) (hk:k≤l.length):n≤c∧Rd w (.slice a k c) (l.take k):=by
 rcases h with ⟨rfl,e | ⟨x,d,e⟩⟩ | ⟨b,off,c',e,h1,h2,h3⟩
 ·cases e
  obtain rfl:k=0:=by simpa using hk
  exact ⟨Nat.le_refl _,.inl ⟨rfl,.inl rfl⟩⟩
 ·cases e
  obtain rfl:k=0:=by simpa using hk
  exact ⟨Nat.zero_le _,.inl ⟨rfl,.inr ⟨_,_,rfl⟩⟩⟩
 ·cases e
  have e1:(l.take k).length=k:=by rw [List.length_take];omega
  refine ⟨h1,.inr ⟨b,off,c,by rw [e1],by omega,h2,fun j hj=>?_⟩⟩;rw [List.getElem_take];exact h3 j (by omega)
theorem qor {P:Program} {w:World} {ops:Array Oper} {rest:List Oper} {o:Oper} {a:Act} {Q:Exit→Act→World→Prop} (hgd:o.guard=none) (x lo:Operand) (t:TypeId) (ht:P.underlying t=some (.slice (P.elem t)))
  (ho:o.op=.slice t x (some lo) none none) {v vl v':Value} (hx:a.eval x=v) (hlo:a.eval lo=vl) (hrun:∀wx,(Instr.slice t v (some vl) none none).run P wx=.ok v' wx) (h:wpList P ops Q rest (a.put o.dst v') w):wpList P ops Q (o::rest) a w:=by
 refine wpList_plain hgd fun K hK=>?_
 unfold Oper.wp execOp
 simp only [ho,Option.map_some,Option.map_none,hx,hlo,run_sliceAt_slice w t _ _ _ _ ht,Sem.run_bind,hrun w,Result.andThen_ok,Sem.run_pure]
 exact hK _ _ h
def qak9:Value→Nat
 | .slice _ n _=>n
 | _=>0
theorem qvf (l:List UInt8):splice (List.replicate 128 0) 0 (l.take 128)=padM (l.take 128):=by
 rw [qzb];unfold padB padM;rw [List.length_take]
 congr 2
 omega
theorem qai6 (n k:Nat):k<whN n↔k=0∨128*k<n:=by unfold whN;omega
theorem qtc (a:Option Addr) (n c:Nat) (b:List UInt8) (w:World) (hrd:Rd w (.slice a n c) b) (hn:n=b.length) (hl:b.length≤1000000):
  Calls Tryz.prog 43 #[.slice a n c] w fun e w'=>∃v,e=.returned v∧OwBB w' w.heap.size v (blkM b)∧Below w.heap.size w w':=by
 have hm:n≤1000000:=by omega
 have HR:=hide hrd;have HN:=hide hn;have HWT:=hide (show whN n≤1000000 by unfold whN;omega);clear hrd hn hl
 go_enter Tryz.func43,Tryz.ntmps43
 go_wp2
 go_loopw [0,3] (fun bv v wr=>∃(k m:Nat) (ab av:Option Addr) (cb cv:Nat),k≤whN n∧m=n - 128*k∧bv=.slice ab m cb∧v=.slice av k cv∧Hid (Rd w (.slice ab m cb) (b.drop (128*k)))∧Hid (OwBB wr w.heap.size (.slice av k cv) ((blkM b).take k))∧Hid (Below w.heap.size w wr)) (fun _ v _=>whN n - qak9 v)
 case atStart=>exact ⟨0,n,a,none,c,0,Nat.zero_le _,by omega,rfl,rfl,hide (by rw [Nat.mul_zero,List.drop_zero];exact HR.out),hide (by rw [List.take_zero];exact OwBB.nil _ _),hide (Below.refl _ _)⟩
 case round=>
  obtain ⟨k,m,ab,av,cb,cv,hk,hmk,rfl,rfl,hrd,hown,hbel⟩:=hrel
  by_cases hgo:k<whN n
  ·have hkl:k<(blkM b).length:=by rw [qd5,←HN.out];exact hgo
   have HT:=hide (show (blkM b).take (k+1)=(blkM b).take k++[padM ((b.drop (128*k)).take 128)] by
    rw [List.take_succ_eq_append_getElem hkl,qxs])
   have HTL:=hide (show ((blkM b).take k).length=k by rw [List.length_take];omega)
   have hdl:(b.drop (128*k)).length=m:=by rw [List.length_drop,←HN.out];omega
   obtain ⟨p,hp⟩:∃p,p=((b.drop (128*k)).take 128).length:=⟨_,rfl⟩
   have hpm:p=min 128 m:=by rw [hp,List.length_take,hdl]
   have HP:=hide hp.symm;obtain ⟨a2,c2,hsl,hsr⟩:=qai5 hrd.out p (by omega)
   have HS2:=hide (show Rd w (.slice a2 (m - p) c2) (b.drop (128*(k+1))) by
    have h9:=hsr w hrd.out;rw [List.drop_drop] at h9
    rcases Nat.lt_or_ge m 128 with h8 | h8
    ·have e1:b.drop (128*k+p)=[]:=List.drop_eq_nil_of_le (by rw [List.length_drop] at hdl;omega)
     have e2:b.drop (128*(k+1))=[]:=List.drop_eq_nil_of_le (by rw [List.length_drop] at hdl;omega)
     rw [e2];rw [e1] at h9;exact h9
    ·rw [show 128*(k+1)=128*k+p by omega]
     exact h9)
   have HPM:=hide hpm;have HMK:=hide hmk;obtain ⟨w2,hmk2,hO2,hb2⟩:=qacl wr;have hbsz:=hbel.out.size;have HB2:=hide (show Below w.heap.size w w2 from hbel.out.trans (hb2.mono hbsz));have HO2:=hide hO2;have HRS2:=hide (hrd.out.carry HB2.out);have HBs:=hide hb2
   have HAPP:=hide (fun (w3:World) (hg3:w2.grownBy w3 (some wr.heap.size)) (hO3:OwB w3 wr.heap.size (.slice (some ⟨wr.heap.size,0,none⟩) 128 128) (splice (List.replicate 128 0) 0 ((b.drop (128*k)).take 128)))=>by
    have hb3:Below wr.heap.size wr w3:=HBs.out.grown hg3 HBs.out.size (by intro k hk;cases hk;omega);rw [qvf] at hO3;have hpl:(padM ((b.drop (128*k)).take 128)).length=128:=qxr (by rw [HP.out];omega);obtain ⟨g9,c9,w9,hrun,ho9,hb9⟩:=qakt (hown.out.carry hb3) (Nat.le_trans hbsz hb3.size) (by rw [HTL.out];have:=HWT.out;omega) (some ⟨wr.heap.size,0,none⟩) 128 128 _ (hO3.mono hbsz);rw [HTL.out] at hrun ho9;rw [←HT.out] at ho9
    exact (⟨g9,c9,w9,hrun,ho9,(hbel.out.trans (hb3.mono hbel.out.size)).trans hb9⟩:∃g9 c9 w9,(Builtin.append_ #[89,89] 89 #[.slice av k cv,.slice (some ⟨w3.heap.size,0,none⟩) 1 1]).run Tryz.prog (w3.alloc (.cells #[.slice (some ⟨wr.heap.size,0,none⟩) 128 128] 23))=.ok (.slice (some ⟨g9,0,none⟩) (k+1) c9) w9∧OwBB w9 w.heap.size (.slice (some ⟨g9,0,none⟩) (k+1) c9) ((blkM b).take (k+1))∧Below w.heap.size w w9))
   have hmd:n - 128*(k+1)=m - p:=by omega
   have HMD:=hide hmd.symm
   have hcase:k=0∨(((k:Int)==0)=false∧(k==0)=false∧0<m∧(0:Int)<m):=by
    rcases (qai6 n k).1 hgo with h | h
    ·exact .inl h
    ·by_cases h0:k=0
     ·exact .inl h0
     ·exact .inr ⟨by simpa using h0,by simpa using h0,by omega,by omega⟩
   clear hO2 hb2 hsr hp hpm hmk hdl hkl hmd hbsz hm
   rcases hcase with hk0 | ⟨hk1,hk2,hm0,hm1⟩
   ·subst hk0
    go_wp2_with (first | (refine qgf w2 rfl (.tmp 15) (.tmp 16) 23 rfl Tryz.underlying23 Tryz.sizeB wr.heap.size wr.heap.size 128 128 0 128 128 rfl _ _ rfl HRS2.out _ HO2.out (by simp) ?_;intro w3 hg3 hO3;obtain ⟨g9,c9,w9,hrun,ho9,hb9⟩:=HAPP.out w3 hg3 hO3;have HO9:=hide ho9;have HB9:=hide hb9;clear hg3 hO3 ho9 hb9;rw [HP.out]) | (refine qor rfl (.tmp 14) (.tmp 17) 23 (by kernel_rfl) rfl rfl rfl hsl ?_) | (at_builtin;refine qaf rfl (.tmp 19) (.tmp 21) 89 rfl rfl rfl rfl hrun ?_))
    go_roundw
    case rel=>exact ⟨0+1,m - p,a2,_,c2,c9,hgo,HMD.out,rfl,rfl,HS2,HO9,HB9⟩
    case measure=>simp only [qak9];omega
   ·go_wp2_with (first | (refine qgf w2 rfl (.tmp 15) (.tmp 16) 23 rfl Tryz.underlying23 Tryz.sizeB wr.heap.size wr.heap.size 128 128 0 128 128 rfl _ _ rfl HRS2.out _ HO2.out (by simp) ?_;intro w3 hg3 hO3;obtain ⟨g9,c9,w9,hrun,ho9,hb9⟩:=HAPP.out w3 hg3 hO3;have HO9:=hide ho9;have HB9:=hide hb9;clear hg3 hO3 ho9 hb9;rw [HP.out]) | (refine qor rfl (.tmp 14) (.tmp 17) 23 (by kernel_rfl) rfl rfl rfl hsl ?_) | (at_builtin;refine qaf rfl (.tmp 19) (.tmp 21) 89 rfl rfl rfl rfl hrun ?_))
    go_roundw
    case rel=>exact ⟨k+1,m - p,a2,_,c2,c9,hgo,HMD.out,rfl,rfl,HS2,HO9,HB9⟩
    case measure=>simp only [qak9];omega
  ·obtain rfl:k=whN n:=by omega
   have hno:=fun h=>hgo ((qai6 n (whN n)).2 h)
   have h9:¬128*whN n<n:=fun h=>hno (.inr h)
   obtain rfl:m=0:=by omega
   have hk1:((whN n:Int)==0)=false:=by
    have:whN n≠0:=fun h=>hno (.inl h)
    simpa using this
   have hk2:(whN n==0)=false:=by
    have:whN n≠0:=fun h=>hno (.inl h)
    simpa using this
   have HO:=hide (show OwBB wr w.heap.size (.slice av (whN n) cv) (blkM b) by
    have:=hown.out
    rwa [List.take_of_length_le (by rw [qd5,←HN.out];exact Nat.le_refl _)] at this)
   generalize whN n=kk at *;clear hown hno hgo;go_wp2;go_ret;exact ⟨_,rfl,HO.out,hbel.out⟩
def DkB (w:World) (q:Nat):Prop:=∃y0 y1 y2,Bq w q 27 #[y0,y1,y2]
theorem DkB.carry {w w':World} {r:Nat} (h:DkB w r) (hb:Below w.heap.size w w'):DkB w' r:=by
 obtain ⟨v0,v1,v2,h⟩:=h;exact ⟨v0,v1,v2,h.carry hb⟩
theorem DkB.new (w:World):DkB (w.alloc (.cells #[.slice none 0 0,.slice none 0 0,.slice none 0 0] 27)) w.heap.size:=⟨_,_,_,Bq.new _ _ _⟩
end Go.Proofs.YtmeaiocohalphaaGreatDoor
set_option linter.unusedVariables false
namespace Go.Proofs.YtmeaiocohalphaaGreatDoor
def ab7:List Fl:=[([97],[(34,1)])]
def ma (x:List UInt8):Fsd:=((x,[],[]),1,ab7,[])
section
variable {x:List UInt8}
end
end Go.Proofs.YtmeaiocohalphaaGreatDoor
namespace Go.Proofs.YtmeaiocohalphaaGreatDoor
open Go.RowKit
set_option linter.all false
def CellAt (w:World) (b o:Nat) (v:Value):Prop:=w.cell? ⟨b,o,none⟩=some v
theorem CellAt.carry {w w':World} {b o:Nat} {v:Value} (h:CellAt w b o v) (hb:Below w.heap.size w w'):CellAt w' b o v:=qaa _ _ _ _ h hb
theorem qag7 {f:Fsd} (h:okFs f):WfX f:=by
 have h4:=((qb3 f.1).1 (qax h).1).2.2.1;have hk:=(qcl (qxk h)).2;refine ⟨(qr6 h).2, ?_, ?_⟩
 ·intro g hg x hx
  have:=qdy (qg6 h).2.2.1 x ((qmi hg).subset hx)
  unfold wfX;omega
 ·intro g hg x hx
  have:=qdy hk.2.2.1 x ((qmi hg).subset hx)
  unfold wfX;omega
def BelW (w0 w:World):Prop:=Below w0.heap.size w0 w
theorem BelW.refl (w:World):BelW w w:=Below.refl _ _
theorem BelW.carry {w0 w w':World} (h:BelW w0 w) (hb:Below w.heap.size w w'):BelW w0 w':=Below.trans h (hb.mono (Below.size h))
theorem BelW.size {w0 w:World} (h:BelW w0 w):w0.heap.size≤w.heap.size:=Below.size h
theorem qala {x y:FsV} (h:x.val=y.val):x=y:=by
 cases x;cases y
 simp at h
 simp [h]
 omega
theorem qalb {f:Fsd} {s:List UInt8} {at0:Int} {l:List (List UInt8)} (hw:WfX f):∀k,(qdd f s at0 l k).2=0→WfX (qdd f s at0 l k).1
 | 0,_=>hw
 | k+1,h=>by
  rw [qdd] at h ⊢
  by_cases h0:(qdd f s at0 l k).2=0
  ·rw [if_neg (fun e=>e h0)] at h ⊢
   exact qag7 (qxo h).1
  ·rw [if_pos h0] at h;exact absurd h h0
end Go.Proofs.YtmeaiocohalphaaGreatDoor

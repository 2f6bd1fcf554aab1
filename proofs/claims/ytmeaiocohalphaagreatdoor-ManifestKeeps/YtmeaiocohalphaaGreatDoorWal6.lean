/-
  What wal's put and refused do.
-/
import Derived.Test.YtmeaiocohalphaaGreatDoorRowG
import Derived.Test.YtmeaiocohalphaaGreatDoorMathMf
import Derived.Test.YtmeaiocohalphaaGreatDoorFiKit
import Derived.Laws.StructEq
import Derived.Test.YtmeaiocohalphaaGreatDoorDMay
import Derived.Test.YtmeaiocohalphaaGreatDoorFsFn6
import Derived.Test.YtmeaiocohalphaaGreatDoorMathW3
import Derived.Test.YtmeaiocohalphaaGreatDoorMathFs3
import Derived.Test.YtmeaiocohalphaaGreatDoorMathFs6
import Derived.Test.YtmeaiocohalphaaGreatDoorFsFn4
import Derived.Test.YtmeaiocohalphaaGreatDoorMathFs2
import Derived.Test.YtmeaiocohalphaaGreatDoorFsTop3
set_option maxHeartbeats 2000000
set_option maxRecDepth 100000
namespace Go.Proofs.YtmeaiocohalphaaGreatDoor
open Go.RowKit
set_option linter.unusedVariables false
set_option linter.unusedSimpArgs false
theorem qac {a b:Bool} (h:a=b):Ending.returned (.bool a)=.returned (.bool b):=by rw [h]
theorem qqm {a b:Int} (h:a=b):Ending.returned (.int .i64 a)=.returned (.int .i64 b):=by rw [h]
def OwY (w:World) (base:Nat) (v:Value) (l:List UInt8):Prop:=w.ownsRow base 5 1 v l.length (u8v l)
theorem OwY.rd {w:World} {base:Nat} {v:Value} {l:List UInt8} (h:OwY w base v l):Rd w v l:=qjg h
theorem OwY.form {w:World} {base:Nat} {v:Value} {l:List UInt8} (h:OwY w base v l):∃a c,v=.slice a l.length c:=by
 rcases h.2 with ⟨rfl,hn⟩ | ⟨g,cap,cur,rfl,_⟩
 ·rw [hn];exact ⟨_,_,rfl⟩
 ·exact ⟨_,_,rfl⟩
theorem OwY.mono {w:World} {base base':Nat} {v:Value} {l:List UInt8} (h:OwY w base v l) (hb:base'≤base):OwY w base' v l:=by
 refine ⟨h.1, ?_⟩
 rcases h.2 with h | ⟨g,cap,cur,e,h1,h2⟩
 ·exact .inl h
 ·exact .inr ⟨g,cap,cur,e,Nat.le_trans hb h1,h2⟩
theorem OwY.nil (w:World) (base:Nat):OwY w base (.slice none 0 0) []:=World.ownsRow_nil w base _ _
theorem qot {w:World} {v:Value} {l:List UInt8} (h:Rd w v l):(convert 23 9 v).run Tryz.prog w=.ok (.string (bs l)) w:=qio _ _ _ Tryz.underlying23 Tryz.underlying5 Tryz.underlying9 h
theorem qnj {P:Program} {w w':World} {ops:Array Oper} {rest:List Oper} {o:Oper} {a:Act} {Q:Exit→Act→World→Prop} (hgd:o.guard=none) (s x:Operand) (t:TypeId)
  (ho:o.op=.call {callee:=.builtin .append,args:=#[s,x],argTypes:=#[t,t]}) (hty:o.type=t) {v vx v':Value} (hs:a.eval s=v) (hx:a.eval x=vx)
  (hrun:(Builtin.append_ #[t,t] t #[v,vx]).run P w=.ok v' w') (h:wpList P ops Q rest (a.put o.dst v') w'):wpList P ops Q (o::rest) a w:=by
 refine wpList_plain hgd fun K hK=>?_
 unfold Oper.wp execOp
 simp only [ho,hty,resolve,invoke,builtin,Sem.run_bind,Sem.run_pure,Result.andThen_ok,List.map_toArray,List.map_cons,List.map_nil,hs,hx,hrun]
 exact hK _ _ h
theorem qak7 (n:Nat) (w:World) (hn:n<18446744073709551616):Calls Tryz.prog 86 #[.int .u64 n] w fun e w'=>∃v,e=.returned v∧OwY w' w.heap.size v (sm n)∧Below w.heap.size w w':=qlg n w hn
theorem qadf (s:List UInt8) (w:World) (hs:s.length≤1000000):Calls Tryz.prog 60 #[.string (bs s)] w fun e w'=>∃v,e=.returned v∧OwY w' w.heap.size v (tx s)∧Below w.heap.size w w':=by
 have:=qw4 (bs s) w (by rw [qcl];omega)
 rwa [qbw] at this
theorem qfx {B:Nat} {w w':World} (h:Below B w w') (n:Nat):Below B w (w'.drewN n):=⟨h.os,h.tape,h.output,h.size,h.block⟩
def Bx (w:World) (p:Nat) (t:TypeId) (cs:Array Value):Prop:=w.heap[p]? =some (.cells cs t (0,0))
theorem Bx.lt {w:World} {p:Nat} {t:TypeId} {cs:Array Value} (h:Bx w p t cs):p<w.heap.size:=(Array.getElem?_eq_some_iff.1 h).1
theorem Bx.carry {w w':World} {p:Nat} {t:TypeId} {cs:Array Value} (h:Bx w p t cs) (hb:Below w.heap.size w w'):Bx w' p t cs:=(hb.block _ h.lt).trans h
theorem Bx.keep {w w':World} {p:Nat} {t t0:TypeId} {cs:Array Value} (h:Bx w p t cs) (hk:KeepG t0 w w') (ht:t≠t0):Bx w' p t cs:=hk p _ _ _ ht h
theorem Bx.cell {w:World} {p:Nat} {t:TypeId} {cs:Array Value} (h:Bx w p t cs) (j:Nat):w.cell? ⟨p,j,none⟩=cs[j]?:=cell_of_row w p j cs t (0,0) h
theorem Bx.at {w:World} {p:Nat} {t:TypeId} {cs:Array Value} (h:Bx w p t cs) (j:Nat) {u:Value} (hu:cs[j]? =some u):w.cell? ⟨p,j,none⟩=some u:=(h.cell j).trans hu
theorem Bx.fz {w:World} {p:Nat} {t:TypeId} {cs:Array Value} (h:Bx w p t cs) (j:Nat):w.frozen? ⟨p,j,none⟩=false:=frozen_of_row w p j _ _ h
theorem Bx.new (w:World) (t:TypeId) (cs:Array Value):Bx (w.alloc (.cells cs t)) w.heap.size t cs:=heap_alloc_new w _
theorem Bx.put {w:World} {p:Nat} {t:TypeId} {cs:Array Value} (h:Bx w p t cs) (j:Nat) (v:Value):Bx (w.setCell ⟨p,j,none⟩ v) p t (cs.setIfInBounds j v):=heap_setCell_same w p j cs t v h
theorem qb7 {w:World} {p:Nat} {t:TypeId} {cs:Array Value} (h:Bx w p t cs) (j:Nat) (v:Value):KeepG t w (w.setCell ⟨p,j,none⟩ v):=by
 intro k cs' t' fr ht hk
 have hne:k≠p:=by
  rintro rfl;unfold Bx at h;rw [h] at hk;cases hk;exact ht rfl
 exact (heap_setCell_other w ⟨p,j,none⟩ k v (fun e:k=p=>hne e)).trans hk
theorem qct {B:Nat} {W w:World} (h:Below B W w) {p:Nat} (hp:B≤p) (j:Nat) (v:Value):Below B W (w.setCell ⟨p,j,none⟩ v):=
 ⟨h.os,h.tape,h.output,by simpa using h.size,fun k hk=>(heap_setCell_other w ⟨p,j,none⟩ k v (fun e:k=p=>by omega)).trans (h.block k hk)⟩
theorem OwG.keep {α:Type} {sz:Nat} {ec:α→List Value} {t t0:TypeId} {w w':World} {base:Nat} {v:Value} {l:List α} (h:OwG sz ec t w base v l) (hk:KeepG t0 w w') (ht:t≠t0):OwG sz ec t w' base v l:=by
 refine ⟨h.1, ?_⟩
 rcases h.2 with h | ⟨g,cap,cur,e,h1,h2,h3⟩
 ·exact .inl h
 ·exact .inr ⟨g,cap,cur,e,h1,hk g _ _ _ ht h2,h3⟩
theorem qx3 {w:World} {v:Value} {l:List UInt8} (h:Rd w v l):∃a c,v=.slice a l.length c:=by
 rcases h with ⟨rfl,rfl | ⟨a,c,rfl⟩⟩ | ⟨b,off,c,rfl,_⟩<;>exact ⟨_,_,rfl⟩
theorem qadg {b off n c k:Nat} {l:List UInt8} (hn:n=l.length) (hc:n≤c) (hm:c≤maxLen) (hk:k≤n) (hkc:k≠c):∀wx,Rd wx (.slice (some ⟨b,off,none⟩) n c) l→Rd wx (.slice (some ⟨b,off+k,none⟩) (l.drop k).length (c - k)) (l.drop k):=by
 subst hn;have hl:(l.drop k).length=l.length - k:=List.length_drop;intro wx h
 rcases h with ⟨h,_⟩ | ⟨b',off',c',e,h1,h2,h3⟩
 ·have:l.drop k=[]:=by rw [h];simp
  rw [this];exact .inl ⟨rfl,.inr ⟨_,_,rfl⟩⟩
 ·cases e
  refine .inr ⟨b,off+k,c - k,rfl,by omega,by omega,fun j hj=>?_⟩;rw [List.getElem_drop,Nat.add_assoc];exact h3 (k+j) (by omega)
theorem sizeY (wx:World):(sizeOf (Tryz.prog.elem 23)).run Tryz.prog wx=.ok 1 wx:=by
 rw [show Tryz.prog.elem 23=5 by kernel_rfl];obtain ⟨i0,hi,hz0,hz1,hz2⟩:=info_parts Tryz.infoB
 simp [sizeOf,typeInfo,hi,hz1]
theorem qaiq {w:World} {a:Option Addr} {n c:Nat} {l:List UInt8} (h:Rd w (.slice a n c) l) (k:Nat) (hk:k≤l.length):
  ∃a2 c2,(∀wx,(Instr.slice 23 (.slice a n c) (some (.int .i64 k)) none none).run Tryz.prog wx=.ok (.slice a2 (n - k) c2) wx)∧∀wx,Rd wx (.slice a n c) l→Rd wx (.slice a2 (n - k) c2) (l.drop k):=by
 obtain ⟨a',c',e⟩:=qx3 h;cases e
 have run:∀wx,(Instr.slice 23 (.slice a l.length c) (some (.int .i64 k)) none none).run Tryz.prog wx=.ok (sliced a k l.length c 1) wx:=by
  intro wx;rw [run_slice_l wx 23 a l.length c (by kernel_rfl) .i64 k (by omega) (by omega),sizeY wx]
  simp [Result.andThen]
 unfold sliced at run
 rcases h with ⟨rfl,e | ⟨x,d,e⟩⟩ | ⟨b,off,c',e,h1,h2,h3⟩
 ·cases e
  obtain rfl:k=0:=by simpa using hk
  exact ⟨none,0,by simpa using run,fun wx _=>by simpa using (show Rd wx (.slice none 0 0) [] from .inl ⟨rfl,.inl rfl⟩)⟩
 ·cases e
  obtain rfl:k=0:=by simpa using hk
  by_cases hc:c=0
  ·exact ⟨some x,c,by simpa [hc] using run,fun wx _=>by simpa using (show Rd wx (.slice (some x) 0 c) [] from .inl ⟨rfl,.inr ⟨_,_,rfl⟩⟩)⟩
  ·exact ⟨some (x.add 0),c,by simpa [hc] using run,fun wx _=>by simpa using (show Rd wx (.slice (some (x.add 0)) 0 c) [] from .inl ⟨rfl,.inr ⟨_,_,rfl⟩⟩)⟩
 ·cases e
  by_cases hck:c=k
  ·refine ⟨some ⟨b,off,none⟩,c - k,by simpa [hck] using run,fun wx _=>?_⟩
   have e1:l.drop k=[]:=List.drop_of_length_le (by omega);rw [e1,show l.length - k=0 by omega];exact .inl ⟨rfl,.inr ⟨_,_,rfl⟩⟩
  ·refine ⟨some ⟨b,off+k,none⟩,c - k,by simpa [hck,Addr.add_lit] using run,fun wx hx=>?_⟩
   have:=qadg rfl h1 h2 hk (Ne.symm hck) wx hx
   rwa [List.length_drop] at this
theorem qou {P:Program} {w:World} {ops:Array Oper} {rest:List Oper} {o:Oper} {a:Act} {Q:Exit→Act→World→Prop} (hgd:o.guard=none) (x lo:Operand) (t:TypeId) (ht:P.underlying t=some (.slice (P.elem t)))
  (ho:o.op=.slice t x (some lo) none none) {v vl v':Value} (hx:a.eval x=v) (hlo:a.eval lo=vl) (hrun:∀wx,(Instr.slice t v (some vl) none none).run P wx=.ok v' wx) (h:wpList P ops Q rest (a.put o.dst v') w):wpList P ops Q (o::rest) a w:=by
 refine wpList_plain hgd fun K hK=>?_
 unfold Oper.wp execOp
 simp only [ho,Option.map_some,Option.map_none,hx,hlo,run_sliceAt_slice w t _ _ _ _ ht,Sem.run_bind,hrun w,Result.andThen_ok,Sem.run_pure]
 exact hK _ _ h
def qak8:Value→Nat
 | .slice _ n _=>n
 | _=>0
theorem quk (l:List UInt8):splice (List.replicate 128 0) 0 (l.take 128)=padM (l.take 128):=by
 rw [qon];unfold padB padM;rw [List.length_take]
 congr 2
 omega
theorem qair (n k:Nat):k<whN n↔k=0∨128*k<n:=by unfold whN;omega
theorem qsw (a:Option Addr) (n c:Nat) (b:List UInt8) (w:World) (hrd:Rd w (.slice a n c) b) (hn:n=b.length) (hl:b.length≤1000000):
  Calls Tryz.prog 43 #[.slice a n c] w fun e w'=>∃v,e=.returned v∧OwBB w' w.heap.size v (blkM b)∧Below w.heap.size w w':=by
 have hm:n≤1000000:=by omega
 have HR:=hide hrd;have HN:=hide hn;have HWT:=hide (show whN n≤1000000 by unfold whN;omega);clear hrd hn hl
 go_enter Tryz.func43,Tryz.ntmps43
 go_wp2
 go_loopw [0,3] (fun bv v wr=>∃(k m:Nat) (ab av:Option Addr) (cb cv:Nat),k≤whN n∧m=n - 128*k∧bv=.slice ab m cb∧v=.slice av k cv∧Hid (Rd w (.slice ab m cb) (b.drop (128*k)))∧Hid (OwBB wr w.heap.size (.slice av k cv) ((blkM b).take k))∧Hid (Below w.heap.size w wr)) (fun _ v _=>whN n - qak8 v)
 case atStart=>exact ⟨0,n,a,none,c,0,Nat.zero_le _,by omega,rfl,rfl,hide (by rw [Nat.mul_zero,List.drop_zero];exact HR.out),hide (by rw [List.take_zero];exact OwBB.nil _ _),hide (Below.refl _ _)⟩
 case round=>
  obtain ⟨k,m,ab,av,cb,cv,hk,hmk,rfl,rfl,hrd,hown,hbel⟩:=hrel
  by_cases hgo:k<whN n
  ·have hkl:k<(blkM b).length:=by rw [qdv,←HN.out];exact hgo
   have HT:=hide (show (blkM b).take (k+1)=(blkM b).take k++[padM ((b.drop (128*k)).take 128)] by
    rw [List.take_succ_eq_append_getElem hkl,qag8])
   have HTL:=hide (show ((blkM b).take k).length=k by rw [List.length_take];omega)
   have hdl:(b.drop (128*k)).length=m:=by rw [List.length_drop,←HN.out];omega
   obtain ⟨p,hp⟩:∃p,p=((b.drop (128*k)).take 128).length:=⟨_,rfl⟩
   have hpm:p=min 128 m:=by rw [hp,List.length_take,hdl]
   have HP:=hide hp.symm;obtain ⟨a2,c2,hsl,hsr⟩:=qaiq hrd.out p (by omega)
   have HS2:=hide (show Rd w (.slice a2 (m - p) c2) (b.drop (128*(k+1))) by
    have h9:=hsr w hrd.out;rw [List.drop_drop] at h9
    rcases Nat.lt_or_ge m 128 with h8 | h8
    ·have e1:b.drop (128*k+p)=[]:=List.drop_eq_nil_of_le (by rw [List.length_drop] at hdl;omega)
     have e2:b.drop (128*(k+1))=[]:=List.drop_eq_nil_of_le (by rw [List.length_drop] at hdl;omega)
     rw [e2];rw [e1] at h9;exact h9
    ·rw [show 128*(k+1)=128*k+p by omega]
     exact h9)
   have HPM:=hide hpm;have HMK:=hide hmk;obtain ⟨w2,hmk2,hO2,hb2⟩:=qacm wr;have hbsz:=hbel.out.size;have HB2:=hide (show Below w.heap.size w w2 from hbel.out.trans (hb2.mono hbsz));have HO2:=hide hO2;have HRS2:=hide (hrd.out.carry HB2.out);have HBs:=hide hb2
   have HAPP:=hide (fun (w3:World) (hg3:w2.grownBy w3 (some wr.heap.size)) (hO3:OwB w3 wr.heap.size (.slice (some ⟨wr.heap.size,0,none⟩) 128 128) (splice (List.replicate 128 0) 0 ((b.drop (128*k)).take 128)))=>by
    have hb3:Below wr.heap.size wr w3:=HBs.out.grown hg3 HBs.out.size (by intro k hk;cases hk;omega);rw [quk] at hO3;have hpl:(padM ((b.drop (128*k)).take 128)).length=128:=qqj (by rw [HP.out];omega);obtain ⟨g9,c9,w9,hrun,ho9,hb9⟩:=qaco (hown.out.carry hb3) (Nat.le_trans hbsz hb3.size) (by rw [HTL.out];have:=HWT.out;omega) (some ⟨wr.heap.size,0,none⟩) 128 128 _ (hO3.mono hbsz);rw [HTL.out] at hrun ho9;rw [←HT.out] at ho9
    exact (⟨g9,c9,w9,hrun,ho9,(hbel.out.trans (hb3.mono hbel.out.size)).trans hb9⟩:∃g9 c9 w9,(Builtin.append_ #[89,89] 89 #[.slice av k cv,.slice (some ⟨w3.heap.size,0,none⟩) 1 1]).run Tryz.prog (w3.alloc (.cells #[.slice (some ⟨wr.heap.size,0,none⟩) 128 128] 23))=.ok (.slice (some ⟨g9,0,none⟩) (k+1) c9) w9∧OwBB w9 w.heap.size (.slice (some ⟨g9,0,none⟩) (k+1) c9) ((blkM b).take (k+1))∧Below w.heap.size w w9))
   have hmd:n - 128*(k+1)=m - p:=by omega
   have HMD:=hide hmd.symm
   have hcase:k=0∨(((k:Int)==0)=false∧(k==0)=false∧0<m∧(0:Int)<m):=by
    rcases (qair n k).1 hgo with h | h
    ·exact .inl h
    ·by_cases h0:k=0
     ·exact .inl h0
     ·exact .inr ⟨by simpa using h0,by simpa using h0,by omega,by omega⟩
   clear hO2 hb2 hsr hp hpm hmk hdl hkl hmd hbsz hm
   rcases hcase with hk0 | ⟨hk1,hk2,hm0,hm1⟩
   ·subst hk0
    go_wp2_with (first | (refine qfv w2 rfl (.tmp 15) (.tmp 16) 23 rfl Tryz.underlying23 Tryz.sizeB wr.heap.size wr.heap.size 128 128 0 128 128 rfl _ _ rfl HRS2.out _ HO2.out (by simp) ?_;intro w3 hg3 hO3;obtain ⟨g9,c9,w9,hrun,ho9,hb9⟩:=HAPP.out w3 hg3 hO3;have HO9:=hide ho9;have HB9:=hide hb9;clear hg3 hO3 ho9 hb9;rw [HP.out]) | (refine qou rfl (.tmp 14) (.tmp 17) 23 (by kernel_rfl) rfl rfl rfl hsl ?_) | (at_builtin;refine qah rfl (.tmp 19) (.tmp 21) 89 rfl rfl rfl rfl hrun ?_))
    go_roundw
    case rel=>exact ⟨0+1,m - p,a2,_,c2,c9,hgo,HMD.out,rfl,rfl,HS2,HO9,HB9⟩
    case measure=>simp only [qak8];omega
   ·go_wp2_with (first | (refine qfv w2 rfl (.tmp 15) (.tmp 16) 23 rfl Tryz.underlying23 Tryz.sizeB wr.heap.size wr.heap.size 128 128 0 128 128 rfl _ _ rfl HRS2.out _ HO2.out (by simp) ?_;intro w3 hg3 hO3;obtain ⟨g9,c9,w9,hrun,ho9,hb9⟩:=HAPP.out w3 hg3 hO3;have HO9:=hide ho9;have HB9:=hide hb9;clear hg3 hO3 ho9 hb9;rw [HP.out]) | (refine qou rfl (.tmp 14) (.tmp 17) 23 (by kernel_rfl) rfl rfl rfl hsl ?_) | (at_builtin;refine qah rfl (.tmp 19) (.tmp 21) 89 rfl rfl rfl rfl hrun ?_))
    go_roundw
    case rel=>exact ⟨k+1,m - p,a2,_,c2,c9,hgo,HMD.out,rfl,rfl,HS2,HO9,HB9⟩
    case measure=>simp only [qak8];omega
  ·obtain rfl:k=whN n:=by omega
   have hno:=fun h=>hgo ((qair n (whN n)).2 h)
   have h9:¬128*whN n<n:=fun h=>hno (.inr h)
   obtain rfl:m=0:=by omega
   have hk1:((whN n:Int)==0)=false:=by
    have:whN n≠0:=fun h=>hno (.inl h)
    simpa using this
   have hk2:(whN n==0)=false:=by
    have:whN n≠0:=fun h=>hno (.inl h)
    simpa using this
   have HO:=hide (show OwBB wr w.heap.size (.slice av (whN n) cv) (blkM b) by
    have:=hown.out
    rwa [List.take_of_length_le (by rw [qdv,←HN.out];exact Nat.le_refl _)] at this)
   generalize whN n=kk at *;clear hown hno hgo;go_wp2;go_ret;exact ⟨_,rfl,HO.out,hbel.out⟩
end Go.Proofs.YtmeaiocohalphaaGreatDoor
set_option linter.unusedVariables false
namespace Go.Proofs.YtmeaiocohalphaaGreatDoor
def ab7:List Fl:=[([97],[(34,1)])]
section
variable {x:List UInt8}
end
theorem qahi {n k:Nat} (h:128*k+128≤n):blk (List.replicate n 0) k=List.replicate 128 0:=by
 unfold blk;rw [List.drop_replicate,List.take_replicate,Nat.min_eq_left (by omega)]
end Go.Proofs.YtmeaiocohalphaaGreatDoor
namespace Go.Proofs.YtmeaiocohalphaaGreatDoor
open Go.RowKit
set_option linter.unusedVariables false
set_option linter.unusedSimpArgs false
def CellAt (w:World) (b o:Nat) (v:Value):Prop:=w.cell? ⟨b,o,none⟩=some v
theorem CellAt.carry {w w':World} {b o:Nat} {v:Value} (h:CellAt w b o v) (hb:Below w.heap.size w w'):CellAt w' b o v:=qaa _ _ _ _ h hb
theorem qfy {f:Fsd} (h:okFs f):WfX f:=by
 have h4:=((qb3 f.1).1 (qay h).1).2.2.1;have hk:=(qbi (qxt h)).2;refine ⟨(qld h).2, ?_, ?_⟩
 ·intro g hg x hx
  have:=qdq (qec h).2.2.1 x ((ql3 hg).subset hx)
  unfold wfX;omega
 ·intro g hg x hx
  have:=qdq hk.2.2.1 x ((ql3 hg).subset hx)
  unfold wfX;omega
def BelW (w0 w:World):Prop:=Below w0.heap.size w0 w
theorem BelW.refl (w:World):BelW w w:=Below.refl _ _
theorem BelW.carry {w0 w w':World} (h:BelW w0 w) (hb:Below w.heap.size w w'):BelW w0 w':=Below.trans h (hb.mono (Below.size h))
theorem BelW.size {w0 w:World} (h:BelW w0 w):w0.heap.size≤w.heap.size:=Below.size h
theorem qak9 {x y:FsV} (h:x.val=y.val):x=y:=by
 cases x;cases y
 simp at h
 simp [h]
 omega
theorem qala {f:Fsd} {s:List UInt8} {at0:Int} {l:List (List UInt8)} (hw:WfX f):∀k,(qcq f s at0 l k).2=0→WfX (qcq f s at0 l k).1
 | 0,_=>hw
 | k+1,h=>by
  rw [qcq] at h ⊢
  by_cases h0:(qcq f s at0 l k).2=0
  ·rw [if_neg (fun e=>e h0)] at h ⊢
   exact qfy (qqe h).1
  ·rw [if_pos h0] at h;exact absurd h h0
end Go.Proofs.YtmeaiocohalphaaGreatDoor

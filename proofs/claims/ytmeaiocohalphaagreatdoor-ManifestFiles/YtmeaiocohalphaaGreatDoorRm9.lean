/-
  Of the document's side of layer 6: Clear, Sync, Delete, Rename.
-/
import Derived.Test.YtmeaiocohalphaaGreatDoorRegD
import Derived.Test.YtmeaiocohalphaaGreatDoorVn1
import Derived.Test.YtmeaiocohalphaaGreatDoorWal6
import Derived.BigQuiet
import Derived.Test.YtmeaiocohalphaaGreatDoorRowG
import Derived.Test.YtmeaiocohalphaaGreatDoorRm8
import Derived.Test.YtmeaiocohalphaaGreatDoorMathFs6
import Derived.Test.YtmeaiocohalphaaGreatDoorFiRef8
import Derived.Test.YtmeaiocohalphaaGreatDoorFsTop3
set_option maxHeartbeats 4000000
set_option maxRecDepth 100000
namespace Go.Proofs.YtmeaiocohalphaaGreatDoor
open Go.RowKit
set_option linter.all false
theorem sliceT {w:World} {a:Option Addr} {n c:Nat} {l:List UInt8} (h:Rd w (.slice a n c) l) (k:Nat) (hk:k≤l.length):
  ∃a2 c2,(∀wx,(Instr.slice 23 (.slice a n c) none (some (.int .i64 k)) none).run Tryz.prog wx=.ok (.slice a2 k c2) wx)∧∀wx,Rd wx (.slice a n c) l→Rd wx (.slice a2 k c2) (l.take k):=by
 obtain ⟨a',c',e⟩:=qkw h;cases e
 have hkc:k≤c:=by
  have:=(qqr h k hk).1
  omega
 have run:∀wx,(Instr.slice 23 (.slice a l.length c) none (some (.int .i64 k)) none).run Tryz.prog wx=.ok (sliced a 0 k c 1) wx:=by
  intro wx;rw [run_slice_h wx 23 a l.length c (by kernel_rfl) .i64 k (by omega) (by omega),sizeY wx]
  simp [Result.andThen]
 unfold sliced at run
 cases a with
 | none=>
  refine ⟨none,c,by simpa using run,fun wx hx=>(qqr hx k hk).2⟩
 | some x=>
  have e:(if c=0 then some x else Option.map (fun x=>x.add (0*1)) (some x))=some x:=by
   split
   ·rfl
   ·simp [Addr.add]
  simp only [Nat.sub_zero] at run
  rw [e] at run;exact ⟨some x,c,run,fun wx hx=>(qqr hx k hk).2⟩
theorem qi1 (n:Nat) (w:World) (hn:n≤1000000):
  Calls Tryz.prog 57 #[.int .i64 n] w fun e w'=>e=.returned (.int .i64 (whN n:Nat))∧w'=w:=by
 have h1:wrap64 ((n:Int)+128)=((n+128:Nat):Int):=by unfold wrap64;omega
 have h2:wrap64 (((n+128:Nat):Int) - 1)=((n+127:Nat):Int):=by unfold wrap64;omega
 have h3:wrap64 (Int.tdiv ((n+127:Nat):Int) 128)=(((n+127) / 128:Nat):Int):=by
  rw [Int.tdiv_eq_ediv_of_nonneg (by omega)]
  unfold wrap64;omega
 go_enter Tryz.func57,Tryz.ntmps57
 go_wp2
 ·go_ret
  exact ⟨by show Ending.returned (Value.int .i64 (((n:Int)+128 - 1) / 128))=_;congr 2;unfold whN;omega,rfl⟩
 ·go_ret
  exact ⟨by show Ending.returned (Value.int .i64 1)=_;congr 2;unfold whN;omega,rfl⟩
theorem qtl (x:FsV) (f:Fsd) (s:List UInt8) (w:World) (h:RdX w x f) (hw:WfX f):
  Calls Tryz.prog 59 #[x.val,.string (bs s)] w fun e w'=>∃v,e=.returned (.tuple #[v,.int .i64 (qat f s)])∧OwY w' w.heap.size v (qbf f s).flatten∧Below w.heap.size w w':=by
 have HW:=hide hw;clear hw;obtain ⟨w1,ew⟩:∃w1,w.alloc (.cells x.cs 33)=w1:=⟨_,rfl⟩
 have hb1:Below w.heap.size w w1:=by rw [←ew];exact (Below.refl _ _).alloc (Nat.le_refl _) _
 have qbe:=hide (show FsAt w1 w.heap.size x by rw [←ew];exact Bq.new _ _ _);obtain ⟨k0,k1,k2,k3,k4,k5⟩:=qab qbe.out;have HX:=hide h;have qad:=hide hb1;clear h hb1;unfold FsV.val;unfold FsV.cs at ew
 go_enter Tryz.func59,Tryz.ntmps59
 go_wp2_with fail
 refine (qzv x f s w1 (HX.out.carry qad.out) HW.out).mono ?_
 rintro e w2 ⟨rfl,hb2⟩;have qb9:=hide (qbe.out.carry hb2);have qae:=bT qad hb2;clear k0 k1 k2 k3 k4 k5 ew hb2
 by_cases g1:qat f s=0
 ·have HG:=hide g1
  obtain ⟨m,hm⟩:∃m,m=(qbf f s).length:=⟨_,rfl⟩
  have hm4:m≤4096:=by rw [hm];exact qgg f s
  have HM:=hide hm;rw [g1,qir g1,←hm];clear g1 hm;go_wp2
  go_loopw [9,8] (fun i v wr=>∃(k:Nat) (av:Option Addr) (nv cv:Nat),k≤m∧i=.int .i64 k∧v=.slice av nv cv∧Hid (OwY wr (w.heap.size+1) (.slice av nv cv) ((qbf f s).take k).flatten)∧Hid (FsAt wr w.heap.size x)∧Hid (Below w.heap.size w wr)) (fun i _ _=>m - (intOf i).toNat)
  case atStart=>exact ⟨0,none,0,0,Nat.zero_le _,rfl,rfl,hide (by rw [List.take_zero];exact OwY.nil _ _),qb9,qae⟩
  case round=>
   obtain ⟨k,av,nv,cv,hk,rfl,rfl,hown,hF,hB⟩:=hrel
   by_cases hlt:k<m
   ·have hlt':(k:Int)<m:=by omega
    have hkl:k<(qbf f s).length:=by rw [←HM.out];exact hlt
    have HT:=hide (show ((qbf f s).take (k+1)).flatten=((qbf f s).take k).flatten++(qbf f s)[k] by
     rw [List.take_succ_eq_append_getElem hkl,List.flatten_append];simp)
    have HLN:=hide (show ((qbf f s).take k).flatten.length≤1000000∧((qbf f s)[k]).length=128 by
     have h1:=qqp ((qbf f s).take k) (fun b hb=>qku b (List.mem_of_mem_take hb))
     have h2:((qbf f s).take k).length≤k:=by rw [List.length_take];omega
     exact ⟨by omega,qku _ (List.getElem_mem hkl)⟩)
    obtain ⟨k0,k1,k2,k3,k4,k5⟩:=qab hF.out;have HGB:=hide (qxq HG.out hkl)
    go_wp2_with fail
    refine (qaeg x f s k wr (HX.out.carry hB.out) HW.out).mono ?_
    rintro e w3 ⟨v3,rfl,ho3,hb3⟩;rw [HGB.out.2] at ho3;rw [HGB.out.1];obtain ⟨y3,z3,e3⟩:=ho3.form;rw [HLN.out.2] at e3;subst e3
    have hsz:w.heap.size+1≤wr.heap.size:=by have:=hF.out.lt;omega
    obtain ⟨a9,n9,c9,w9, -,hrun,ho9,hb9, -⟩:=qm2 (hown.out.carry hb3) (Nat.le_trans hsz hb3.size) (OwB.rd ho3) (by have:=HLN.out;omega);rw [←HT.out] at ho9;have HO9:=hide ho9;have hF3:=hF.out.carry hb3;have HF9:=hide (hF3.below (by omega) hb9);have HB9:=hide ((hB.out.trans (hb3.mono hB.out.size)).trans (hb9.mono (by omega)));clear ho9 hb9 ho3 hb3 hown hF hF3 hB k0 k1 k2 k3 k4 k5 HGB HT hsz HLN hkl
    go_wp2_with (at_builtin;refine qar rfl (.tmp 33) (.tmp 34) 23 rfl rfl rfl rfl hrun ?_)
    go_roundw
    case rel=>exact ⟨k+1,a9,n9,c9,by omega,by go_num,rfl,HO9,HF9,HB9⟩
    case measure=>simp only [intOf];omega
   ·have hd:decide ((k:Int)<m)=false:=by simpa using (by omega:¬(k:Int)<m)
    have HO:=hide (show OwY wr (w.heap.size+1) (.slice av nv cv) (qbf f s).flatten by
     have:=hown.out
     rwa [List.take_of_length_le (by rw [←HM.out];omega)] at this)
    clear hown;go_wp2;go_ret2;exact ⟨_,by rw [HG.out];rfl,OwY.mono HO.out (by omega),hB.out⟩
 ·have HZ:=hide (qak2 g1)
  obtain ⟨z,hz⟩:∃z,z=qf5 f s:=⟨_,rfl⟩;obtain ⟨e,he⟩:∃e,e=qat f s:=⟨_,rfl⟩;rw [←he] at g1 ⊢;rw [←hz]
  have ge:(e==0)=false:=by simpa using g1
  have gn:(e !=0)=true:=by simpa using g1
  have HEZ:=hide he;clear hz he g1;go_wp2;go_ret2;exact ⟨_,by rw [←HEZ.out];rfl,by rw [HZ.out];exact OwY.nil _ _,qae.out⟩
theorem qvp {P:Program} {w:World} {ops:Array Oper} {rest:List Oper} {o:Oper} {a:Act} {Q:Exit→Act→World→Prop} (hgd:o.guard=none) (x hi:Operand) (t:TypeId) (ht:P.underlying t=some (.slice (P.elem t)))
  (ho:o.op=.slice t x none (some hi) none) {v vh v':Value} (hx:a.eval x=v) (hhi:a.eval hi=vh) (hrun:∀wx,(Instr.slice t v none (some vh) none).run P wx=.ok v' wx) (h:wpList P ops Q rest (a.put o.dst v') w):wpList P ops Q (o::rest) a w:=by
 refine wpList_plain hgd fun K hK=>?_
 unfold Oper.wp execOp
 simp only [ho,Option.map_some,Option.map_none,hx,hhi,run_sliceAt_slice w t _ _ _ _ ht,Sem.run_bind,hrun w,Result.andThen_ok,Sem.run_pure]
 exact hK _ _ h
theorem qaeh (x:FsV) (f:Fsd) (s:List UInt8) (n:Int) (w:World) (h:RdX w x f) (hw:WfX f):
  Calls Tryz.prog 22 #[x.val,.string (bs s),.int .i64 n] w fun e w'=>∃v,e=.returned (.tuple #[v,.int .i64 (fetE f s n)])∧Rd w' v (fetB f s n)∧Below w.heap.size w w':=by
 have HW:=hide hw;clear hw;obtain ⟨w1,ew⟩:∃w1,w.alloc (.cells x.cs 33)=w1:=⟨_,rfl⟩
 have hb1:Below w.heap.size w w1:=by rw [←ew];exact (Below.refl _ _).alloc (Nat.le_refl _) _
 have qbe:=hide (show FsAt w1 w.heap.size x by rw [←ew];exact Bq.new _ _ _);obtain ⟨k0,k1,k2,k3,k4,k5⟩:=qab qbe.out;have HX:=hide h;have qad:=hide hb1;clear h hb1;unfold FsV.val;unfold FsV.cs at ew
 go_enter Tryz.func22,Tryz.ntmps22
 go_wp2_with fail
 refine (qtl x f s w1 (HX.out.carry qad.out) HW.out).mono ?_
 rintro e w2 ⟨v2,rfl,ho2,hb2⟩;have qae:=bT qad hb2;obtain ⟨a2,c2,e2⟩:=OwY.form ho2;obtain ⟨n2,hn2⟩:∃n2,n2=(qbf f s).flatten.length:=⟨_,rfl⟩;rw [←hn2] at e2;subst e2;have HR:=hide (OwY.rd ho2);have HN2:=hide hn2;clear k0 k1 k2 k3 k4 k5 ew hb2 ho2 hn2
 by_cases g1:qat f s=0
 ·have HG:=hide g1
  rw [g1];have HN8:=hide (show n2=128*(qbf f s).length∧n2≤1000000 by have h1:=HN2.out;have h2:=qfb f s;have h3:=qgg f s;omega);clear g1
  by_cases hbad:n<0∨(n2:Int)<n
  ·have HE:=hide (qai4 (n:=n) HG.out (by have:=HN8.out.1;omega))
   have hcase:n<0∨(decide (n<0)=false∧(n2:Int)<n):=by
    rcases hbad with h | h
    ·exact .inl h
    ·by_cases h0:n<0
     ·exact .inl h0
     ·exact .inr ⟨decide_eq_false h0,h⟩
   clear hbad
   rcases hcase with h0 | ⟨h0,h1⟩
   all_goals
    go_wp2;go_ret2;exact ⟨_,by rw [HE.out.1];rfl,by rw [HE.out.2];exact .inl ⟨rfl,.inl rfl⟩,qae.out⟩
  ·obtain ⟨q,rfl⟩:∃q:Nat,n=q:=⟨n.toNat,by omega⟩
   have hq:q≤n2:=by omega
   have HE:=hide (qada (n:=q) HG.out (by have:=HN8.out.1;omega));obtain ⟨at9,ct9,hsl,hsr⟩:=sliceT HR.out q (by have:=HN2.out;omega);have HRT:=hide (hsr w2 HR.out);have h0:decide ((q:Int)<0)=false:=decide_eq_false (by omega);have h1:decide ((n2:Int)<q)=false:=decide_eq_false (by omega)
   have h2:¬(n2:Int)<q:=by omega
   have h3:decide (n2<q)=false:=decide_eq_false (by omega);clear hbad hq hsr
   go_wp2_with (refine qvp rfl (.tmp 27) (.tmp 28) 23 (by kernel_rfl) rfl rfl rfl hsl ?_)
   go_ret2;exact ⟨_,by rw [HE.out.1];rfl,by rw [HE.out.2];exact HRT.out,qae.out⟩
 ·have HE:=hide (qai3 (n:=n) g1)
  obtain ⟨e,he⟩:∃e,e=qat f s:=⟨_,rfl⟩;rw [←he] at g1 HE ⊢
  have ge:(e==0)=false:=by simpa using g1
  have gn:(e !=0)=true:=by simpa using g1
  clear he g1;go_wp2;go_ret2;exact ⟨_,by rw [HE.out.1];rfl,by rw [HE.out.2];exact .inl ⟨rfl,.inl rfl⟩,qae.out⟩
theorem qow {d:Dk} {v:Value} (N:Int) (x:Option Addr) (m c:Nat) (l:List UInt8) (w:World) (hD:RdD w v d) (hrd:Rd w (.slice x m c) l):
  Calls Tryz.prog 126 #[v,.int .i64 N,.slice x m c] w fun e w'=>∃dv,e=.returned (.tuple #[dv,.int .i64 (doD d [(false,N,l)] 1).2])∧OwD w' w.heap.size dv (doD d [(false,N,l)] 1).1∧Below w.heap.size w w':=by
 obtain ⟨a1,c1,a2,c2,a3,c3,rfl,h1,h2,h3⟩:=hD.form;have hml1:=h1.len_le;have HD:=hide hD
 have hm:m=l.length:=by obtain ⟨_,_,e⟩:=hrd.form;cases e;rfl
 have HRD:=hide hrd;have HM:=hide hm;clear hrd hm;clear hD h1 h2 h3;generalize e1:d.1.length=n1 at *;generalize e2:d.2.1.length=n2 at *;generalize e3:d.2.2.length=n3 at *;have HNM:=hide hml1;have HMY:=hide (show mny d=n1 / 128 by rw [←e1];rfl);clear e1 e2 e3 hml1;obtain ⟨w1,ew⟩:∃w1,(w.alloc (.cells #[.slice a1 n1 c1,.slice a2 n2 c2,.slice a3 n3 c3] 27)).alloc (.cells #[.slice none 0 0,.slice none 0 0,.slice none 0 0] 27)=w1:=⟨_,rfl⟩
 have hb1:Below w.heap.size w w1:=by rw [←ew];exact ((Below.refl _ _).alloc (Nat.le_refl _) _).alloc (by simp) _
 have hd1:w1.heap[w.heap.size]? =some (.cells #[.slice a1 n1 c1,.slice a2 n2 c2,.slice a3 n3 c3] 27 (0,0)):=by
  rw [←ew,heap_alloc_old _ _ (by simp)];exact heap_alloc_new _ _
 have hr1:w1.heap[w.heap.size+1]? =some (.cells #[.slice none 0 0,.slice none 0 0,.slice none 0 0] 27 (0,0)):=by rw [←ew];exact qba _ _ _
 obtain ⟨k0,k1,k2,_⟩:=cells3 hd1
 go_enter Tryz.func126,Tryz.ntmps126
 go_wp2_with fail
 refine (qjg (d:=d) _ (HD.out.carry hb1)).mono ?_
 rintro e w2 ⟨rfl,hb2⟩;have hB2:Below w.heap.size w w2:=hb1.trans (hb2.mono hb1.size);have hd2:=qac _ _ _ _ hd1 hb2;have hr2:=qac _ _ _ _ hr1 hb2;clear ew k0 k1 k2 hr1 hd1 hb1 hb2
 rcases qdr d with ⟨hok,hck⟩ | ⟨hok,hck⟩
 case inr=>
  rw [hck];have HE:=hide (show doD d [(false,N,l)] 1=(dz,20) by unfold doD;rw [if_pos (by rw [hck];decide),hck]);clear hck hok hd2;obtain ⟨ws,ews,hws,hgs⟩:=qb6 (.slice none 0 0) (.slice none 0 0) (.slice none 0 0) hr2;obtain ⟨z1,z2,z3,z4⟩:=cells3 hr2;obtain ⟨q1,q2,q3,q4⟩:=cells3 hws;have hbs:=hB2.grown hgs hB2.size (fun k hk=>by cases hk;simp);clear hws hgs;go_wp2
  refine bodyPost_ret (v:=.tuple #[.agg #[.slice none 0 0,.slice none 0 0,.slice none 0 0],.int .i64 20]) ?_ rfl ?_
  ·simp [results,Tryz.results126,go_sem, *]
  ·rw [HE.out];exact ⟨_,rfl,qdz _ _,hbs⟩
 rw [hck];have HOK:=hide hok;obtain ⟨hfine,hc1,hc2⟩:=Fine.of_ok hok;have HF:=hide hfine;have HCK:=hide hck;clear hck hok hfine;obtain ⟨k0,k1,k2,_⟩:=cells3 hd2
 go_wp2_with fail
 refine (qf6 a1 a2 a3 n1 c1 n2 c2 n3 c3 HNM.out _).mono ?_
 rintro e w3 ⟨rfl,hb3⟩;have hB3:=hB2.trans (hb3.mono hB2.size);have hd3:=qac _ _ _ _ hd2 hb3;have hr3:=qac _ _ _ _ hr2 hb3;clear k0 k1 k2 hb3 hB2 hd2 hr2;rw [←HMY.out]
 go_wp2_with fail
 refine (qpv N x m c l (mny d) HM.out _).mono ?_
 rintro e w4 ⟨rfl,hb4⟩;have hB4:=hB3.trans (hb4.mono hB3.size);have hd4:=qac _ _ _ _ hd3 hb4;have hr4:=qac _ _ _ _ hr3 hb4;clear hb4 hB3 hd3 hr3;obtain ⟨pe,hpe⟩:∃pe,putE (mny d) (N,l)=pe:=⟨_,rfl⟩;rw [hpe];have HPE:=hide hpe;clear hpe
 by_cases hp0:pe=0
 case neg=>
  have HE:=hide (show doD d [(false,N,l)] 1=(dz,pe) by
   have h1:errD d [(false,N,l)]=pe:=by
    unfold errD;rw [if_neg (by rw [HCK.out];decide)]
    show (if putE (mny d) (N,l)=0 then (0:Int) else putE (mny d) (N,l))=pe
    rw [HPE.out,if_neg hp0]
   rw [qahp d _ 1 (by rw [h1];exact hp0),h1])
  have hp1:(pe !=0)=true:=by simpa using hp0
  clear hd4;obtain ⟨ws,ews,hws,hgs⟩:=qb6 (.slice none 0 0) (.slice none 0 0) (.slice none 0 0) hr4;obtain ⟨z1,z2,z3,z4⟩:=cells3 hr4;obtain ⟨q1,q2,q3,q4⟩:=cells3 hws;have hbs:=hB4.grown hgs hB4.size (fun k hk=>by cases hk;simp);clear hws hgs;go_wp2
  refine bodyPost_ret (v:=.tuple #[.agg #[.slice none 0 0,.slice none 0 0,.slice none 0 0],.int .i64 pe]) ?_ rfl ?_
  ·simp [results,Tryz.results126,go_sem, *]
  ·rw [HE.out];exact ⟨_,rfl,qdz _ _,hbs⟩
 subst hp0;have HAE:=hide (show actE (mny d) (false,N,l)=0 from HPE.out);obtain ⟨k0,k1,k2,_⟩:=cells3 hd4
 go_wp2_with fail
 clear k0 k1 k2
 refine (qalk (d:=d) _ (HD.out.carry hB4) HOK.out).mono ?_
 rintro e w5 ⟨v5,B,rfl,hDv5,hb5⟩;have hB5:=hB4.trans (hb5.mono hB4.size);have hr5:=qac _ _ _ _ hr4 hb5;have HDV:=hide (hDv5.mono hB4.size);clear hb5 hr4 hd4 hDv5
 go_wp2_with fail
 refine (qall w B (mny d) d v5 false N x m c l _ HDV.out hB5 HRD.out HM.out (by have:=(qcq HPE.out).2.2;simp only at this;omega) HF.out hc2).mono ?_
 rintro e w6 ⟨v6,r,rfl,hkd,⟨y1,m1,d1,y2,m2,d2,y3,m3,d3,rfl⟩,hB6,hone⟩;have hr6:=hkd.2 _ _ _ hr5
 have HDO:=hide (show doD d [(false,N,l)] 1=(match oneD d (false,N,l) with | none=>(dz,9) | some x=>(x,0)) by
  have h1:errD d [(false,N,l)]=0:=by
   unfold errD;rw [if_neg (by rw [HCK.out];decide)]
   show (if actE (mny d) (false,N,l)=0 then (0:Int) else _)=0
   rw [HAE.out];rfl
  have:=doD_go d [(false,N,l)] 1 h1 (Nat.le_refl _)
  rw [show ((1:Nat):Int)=1 from rfl] at this;rw [this]
  show (match qes d [(false,N,l)] with | none=>_ | some x=>_)=_
  unfold qes
  cases oneD d (false,N,l) with
  | none=>rfl
  | some x=>rfl)
 have HONE:=hide hone;clear hkd hr5 hB5 HDV hone;obtain ⟨w7,ew7⟩:∃w7,w6.alloc (.cells #[.slice y1 m1 d1,.slice y2 m2 d2,.slice y3 m3 d3] 27)=w7:=⟨_,rfl⟩
 have hb7:Below w6.heap.size w6 w7:=by rw [←ew7];exact (Below.refl _ _).alloc (Nat.le_refl _) _
 have hx7:w7.heap[w6.heap.size]? =some (.cells #[.slice y1 m1 d1,.slice y2 m2 d2,.slice y3 m3 d3] 27 (0,0)):=by rw [←ew7];exact heap_alloc_new _ _
 have hB7:=hB6.trans (hb7.mono hB6.size);have hr7:=qac _ _ _ _ hr6 hb7
 rcases HONE.out with ⟨ho,hr⟩ | ⟨d',ho,hr,hdv⟩
 ·subst hr
  have HE:=hide (show doD d [(false,N,l)] 1=(dz,9) by rw [HDO.out,ho]);clear ho hx7 hb7 hr6 HONE;obtain ⟨ws,ews,hws,hgs⟩:=qb6 (.slice none 0 0) (.slice none 0 0) (.slice none 0 0) hr7;obtain ⟨z1,z2,z3,z4⟩:=cells3 hr7;obtain ⟨q1,q2,q3,q4⟩:=cells3 hws;have hbs:=hB7.grown hgs hB7.size (fun k hk=>by cases hk;simp);clear hws hgs;go_wp2
  refine bodyPost_ret (v:=.tuple #[.agg #[.slice none 0 0,.slice none 0 0,.slice none 0 0],.int .i64 9]) ?_ rfl ?_
  ·simp [results,Tryz.results126,go_sem, *]
  ·rw [HE.out];exact ⟨_,rfl,qdz _ _,hbs⟩
 ·subst hr
  have HE:=hide (show doD d [(false,N,l)] 1=(d',0) by rw [HDO.out,ho]);have HOD:=hide (hdv.own.carry hb7);obtain ⟨ws,ews,hws,hgs⟩:=qb6 (.slice y1 m1 d1) (.slice y2 m2 d2) (.slice y3 m3 d3) hr7;obtain ⟨z1,z2,z3,z4⟩:=cells3 hr7;obtain ⟨l1,l2,l3,l4⟩:=cells3 hx7;obtain ⟨q1,q2,q3,q4⟩:=cells3 hws;have hbs:=hB7.grown hgs hB7.size (fun k hk=>by cases hk;simp);have HOW:=hide (HOD.out.keptT3 hgs hr7);clear hws hgs hdv ho hb7 hr6 HONE;go_wp2
  refine bodyPost_ret (v:=.tuple #[.agg #[.slice y1 m1 d1,.slice y2 m2 d2,.slice y3 m3 d3],.int .i64 0]) ?_ rfl ?_
  ·simp [results,Tryz.results126,go_sem, *]
  ·rw [HE.out];exact ⟨_,rfl,HOW.out,hbs⟩
theorem qg9 {f:Fsd} (h:okFs f):((f.1.1.length≤140737488355328∧f.1.2.1.length≤1000000∧f.1.2.2.length≤1000000)∧f.2.2.1.length≤1000∧(∀g∈f.2.2.1,g.2.length≤1000000)∧f.2.2.2.length≤1000∧∀g∈f.2.2.2,g.2.length≤1000000)∧((∀p∈f.1.2.1,p.2.length≤140737488355328)∧∀p∈f.1.2.2,p.2.2.length≤140737488355328):=by
 obtain ⟨h1,h2,h3,h4,h5,h6,h7⟩:=(qb3 f.1).1 (qax h).1;have hl:=qmg (qax h).1;obtain ⟨s1,s2⟩:=qqi (qdv h);unfold qge at s1 s2;refine ⟨⟨⟨by omega,by omega,by omega⟩,by have:=s1.1;omega,fun g hg=>by have:=s1.2 g hg;omega,by have:=s2.1;omega,fun g hg=>by have:=s2.2 g hg;omega⟩,fun p hp=>by have:=(qcq (h6 p hp)).2.2;omega,fun a ha=>?_⟩
 have:=h7 a ha
 unfold actE at this
 split at this
 ·split at this
  ·cases this
  ·rename_i h8
   have h9:a.2.2=[]:=by
    by_cases e:a.2.2=[]
    ·exact e
    ·exact absurd (.inr e) h8
   rw [h9];simp
 ·have:=(qcq this).2.2;omega
theorem FsAt.dir {w:World} {p:Nat} {y:FsV} (h:FsAt w p y) (a:Option Addr) (n c:Nat):FsAt (w.setCell ⟨p,4,none⟩ (.slice a n c)) p {y with a4:=a,n4:=n,c4:=c}:=by
 have:=Bq.put h 4 (.slice a n c)
 exact this
def set3 (w:World) (p:Nat) (a1:Option Addr) (n1 c1:Nat) (a2:Option Addr) (n2 c2:Nat) (a3:Option Addr) (n3 c3:Nat):World:=((w.setCell ⟨p,0,none⟩ (.slice a1 n1 c1)).setCell ⟨p,1,none⟩ (.slice a2 n2 c2)).setCell ⟨p,2,none⟩ (.slice a3 n3 c3)
theorem FsAt.disk {w:World} {p:Nat} {y:FsV} (h:FsAt w p y) (a1:Option Addr) (n1 c1:Nat) (a2:Option Addr) (n2 c2:Nat) (a3:Option Addr) (n3 c3:Nat):FsAt (set3 w p a1 n1 c1 a2 n2 c2 a3 n3 c3) p {y with a1:=a1,n1:=n1,c1:=c1,a2:=a2,n2:=n2,c2:=c2,a3:=a3,n3:=n3,c3:=c3}:=by
 have:=((Bq.put h 0 (.slice a1 n1 c1)).put 1 (.slice a2 n2 c2)).put 2 (.slice a3 n3 c3)
 exact this
theorem qzw (w:World) (p:Nat) (a1:Option Addr) (n1 c1:Nat) (a2:Option Addr) (n2 c2:Nat) (a3:Option Addr) (n3 c3:Nat):w.grownBy (set3 w p a1 n1 c1 a2 n2 c2 a3 n3 c3) (some p):=qch (qch (qai w ⟨p,0,none⟩ _) 1 _) 2 _
theorem OwFs.parts6 {w:World} {base:Nat} {y:FsV} {f:Fsd} (h:OwFs w base y.val f):y.g=f.2.1∧OwD w base (.agg #[.slice y.a1 y.n1 y.c1,.slice y.a2 y.n2 y.c2,.slice y.a3 y.n3 y.c3]) f.1∧OwF w base (.slice y.a4 y.n4 y.c4) f.2.2.1∧OwF w base (.slice y.a5 y.n5 y.c5) f.2.2.2:=by
 obtain ⟨d1,d2,d3,a,b,e,h1,h2,h3⟩:=h;unfold FsV.val at e
 simp only [Value.agg.injEq,Array.mk.injEq,List.cons.injEq,and_true,Value.int.injEq,true_and] at e
 obtain ⟨rfl,rfl,rfl,e4,rfl,rfl⟩:=e;exact ⟨by omega,h1,h2,h3⟩
theorem qtm {w:World} {p:Nat} {a:Value} (h:Bq w p 31 #[a]):w.cell? ⟨p,0,none⟩=some a:=h.cell 0
theorem qtn (x:FsV) (f:Fsd) (s t:List UInt8) (w:World) (h:RdX w x f) (hw:WfX f):
  Calls Tryz.prog 64 #[x.val,.string (bs s),.string (bs t)] w fun e w'=>∃v,e=.returned (.tuple #[v,.int .i64 (qby f s t).2])∧OwFs w' w.heap.size v (qby f s t).1∧Below w.heap.size w w':=by
 have HW:=hide hw;have HX:=hide h;clear hw h;obtain ⟨w1,ew⟩:∃w1,(w.alloc (.cells x.cs 33)).alloc (.cells #[.slice none 0 0,.slice none 0 0,.slice none 0 0,.int .u32 0,.slice none 0 0,.slice none 0 0] 33)=w1:=⟨_,rfl⟩;have q0:Below w.heap.size w (w.alloc (.cells x.cs 33)):=(Below.refl _ _).alloc (Nat.le_refl _) _
 have q1:Below (w.alloc (.cells x.cs 33)).heap.size (w.alloc (.cells x.cs 33)) w1:=by rw [←ew];exact (Below.refl _ _).alloc (Nat.le_refl _) _
 have qca:=hide (show FsAt w1 w.heap.size x from (Bq.new w 33 x.cs).carry q1);have qcn:=hide (show FsB w1 (w.heap.size+1) by have:=FsB.new (w.alloc (.cells x.cs 33));rw [←ew];simpa using this);have qad:=hide (q0.trans (q1.mono q0.size));clear q0 q1;unfold FsV.val;unfold FsV.cs at ew
 go_enter Tryz.func64,Tryz.ntmps64
 obtain ⟨kf0,kf1,kf2,kf3,kf4,kf5⟩:=qab qca.out;have hcon:=qem x f w1 (HX.out.carry qad.out) HW.out
 go_wp2_with fail
 try rw [ew]
 refine hcon.mono ?_
 rintro e w2 ⟨rfl,hbb⟩;have qbr:=hide (qca.out.carry hbb);have qbi:=hide (qcn.out.carry hbb);have qae:=bT qad hbb;clear hcon hbb kf0 kf1 kf2 kf3 kf4 kf5
 try clear ew
 rcases (qb0 f).symm with ⟨_,g1⟩ | ⟨hok,g1⟩
 ·have HE:=hide (show qby f s t=(fz,8) by unfold qby qc8;rw [if_pos (by rw [g1];decide),g1])
  rw [g1];clear g1;obtain ⟨w9,d0,d1,d2,d3,d4,d5,hw9,HST,e0,e1,e2,e3,e4,e5,f0,f1,f2,f3,f4,f5,z0,z1,z2,z3,z4,z5⟩:=qdu qbi qae (show w.heap.size≤w.heap.size+1 by omega);go_wp2
  try rw [hw9]
  clear hw9 e0 e1 e2 e3 e4 e5 f0 f1 f2 f3 f4 f5
  try simp only [Exit.inBlock,Exit.then]
  refine bodyPost_ret ?_ rfl (zR HE HST)
  simp [results,Tryz.results64,go_sem, *]
 rw [g1];have HE0:=hide g1;clear g1;have HOK:=hide hok;clear hok;obtain ⟨kf0,kf1,kf2,kf3,kf4,kf5⟩:=qab qbr.out;have hcon:=qu1 _ _ _ f.2.2.1 s t w2 (HX.out.fl.carry qae.out) HX.out.n4 HW.out.fl
 go_wp2_with fail
 refine hcon.mono ?_
 rintro e w3 ⟨v2,rfl,ho2,hbb⟩;have qhi:=hide (qbr.out.carry hbb);have qci:=hide (qbi.out.carry hbb);have qak:=bT qae hbb;clear hcon hbb kf0 kf1 kf2 kf3 kf4 kf5;obtain ⟨ln,hm2⟩:∃ln,ln=(qbs f.2.2.1 s t).length:=⟨_,rfl⟩
 obtain ⟨la,lc,e2⟩:∃a c,v2=.slice a ln c:=by rw [hm2];exact ho2.form
 subst e2;have qaei:=hide (ho2.mono qae.out.size);clear ho2 hm2;obtain ⟨wk,ewk⟩:∃wk,w3.alloc (.cells #[.slice la ln lc] 31)=wk:=⟨_,rfl⟩
 have hbn:Below w3.heap.size w3 wk:=by rw [←ewk];exact (Below.refl _ _).alloc (Nat.le_refl _) _
 have qaej:=hide (qhi.out.carry hbn);have qto:=hide (qci.out.carry hbn);have qaek:=hide (qaei.out.carry hbn);have qhw:=bT qak hbn;have qael:=hide (show Bq wk w3.heap.size 31 #[.slice la ln lc] by rw [←ewk];exact Bq.new _ _ _);clear hbn
 by_cases g1:¬qa0 f.2.2.1 s t=0
 ·have HE:=hide (show qby f s t=(fz,qa0 f.2.2.1 s t) by unfold qby qc8;rw [if_neg (by rw [HE0.out];decide),if_pos g1])
  obtain ⟨w9,d0,d1,d2,d3,d4,d5,hw9,HST,e0,e1,e2,e3,e4,e5,f0,f1,f2,f3,f4,f5,z0,z1,z2,z3,z4,z5⟩:=qdu qto qhw (show w.heap.size≤w.heap.size+1 by omega);go_wp2
  try rw [hw9]
  clear hw9 e0 e1 e2 e3 e4 e5 f0 f1 f2 f3 f4 f5
  try simp only [Exit.inBlock,Exit.then]
  refine bodyPost_ret ?_ rfl (zR HE HST)
  simp [results,Tryz.results64,go_sem, *]
 rw [Decidable.not_not] at g1;rw [g1];have HE1:=hide g1;clear g1;obtain ⟨kf0,kf1,kf2,kf3,kf4,kf5⟩:=qab qaej.out;have hcon:=qg8 x f wk (HX.out.carry qhw.out) (qg9 HOK.out).1 (qg9 HOK.out).2
 go_wp2_with fail
 try rw [ewk]
 refine hcon.mono ?_
 rintro e w4 ⟨y,rfl,ho,hbb⟩;have qek:=hide (qto.out.carry hbb);have HOL_w4:=hide (qaek.out.carry hbb);have HBD_w4:=hide (qael.out.carry hbb);have qbh:=bT qhw hbb;clear hcon hbb kf0 kf1 kf2 kf3 kf4 kf5
 try clear ewk
 have HOY:=hide (ho.mono qhw.out.size);clear ho;unfold FsV.val;obtain ⟨wz,ewz⟩:∃wq,w4.alloc (.cells y.cs 33)=wq:=⟨_,rfl⟩
 have hbn:Below w4.heap.size w4 wz:=by rw [←ewz];exact (Below.refl _ _).alloc (Nat.le_refl _) _
 have qtp:=hide (qek.out.carry hbn);have qtq:=hide (HOL_w4.out.carry hbn);have qtr:=hide (HBD_w4.out.carry hbn);have qts:=bT qbh hbn;have HFY:=hide (show FsAt wz w4.heap.size y by rw [←ewz];exact Bq.new _ _ _);have HOZ:=hide ((HOY.out.carry hbn).parts6);unfold FsV.cs at ewz;clear hbn HOY;have HGR:=hide (show wz.grownBy (wz.setCell ⟨w4.heap.size,4,none⟩ (.slice la ln lc)) (some (w4.heap.size)) from qai wz ⟨w4.heap.size,4,none⟩ (.slice la ln lc));have HPR:=hide (show w.heap.size+1<w4.heap.size from qek.out.lt);have HAT:=hide (HFY.out.dir la ln lc);have HFQ:=hide (qtp.out.grown HGR.out (by have:=HPR.out;omega));have HBQ:=hide (qts.out.grown HGR.out qts.out.size (by intro k hk;cases hk;have:=HPR.out;omega));have HOW:=hide (show OwFs (wz.setCell ⟨w4.heap.size,4,none⟩ (.slice la ln lc)) w.heap.size ({y with a4:=la,n4:=ln,c4:=lc}:FsV).val (f.1,f.2.1,qbs f.2.2.1 s t,f.2.2.2) from ⟨_,_,_,_,_,by rw [←HOZ.out.1],(HOZ.out.2.1).keptS HGR.out HFY.out (by decide) (by decide) (by decide),(qtq.out).keptS HGR.out HFY.out (by decide) (by decide),(HOZ.out.2.2.2).keptS HGR.out HFY.out (by decide) (by decide)⟩);have HST:=hide (HOW.out.stored (r:=w.heap.size+1) HFQ.out HBQ.out (by omega));obtain ⟨kz0,kz1,kz2,kz3,kz4,kz5⟩:=qab HFY.out;obtain ⟨ky0,ky1,ky2,ky3,ky4,ky5⟩:=qab HAT.out;dsimp only at ky0 ky1 ky2 ky3 ky4 ky5;have fz0:=HFY.out.fz;obtain ⟨⟨d0,e0⟩,⟨d1,e1⟩,⟨d2,e2⟩,⟨d3,e3⟩,⟨d4,e4⟩,⟨d5,e5⟩,ff⟩:=HFQ.out.cells;have f0:=ff 0;have f1:=ff 1;have f2:=ff 2;have f3:=ff 3;have f4:=ff 4;have f5:=ff 5;clear ff;have kd0:=qtm qtr.out;go_wp2
 try rw [ewz]
 obtain ⟨w9,hw9⟩:∃w9,w9=set6 (wz.setCell ⟨w4.heap.size,4,none⟩ (.slice la ln lc)) (w.heap.size+1) ({y with a4:=la,n4:=ln,c4:=lc}:FsV):=⟨_,rfl⟩;rw [←hw9] at HST;unfold set6 at hw9;dsimp only at hw9
 try unfold set3 at hw9
 rw [←hw9];clear e0 e1 e2 e3 e4 e5 f0 f1 f2 f3 f4 f5 kz0 kz1 kz2 kz3 kz4 kz5 ky0 ky1 ky2 ky3 ky4 ky5 ewz;obtain ⟨z0,z1,z2,z3,z4,z5⟩:=qab HST.out.2.2;dsimp only at z0 z1 z2 z3 z4 z5
 try simp only [Exit.inBlock,Exit.then]
 have HE:=hide (show qby f s t=((f.1,f.2.1,qbs f.2.2.1 s t,f.2.2.2),0) by unfold qby qc8;rw [if_neg (by rw [HE0.out];decide),if_neg (by rw [HE1.out];decide)])
 refine bodyPost_ret (v:=.tuple #[({y with a4:=la,n4:=ln,c4:=lc}:FsV).val,.int .i64 0]) ?_ rfl ⟨_,by rw [HE.out],by rw [HE.out];exact HST.out.1,HST.out.2.1⟩
 clear hw9
 simp [results,Tryz.results64,go_sem, *]
theorem qaem {w:World} {p:Nat} {a b c:Value} (h:Bq w p 27 #[a,b,c]):w.cell? ⟨p,0,none⟩=some a∧w.cell? ⟨p,1,none⟩=some b∧w.cell? ⟨p,2,none⟩=some c:=⟨h.cell 0,h.cell 1,h.cell 2⟩
end Go.Proofs.YtmeaiocohalphaaGreatDoor

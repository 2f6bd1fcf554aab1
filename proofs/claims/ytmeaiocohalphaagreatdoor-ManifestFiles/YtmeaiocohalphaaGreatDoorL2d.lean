/-
  What the document's samePut and SameActs do.
-/
import Derived.Test.YtmeaiocohalphaaGreatDoorRmFree
import Derived.Test.YtmeaiocohalphaaGreatDoorMathSl
import Derived.Test.YtmeaiocohalphaaGreatDoorMathFi3
set_option maxHeartbeats 4000000
set_option maxRecDepth 100000
namespace Go.Proofs.YtmeaiocohalphaaGreatDoor
open Go.RowKit
set_option linter.all false
theorem qafu {l:List Ex} {k:Nat} (hk:k<l.length) (hm:∀x∈l,mayX x=true) (h:apX (l.take k)=true) (hn:∀n:Nat,inL (l.take k) n=true→inX l[k] n=false):apX (l.take (k+1))=true:=by
 rw [qbc l k hk,qgo,h,Bool.true_and,List.all_eq_true];intro y hy;have hyl:y∈l:=List.mem_of_mem_take hy;have my:=(qbp y).1 (hm y hyl);have mk:=(qbp _).1 (hm _ (List.getElem_mem hk));rw [Bool.not_eq_true',←Bool.not_eq_true,qo0 mk.2.1 my.2.1];rintro ⟨n,h1,h2⟩
 have h0:0≤n:=by simp [inX] at h2;omega
 have:=hn n.toNat (by rw [Int.toNat_of_nonneg h0,qo1];exact ⟨y,hy,by simpa [inX] using h2⟩)
 rw [Int.toNat_of_nonneg h0,h1] at this;cases this
theorem qake {l:List Ex} {k:Nat} (hk:k<l.length) (hm:∀x∈l,mayX x=true) {n:Nat} (h1:inL (l.take k) n=true) (h2:inX l[k] n=true):apX (l.take (k+1))=false:=by
 rw [qbc l k hk,qgo,Bool.and_eq_false_iff]
 right
 rw [List.all_eq_false];obtain ⟨y,hy,h3⟩:=(qo1 _ _).1 h1;have my:=(qbp y).1 (hm y (List.mem_of_mem_take hy));have mk:=(qbp _).1 (hm _ (List.getElem_mem hk));refine ⟨y,hy, ?_⟩
 rw [(qo0 mk.2.1 my.2.1).2 ⟨n,h2,by simpa [inX] using h3⟩];simp
theorem qr4 (a:Option Addr) (n c:Nat) (l:List Ex) (w:World) (hrd:RdE w (.slice a n c) l) (hn:n=l.length) (hwf:∀x∈l,wfX x):
  Calls Tryz.prog 181 #[.slice a n c] w fun e w'=>e=.returned (.int .i64 (chkX l))∧Below w.heap.size w w':=by
 have HR:=hide hrd;have HN:=hide hn;have HA:=hide (qjz a n c l w hrd hn hwf);clear hrd hn hwf
 go_enter Tryz.func181,Tryz.ntmps181
 go_wp2_with fail
 refine HA.out.mono ?_
 rintro e wa ⟨rfl,hba⟩
 by_cases hz:allX l=0
 ·have HZ:=hide hz
  rw [hz];have hzero:=Tryz.zeroMk;have hne:=qaiv (fun _=>false)
  have hn4:n≤4096:=by have:=(qcp HZ.out).1;have:=HN.out;omega
  have HMay:=hide (fun x hx=>(qbp x).2 ((qcp HZ.out).2 x hx):∀x∈l,mayX x=true);have hws:=hba.size;clear hz;go_wp2
  go_loopw [14] (fun i wr=>∃k:Nat,k≤n∧i=.int .i64 k∧Hid (Mk wr wa.heap.size (fun j=>inL (l.take k) j))∧Hid (apX (l.take k)=true)∧Below w.heap.size w wr) (fun i _=>n - (intOf i).toNat)
  case atStart=>exact ⟨0,Nat.zero_le _,rfl,hide ((Mk.new wa _).same fun j=>by simp [inL]),hide (by simp [apX]),hba.alloc hws _⟩
  case round=>
   obtain ⟨k,hk,rfl,hmk,hap,hbel⟩:=hrel;have hml:=hmk.out.lt
   by_cases hlt:k<n
   ·have hlt':(k:Int)<n:=by omega
    have hkl:k<l.length:=by have:=HN.out;omega
    obtain ⟨b,off,rfl,q0,q1⟩:=(HR.out.carry hbel).at k hkl
    go_wp2_with fail
    refine (qui wa.heap.size _ (l[k]) (HMay.out _ (List.getElem_mem hkl)) _ (hmk.out.carry ((Below.refl _ _).alloc (Nat.le_refl _) _))).mono ?_
    rintro e wc ⟨hg,⟨rfl,hm1,hno⟩ | ⟨rfl,j, -,hj1,hj2⟩⟩
    ·have HM1:=hide (hm1.same (g:=fun j=>inL (l.take (k+1)) j) fun j=>by rw [qbc l k hkl,qfd])
     have HAP:=hide (qafu hkl HMay.out hap.out hno);have hbc:Below w.heap.size w wc:=(hbel.alloc hbel.size _).grown hg (Nat.le_trans hbel.size (by simp)) (fun j hj=>by cases hj;exact hws);clear hm1 hg hno;go_wp2;go_roundw
     case rel=>exact ⟨k+1,by omega,rfl,HM1,HAP,hbc⟩
     case measure=>simp only [intOf];omega
    ·have HC:=hide (qm6 (k:=k+1) hkl HZ.out (qake hkl HMay.out hj1 hj2))
     have hbc:Below w.heap.size w wc:=(hbel.alloc hbel.size _).grown hg (Nat.le_trans hbel.size (by simp)) (fun j hj=>by cases hj;exact hws);clear hg hj1 hj2;go_wp2;go_ret;exact ⟨by rw [HC.out];rfl,hbc⟩
   ·have hd:decide ((k:Int)<n)=false:=by simpa using (by omega:¬(k:Int)<n)
    have HC:=hide (qhz HZ.out (by have:=hap.out;rwa [List.take_of_length_le (by have:=HN.out;omega)] at this));go_wp2;go_ret;exact ⟨by rw [HC.out];rfl,hbel⟩
 ·have HC:=hide (qkd hz)
  generalize hE:allX l=E at *
  have hz':(E==0)=false:=by simpa using hz
  go_wp2;go_ret;exact ⟨by rw [HC.out];rfl,hba⟩
def manyR (l:List Ex):Int:=if chkX l=0 then qbj l else 0
def qcr (l:List Ex):List Int:=if chkX l=0 then qam l else []
theorem qafv {l:List Ex} {k:Nat} (ha:allX l=0):0≤qbj (l.take k)∧qbj (l.take k)≤16777216:=by
 have h0:=qcp ha
 have:=qt3 (l:=l.take k) fun x hx=>h0.2 x (List.mem_of_mem_take hx)
 rw [List.length_take] at this;omega
theorem qnx {l:List Ex} {k m:Nat} (ha:allX l=0) (hk:k<l.length) (hm:m≤(l[k]).2.toNat):(qam (l.take k)++blkX l[k] m).length≤16777216:=by
 have h0:=qcp ha
 have h1:=qt4 (l:=l.take k) fun x hx=>(h0.2 x (List.mem_of_mem_take hx)).2.1
 have h2:=qafv (k:=k+1) ha;rw [qbc l k hk,qgp] at h2
 have:=h0.2 _ (List.getElem_mem hk)
 rw [List.length_append,qvz];omega
theorem qyv (a:Option Addr) (n c:Nat) (l:List Ex) (w:World) (hrd:RdE w (.slice a n c) l) (hn:n=l.length) (hwf:∀x∈l,wfX x):
  Calls Tryz.prog 102 #[.slice a n c] w fun e w'=>∃v,e=.returned (.tuple #[v,.int .i64 (chkX l)])∧OwI w' w.heap.size v (qcr l)∧Below w.heap.size w w':=by
 have HR:=hide hrd;have HN:=hide hn;have HA:=hide (qr4 a n c l w hrd hn hwf);clear hrd hn hwf
 go_enter Tryz.func102,Tryz.ntmps102
 go_wp2_with fail
 refine HA.out.mono ?_
 rintro e wa ⟨rfl,hba⟩
 by_cases hz:chkX l=0
 ·have HZ:=hide (qi4 hz).1
  have HM:=hide (show qcr l=qam l by unfold qcr;rw [if_pos hz]);rw [hz];have HC:=hide hz
  have hn4:n≤4096:=by have:=(qcp HZ.out).1;have:=HN.out;omega
  clear hz;go_wp2
  go_loopw [5,16] (fun s i wr=>∃k:Nat,k≤n∧i=.int .i64 k∧Hid (OwI wr w.heap.size s (qam (l.take k)))∧Below w.heap.size w wr) (fun _ i _=>n - (intOf i).toNat)
  case atStart=>exact ⟨0,Nat.zero_le _,rfl,hide (OwI.nil _ _),hba⟩
  case round=>
   obtain ⟨k,hk,rfl,ho,hbel⟩:=hrel
   by_cases hlt:k<n
   ·have hlt':(k:Int)<n:=by omega
    have hkl:k<l.length:=by have:=HN.out;omega
    obtain ⟨b,off,rfl,q0,q1⟩:=(HR.out.carry hbel).at k hkl;have HE:=hide (show qam (l.take (k+1))=qam (l.take k)++blkX l[k] (l[k]).2.toNat by rw [qbc l k hkl,qjt]);have hx:=(qcp HZ.out).2 _ (List.getElem_mem hkl);have hbb:=hbel.alloc hbel.size (.cells #[.int .i64 (l[k]).1,.int .i64 (l[k]).2] 237);have hoo:=hide (ho.out.carry ((Below.refl _ _).alloc (Nat.le_refl _) (.cells #[.int .i64 (l[k]).1,.int .i64 (l[k]).2] 237)));have HL:=hide (fun m hm=>qnx (m:=m) HZ.out hkl hm)
    have c0:(wr.alloc (.cells #[.int .i64 (l[k]).1,.int .i64 (l[k]).2] 237)).heap[wr.heap.size]? =some (.cells #[.int .i64 (l[k]).1,.int .i64 (l[k]).2] 237 (0,0)):=heap_alloc_new _ _
    generalize hX:l[k]=X at *;obtain ⟨P,R⟩:=X
    simp only at hx hbb c0 HE q0 q1 hoo HL
    obtain ⟨r,rfl⟩:∃r:Nat,R=r:=⟨R.toNat,by omega⟩;clear hX;have C0:=hide c0;clear c0;go_wp2;generalize wr.heap.size=XB at *
    go_loopw [5,22] (fun s i wr=>∃j:Nat,j≤r∧i=.int .i64 j∧Hid (OwI wr w.heap.size s (qam (l.take k)++blkX (P,(r:Int)) j))∧Below w.heap.size w wr∧Hid (wr.heap[XB]? =some (.cells #[.int .i64 P,.int .i64 r] 237 (0,0)))) (fun _ i _=>r - (intOf i).toNat)
    case atStart=>exact ⟨0,Nat.zero_le _,rfl,hide (by simpa [blkX] using hoo.out),hbb,C0⟩
    case round=>
     obtain ⟨j,hj,rfl,ho2,hbel2,hxb⟩:=hrel
     by_cases hjt:j<r
     ·have hjt':(j:Int)<r:=by omega
      have hlen:=HL.out j (by omega);obtain ⟨g9,c9,w9,hrun,hown9,hbel9,hgr9⟩:=qabi ho2.out hbel2.size (by omega) (P+j);have HX:=hide ((hgr9.block _ (Array.getElem?_eq_some_iff.1 hxb.out).1 (ho2.out.apart hxb.out)).trans hxb.out)
      have hcell:wr.cell? ⟨XB,0,none⟩=some (.int .i64 P):=by rw [cell_of_row wr _ 0 _ _ (0,0) hxb.out];rfl
      have HO:=hide (show OwI w9 w.heap.size (.slice (some ⟨g9,0,none⟩) ((qam (l.take k)++blkX (P,(r:Int)) j).length+1) c9) (qam (l.take k)++blkX (P,(r:Int)) (j+1)) by
       rw [qq4,←List.append_assoc];exact hown9)
      have hb9:=hbel2.trans hbel9
      have hw1:wrap64 (P+(j:Int))=P+(j:Int):=by unfold wrap64;omega
      clear hown9 hbel9 hgr9
      go_wp2_with (at_builtin;refine qaf rfl (.tmp 25) (.tmp 30) 93 rfl rfl rfl rfl hrun ?_)
      go_roundw
      case rel=>exact ⟨j+1,by omega,rfl,by rw [←List.length_append];exact HO,hb9,HX⟩
      case measure=>simp only [intOf];omega
     ·have hd:decide ((j:Int)<r)=false:=by simpa using (by omega:¬(j:Int)<r)
      have HO:=hide (show OwI wr w.heap.size _ (qam (l.take (k+1))) by
       rw [HE.out,Int.toNat_natCast]
       have e:j=r:=by omega
       rw [←e];rw [←e] at ho2;exact ho2.out)
      go_wp2;go_roundw
      case rel=>exact ⟨k+1,by omega,rfl,HO,hbel2⟩
      case measure=>simp only [intOf];omega
   ·have hd:decide ((k:Int)<n)=false:=by simpa using (by omega:¬(k:Int)<n)
    have HE:=hide (show qam (l.take k)=qcr l by rw [HM.out,List.take_of_length_le (by have:=HN.out;omega)]);go_wp2;go_ret2;exact ⟨_,by rw [HC.out];rfl,by rw [←HE.out];exact ho.out,hbel⟩
 ·have HM:=hide (show qcr l=[] by unfold qcr;rw [if_neg hz])
  generalize hE:chkX l=E at *
  have hz':(E==0)=false:=by simpa using hz
  go_wp2;go_ret2;exact ⟨_,by rw [hE];rfl,by rw [HM.out];exact OwI.nil _ _,hba⟩
abbrev Fsd:=Dk × Nat × List Fl × List Fl
def fz:Fsd:=(dz,0,[],[])
def genB (d:Dk) (gen size:Nat):List UInt8:=(d.1.drop (128*(2+gen % 2*16))).take size
def okFs (f:Fsd):Prop:=(qas f.1).2.2=0∧(qas f.1).1=f.2.1∧(∀p∈f.1.2.1,34≤p.1)∧qcv (genB f.1 f.2.1 (qas f.1).2.1) (mny f.1)=0∧qfv (genB f.1 f.2.1 (qas f.1).2.1) (mny f.1)=f.2.2.2∧chkF f.2.2.1 (mny f.1)=0
instance (f:Fsd):Decidable (okFs f):=inferInstanceAs (Decidable (_∧_∧_∧_∧_∧_))
def fsE (f:Fsd):Int:=if okFs f then 0 else 8
def qaq (f:Fsd):List Ex:=qde f.2.2.1++qde f.2.2.2
def qbg (f:Fsd):Int:=(qka f.1).1
def mkE (f:Fsd) (s:List UInt8) (n:Int):Int:=
 if qaw f.2.2.1 s=0 then 51 else if qaw f.2.2.1 s≠6 then qaw f.2.2.1 s
 else if qco 34 (qbg f) (qaq f) n≠0 then qco 34 (qbg f) (qaq f) n
 else qao f.2.2.1 s (qcb 34 (qbg f) (qaq f) n) (qbg f)
def mkL (f:Fsd) (s:List UInt8) (n:Int):List Fl:=if mkE f s n=0 then qbd f.2.2.1 s (qcb 34 (qbg f) (qaq f) n) (qbg f) else []
def qc8 (f:Fsd) (l:List Fl) (e:Int):Fsd × Int:=if fsE f≠0 then (fz,fsE f) else if e≠0 then (fz,e) else ((f.1,f.2.1,l,f.2.2.2),0)
def qau (f:Fsd) (s:List UInt8) (n:Int):Fsd × Int:=qc8 f (mkL f s n) (mkE f s n)
def qby (f:Fsd) (s t:List UInt8):Fsd × Int:=qc8 f (qbs f.2.2.1 s t) (qa0 f.2.2.1 s t)
def bloE (f:Fsd) (s:List UInt8):Int:=if qaw f.2.2.1 s≠0 then qaw f.2.2.1 s else chkX (getF f.2.2.1 s)
def bloL (f:Fsd) (s:List UInt8):List Int:=if qaw f.2.2.1 s≠0 then [] else qcr (getF f.2.2.1 s)
def atE (f:Fsd) (s:List UInt8) (i:Int):Int:=if bloE f s≠0 then bloE f s else if i<0∨((bloL f s).length:Int)≤i then 2 else 0
def atN (f:Fsd) (s:List UInt8) (i:Int):Int:=if atE f s i≠0 then 0 else (bloL f s).getD i.toNat 0
def qat (f:Fsd) (s:List UInt8):Int:=if fsE f≠0 then fsE f else bloE f s
def qf5 (f:Fsd) (s:List UInt8):Int:=if fsE f≠0 then 0 else (bloL f s).length
def getE (f:Fsd) (s:List UInt8) (i:Int):Int:=if fsE f≠0 then fsE f else if atE f s i≠0 then atE f s i else (qfw f.1 (atN f s i)).2
def getL (f:Fsd) (s:List UInt8) (i:Int):List UInt8:=if fsE f≠0 then [] else if atE f s i≠0 then [] else (qfw f.1 (atN f s i)).1
def qakf (f:Fsd):Int:=if fsE f≠0 then fsE f else if qcd 34 (qbg f) (qaq f)≠0 then qcd 34 (qbg f) (qaq f) else chkX (qb2 34 (qbg f) (qaq f))
def quj (f:Fsd):Int:=if fsE f≠0 then 0 else if qcd 34 (qbg f) (qaq f)≠0 then 0 else manyR (qb2 34 (qbg f) (qaq f))
/-! ### on the way -/
abbrev Wy:=Fsd × Int × List UInt8
abbrev Stp:=Wy→Wy × Int
def qck (s:Stp) (x:Wy):Wy:=if x.2.1=0 then ((s x).1.1,(s x).2,(s x).1.2.2) else x
def qbx (f:Fsd):Wy:=(f,fsE f,[])
def endW (x:Wy):Fsd × Int:=if x.2.1≠0 then (fz,x.2.1) else (x.1,0)
def qafw (x:Wy) (d:Dk):Wy:=((d,x.1.2),x.2)
def quk:Stp:=fun x=>(qafw x (doD x.1.1 [] 0).1,(doD x.1.1 [] 0).2)
def qr5 (n:Int) (b:List UInt8):Stp:=fun x=>(qafw x (doD x.1.1 [(false,n,b)] 1).1,(doD x.1.1 [(false,n,b)] 1).2)
def putW (s:List UInt8) (i:Int) (b:List UInt8):Stp:=fun x=>if atE x.1 s i≠0 then (x,atE x.1 s i) else qr5 (atN x.1 s i) b x
def dirW (l:List Fl) (e:Int):Stp:=fun x=>(((x.1.1,x.1.2.1,l,x.1.2.2.2),x.2),e)
def padB (l:List UInt8):List UInt8:=l.take 128++List.replicate (128 - l.length) 0
def qcs (f:Fsd) (s:List UInt8) (i:Int) (b:List UInt8):Fsd × Int:=endW (qck (putW s i b) (qbx f))
def qny (f:Fsd) (l:List Fl) (e:Int):Fsd × Int:=endW (qck quk (qck (dirW l e) (qbx f)))
theorem qb0 (f:Fsd):(okFs f∧fsE f=0)∨(¬okFs f∧fsE f=8):=by
 unfold fsE;by_cases h:okFs f
 ·exact .inl ⟨h,if_pos h⟩
 ·exact .inr ⟨h,if_neg h⟩
theorem qwp {f:Fsd} (h:fsE f=0):okFs f:=by rcases qb0 f with h1 | h1;exact h1.1;rw [h1.2] at h;cases h
theorem qdv {f:Fsd} (h:okFs f):fsE f=0:=by unfold fsE;exact if_pos h
theorem qax {f:Fsd} (h:okFs f):okD f.1=true∧34<mny f.1∧f.2.1≠0∧qas f.1=(f.2.1,(qas f.1).2.1,0):=by
 obtain ⟨h1,h2,_⟩:=h
 have e:qas f.1=(f.2.1,(qas f.1).2.1,0):=by rw [←h2,←h1]
 obtain ⟨a,b,c,_⟩:=qjf e;exact ⟨a,b,c,e⟩
theorem qabl {d:Dk} (h:okD d=true):chk d=0:=by unfold chk;rw [if_pos h]
theorem qid {f:Fsd} (h:okD f.1=true):qbg f=mny f.1:=by unfold qbg qka;rw [qabl h];rfl
theorem qr6 {f:Fsd} (h:okFs f):(qas f.1).2.1≤2048∧f.2.1<4294967296:=by
 obtain ⟨h1,h2,h3,h4⟩:=qax h;obtain ⟨_,_,hg,hb⟩:=qjf h4
 have:=qnu hb hg
 unfold qcw at this
 split at this
 ·have e1:=congrArg Prod.fst this
  have e2:=congrArg Prod.snd this
  simp only at e1 e2
  have:=qwm (blk f.1.1 (f.2.1 % 2))
  omega
 ·have e1:=congrArg Prod.fst this
  simp only at e1
  omega
theorem qabm (f:Fsd) (l:List Fl) (e:Int):qny f l e=qc8 f l e:=by
 unfold qny qc8 qbx
 rcases qb0 f with ⟨h,h0⟩ | ⟨h,h0⟩
 ·have hd:=qabl (qax h).1
  rw [h0];unfold qck dirW quk endW qafw doD
  by_cases he:e=0
  ·subst he
   simp [hd,qee,qes]
  ·simp [he]
 ·rw [h0]
  simp [qck,endW]
theorem qnz {P:Program} {f:FuncId} {args:Array Value} {w:World} {b r:Bool} (h:b=r) (hc:Calls P f args w fun e w'=>e=.returned (.bool b)∧Below w.heap.size w w'):Calls P f args w fun e w'=>e=.returned (.bool r)∧Below w.heap.size w w':=h ▸ hc
theorem qj0 (p q:Pu) (x y:Option Addr) (m1 d1 m2 d2:Nat) (w:World) (h:Rd w (.slice x m1 d1) p.2) (k:Rd w (.slice y m2 d2) q.2):
  Calls Tryz.prog 209 #[.agg #[.int .i64 p.1,.slice x m1 d1],.agg #[.int .i64 q.1,.slice y m2 d2]] w fun e w'=>e=.returned (.bool (decide (p=q)))∧Below w.heap.size w w':=by
 obtain ⟨p1,p2⟩:=p;obtain ⟨q1,q2⟩:=q
 have hb:∀o o',Below w.heap.size w ((w.alloc o).alloc o'):=fun o o'=>((Below.refl _ _).alloc (Nat.le_refl _) _).alloc (by simp) _
 have h1:=fun o o'=>qb1 (P:=Tryz.prog) 23 5 9 Tryz.underlying23 Tryz.underlying5 Tryz.underlying9 (h.carry (hb o o'))
 have h2:=fun o o'=>qb1 (P:=Tryz.prog) 23 5 9 Tryz.underlying23 Tryz.underlying5 Tryz.underlying9 (k.carry (hb o o'))
 clear h k
 by_cases e:p1=q1
 ·subst e
  have HE:=hide (show decide (((p1,p2):Pu)=(p1,q2))=((bs p2).toList==(bs q2).toList) by rw [qns];simp)
  go_enter Tryz.func209,Tryz.ntmps209
  go_wp2;go_ret;exact ⟨by first | (rw [HE.out];rfl) | (simp only [qns];simp),hb _ _⟩
 ·have e':(p1==q1)=false:=by simpa using e
  have HE:=hide (show decide (((p1,p2):Pu)=(q1,q2))=false by simp [e])
  go_enter Tryz.func209,Tryz.ntmps209
  go_wp2;go_ret;exact ⟨by first | rfl | (rw [HE.out];rfl),hb _ _⟩
theorem qr7 (l m:List Ac) (a b:Option Addr) (n1 c1 n2 c2:Nat) (w:World) (h:RdA w (.slice a n1 c1) l) (k:RdA w (.slice b n2 c2) m) (e1:n1=l.length) (e2:n2=m.length):
  Calls Tryz.prog 139 #[.slice a n1 c1,.slice b n2 c2] w fun e w'=>e=.returned (.bool (decide (l=m)))∧Below w.heap.size w w':=by
 have H:=hide h;have K:=hide k;have E1:=hide e1;have E2:=hide e2;have hn1:n1≤maxLen:=e1 ▸ h.len_le;unfold maxLen at hn1;clear h k e1 e2
 by_cases hn:n1=n2
 ·subst hn
  go_enter Tryz.func139,Tryz.ntmps139
  go_wp2
  go_loopw [5] (fun i wr=>∃k:Nat,k≤n1∧i=.int .i64 k∧Hid (l.take k=m.take k)∧Below w.heap.size w wr) (fun i _=>n1 - (intOf i).toNat)
  case atStart=>exact ⟨0,Nat.zero_le _,rfl,rfl,Below.refl _ _⟩
  case round=>
   obtain ⟨k,hk,rfl,htk,hbel⟩:=hrel
   by_cases hlt:k<n1
   ·have hlt':(k:Int)<n1:=by omega
    have hkl:k<l.length:=by have:=E1.out;omega
    have hkm:k<m.length:=by have:=E2.out;omega
    obtain ⟨b1,o1,rfl,q0,q0',x,m1,d1,q1,q2,q3⟩:=(H.out.carry hbel).at k hkl;obtain ⟨b2,o2,rfl,r0,r0',y,m2,d2,r1,r2,r3⟩:=(K.out.carry hbel).at k hkm;clear q2 q3 r2 r3;obtain ⟨_,_,e9,_,_,x9,m9,d9,p1,p2,p3⟩:=H.out.at k hkl;clear p3;cases e9;obtain ⟨_,_,e9,_,_,y9,n9,f9,p1',p2',p3'⟩:=K.out.at k hkm;clear p3';cases e9
    have ex:x9=x∧m9=m1∧d9=d1:=by
     have:=(qaa _ _ _ _ p1 hbel).symm.trans q1
     injection this with this
     injection this with t1 t2 t3
     exact ⟨t1,t2,t3⟩
    have ey:y9=y∧n9=m2∧f9=d2:=by
     have:=(qaa _ _ _ _ p1' hbel).symm.trans r1
     injection this with this
     injection this with t1 t2 t3
     exact ⟨t1,t2,t3⟩
    obtain ⟨rfl,rfl,rfl⟩:=ex;obtain ⟨rfl,rfl,rfl⟩:=ey;have HQ:=hide p2;have HR:=hide p2';obtain ⟨⟨s,N,L1⟩,hp⟩:∃p:Ac,l[k]=p:=⟨_,rfl⟩;obtain ⟨⟨T,N2,L2⟩,hp'⟩:∃p:Ac,m[k]=p:=⟨_,rfl⟩;have HP:=hide hp;have HP':=hide hp';rw [hp] at q0 q0' HQ;rw [hp'] at r0 r0' HR;dsimp only at q0 q0' r0 r0' HQ HR;clear hp hp' p1 p2 p1' p2';obtain ⟨r,er⟩:∃r:Bool,decide (((N,L1):Pu)=(N2,L2))=r:=⟨_,rfl⟩;have HRR:=hide er;clear er
    by_cases hst:s=T
    ·subst hst
     have hK:Keeps (fun wx=>(wx.cell? ⟨b1,o1+k*3,none⟩=some (.bool s)∧wx.cell? ⟨b1,o1+k*3+1,none⟩=some (.int .i64 N)∧wx.cell? ⟨b1,o1+k*3+2,none⟩=some (.slice x9 m9 d9))∧(wx.cell? ⟨b2,o2+k*3,none⟩=some (.bool s)∧wx.cell? ⟨b2,o2+k*3+1,none⟩=some (.int .i64 N2)∧wx.cell? ⟨b2,o2+k*3+2,none⟩=some (.slice y9 n9 f9))∧Below w.heap.size w wx):=((qaa _ _).and ((qaa _ _).and (qaa _ _))).and (((qaa _ _).and ((qaa _ _).and (qaa _ _))).and (qap _));go_wp2
     refine qaj hK (by kernel_rfl) ⟨⟨q0,q0',q1⟩,⟨r0,r0',r1⟩,hbel⟩ ?_
     intro hS
     refine rT 0 ?q1v0 rfl ?q1y0 hS ?q1r0
     case q1y0=>(rintro wx ⟨⟨x1,x2,x3⟩,⟨y1,y2,y3⟩,hbx⟩;go_simp;all_goals (with_reducible rfl))
     try simp only [Act.put,sA,sB,sC]
     refine rT 1 ?q1v1 rfl ?q1y1 hS ?q1r1
     case q1y1=>(rintro wx ⟨⟨x1,x2,x3⟩,⟨y1,y2,y3⟩,hbx⟩;go_simp;all_goals (with_reducible rfl))
     try simp only [Act.put,sA,sB,sC]
     refine rT 2 ?q1v2 rfl ?q1y2 hS ?q1r2
     case q1y2=>(rintro wx ⟨⟨x1,x2,x3⟩,⟨y1,y2,y3⟩,hbx⟩;go_simp;all_goals (with_reducible rfl))
     try simp only [Act.put,sA,sB,sC]
     refine rT 3 ?q1v3 rfl ?q1y3 hS ?q1r3
     case q1y3=>(rintro wx ⟨⟨x1,x2,x3⟩,⟨y1,y2,y3⟩,hbx⟩;go_simp;all_goals (with_reducible rfl))
     try simp only [Act.put,sA,sB,sC]
     refine rT 4 ?q1v4 rfl ?q1y4 hS ?q1r4
     case q1y4=>(rintro wx ⟨⟨x1,x2,x3⟩,⟨y1,y2,y3⟩,hbx⟩;go_simp;all_goals (with_reducible rfl))
     try simp only [Act.put,sA,sB,sC]
     refine rT 5 ?q1v5 rfl ?q1y5 hS ?q1r5
     case q1y5=>(rintro wx ⟨⟨x1,x2,x3⟩,⟨y1,y2,y3⟩,hbx⟩;go_simp;all_goals (with_reducible rfl))
     try simp only [Act.put,sA,sB,sC]
     refine rT 6 ?q1v6 rfl ?q1y6 hS ?q1r6
     case q1y6=>(rintro wx ⟨⟨x1,x2,x3⟩,⟨y1,y2,y3⟩,hbx⟩;go_simp;all_goals (with_reducible rfl))
     try simp only [Act.put,sA,sB,sC]
     refine rT 7 ?q1v7 rfl ?q1y7 hS ?q1r7
     case q1y7=>(rintro wx ⟨⟨x1,x2,x3⟩,⟨y1,y2,y3⟩,hbx⟩;go_simp;all_goals (with_reducible rfl))
     try simp only [Act.put,sA,sB,sC]
     refine rT 8 ?q1v8 rfl ?q1y8 hS ?q1r8
     case q1y8=>(rintro wx ⟨⟨x1,x2,x3⟩,⟨y1,y2,y3⟩,hbx⟩;go_simp;all_goals (with_reducible rfl))
     try simp only [Act.put,sA,sB,sC]
     refine rT 9 ?q1v9 rfl ?q1y9 hS ?q1r9
     case q1y9=>(rintro wx ⟨⟨x1,x2,x3⟩,⟨y1,y2,y3⟩,hbx⟩;go_simp;all_goals (with_reducible rfl))
     try simp only [Act.put,sA,sB,sC]
     refine rT 10 ?q1v10 rfl ?q1y10 hS ?q1r10
     case q1y10=>(rintro wx ⟨⟨x1,x2,x3⟩,⟨y1,y2,y3⟩,hbx⟩;go_simp;all_goals (with_reducible rfl))
     try simp only [Act.put,sA,sB,sC]
     refine rT 11 ?q1v11 rfl ?q1y11 hS ?q1r11
     case q1y11=>(rintro wx ⟨⟨x1,x2,x3⟩,⟨y1,y2,y3⟩,hbx⟩;go_simp;all_goals (with_reducible rfl))
     try simp only [Act.put,sA,sB,sC]
     refine rT 12 ?q1v12 rfl ?q1y12 hS ?q1r12
     case q1y12=>(rintro wx ⟨⟨x1,x2,x3⟩,⟨y1,y2,y3⟩,hbx⟩;go_simp;all_goals (with_reducible rfl))
     try simp only [Act.put,sA,sB,sC]
     refine rT 13 ?q1v13 rfl ?q1y13 hS ?q1r13
     case q1y13=>(rintro wx ⟨⟨x1,x2,x3⟩,⟨y1,y2,y3⟩,hbx⟩;go_simp;all_goals (with_reducible rfl))
     try simp only [Act.put,sA,sB,sC]
     refine rT 14 ?q1v14 rfl ?q1y14 hS ?q1r14
     case q1y14=>(rintro wx ⟨⟨x1,x2,x3⟩,⟨y1,y2,y3⟩,hbx⟩;go_simp;all_goals (with_reducible rfl))
     try simp only [Act.put,sA,sB,sC]
     refine rT 15 ?q1v15 rfl ?q1y15 hS ?q1r15
     case q1y15=>(rintro wx ⟨⟨x1,x2,x3⟩,⟨y1,y2,y3⟩,hbx⟩;go_simp;all_goals (with_reducible rfl))
     try simp only [Act.put,sA,sB,sC]
     refine rT 16 ?q1v16 rfl ?q1y16 hS ?q1r16
     case q1y16=>(rintro wx ⟨⟨x1,x2,x3⟩,⟨y1,y2,y3⟩,hbx⟩;go_simp;all_goals (with_reducible rfl))
     try simp only [Act.put,sA,sB,sC]
     refine rT 17 ?q1v17 rfl ?q1y17 hS ?q1r17
     case q1y17=>(rintro wx ⟨⟨x1,x2,x3⟩,⟨y1,y2,y3⟩,hbx⟩;go_simp;all_goals (with_reducible rfl))
     try simp only [Act.put,sA,sB,sC]
     refine rT 18 ?q1v18 rfl ?q1y18 hS ?q1r18
     case q1y18=>(rintro wx ⟨⟨x1,x2,x3⟩,⟨y1,y2,y3⟩,hbx⟩;go_simp;all_goals (with_reducible rfl))
     try simp only [Act.put,sA,sB,sC]
     refine rT 19 ?q1v19 rfl ?q1y19 hS ?q1r19
     case q1y19=>(rintro wx ⟨⟨x1,x2,x3⟩,⟨y1,y2,y3⟩,hbx⟩;go_simp;all_goals (with_reducible rfl))
     try simp only [Act.put,sA,sB,sC]
     refine rT 20 ?q1v20 rfl ?q1y20 hS ?q1r20
     case q1y20=>(rintro wx ⟨⟨x1,x2,x3⟩,⟨y1,y2,y3⟩,hbx⟩;go_simp;all_goals (with_reducible rfl))
     try simp only [Act.put,sA,sB,sC]
     refine rT 21 ?q1v21 rfl ?q1y21 hS ?q1r21
     case q1y21=>(rintro wx ⟨⟨x1,x2,x3⟩,⟨y1,y2,y3⟩,hbx⟩;go_simp;all_goals (with_reducible rfl))
     try simp only [Act.put,sA,sB,sC]
     refine rV hK 22 (.bool r) rfl hS (qnz HRR.out (qj0 (N,L1) (N2,L2) x9 y9 m9 d9 n9 f9 _ (HQ.out.carry (hS.2.2.mono (Nat.le_refl _))) (HR.out.carry (hS.2.2.mono (Nat.le_refl _))))) ?_
     clear hS;intro w39 hS
     try simp only [Act.put,sA,sB,sC]
     refine rT 23 ?q1v23 rfl ?q1y23 hS ?q1r23
     case q1y23=>(rintro wx ⟨⟨x1,x2,x3⟩,⟨y1,y2,y3⟩,hbx⟩;go_simp;all_goals (with_reducible rfl))
     try simp only [Act.put,sA,sB,sC]
     refine rT 24 ?q1v24 rfl ?q1y24 hS ?q1r24
     case q1y24=>(rintro wx ⟨⟨x1,x2,x3⟩,⟨y1,y2,y3⟩,hbx⟩;go_simp;all_goals (with_reducible rfl))
     try simp only [Act.put,sA,sB,sC]
     refine rD ?_
     obtain ⟨_,_,hb3⟩:=hS;cases r
     ·have HE:=hide (show decide (l=m)=false by
       simp only [decide_eq_false_iff_not]
       intro e
       have e':l[k]=m[k]:=by simp only [e]
       rw [HP.out,HP'.out] at e'
       injection e' with _ e'
       have:=HRR.out
       rw [decide_eq_true e'] at this
       cases this)
      go_wp2;go_ret;exact ⟨by first | rfl | (rw [HE.out];rfl),hb3⟩
     ·have HE:=hide (show l[k]=m[k] by
       have h:=of_decide_eq_true HRR.out;rw [HP.out,HP'.out]
       injection h with h1 h2
       rw [h1,h2])
      go_wp2;go_roundw
      case rel=>exact ⟨k+1,by omega,by go_num,by show _=_;rw [List.take_succ_eq_append_getElem hkl,List.take_succ_eq_append_getElem hkm,htk.out,HE.out],hb3⟩
      case measure=>simp [intOf]<;>omega
    cases s<;>cases T
    ·exact absurd rfl hst
    ·have HE:=hide (show decide (l=m)=false by
      simp only [decide_eq_false_iff_not]
      intro e
      have e':l[k]=m[k]:=by simp only [e]
      rw [HP.out,HP'.out] at e'
      injection e' with e' _
      cases e')
     have hK:Keeps (fun wx=>(wx.cell? ⟨b1,o1+k*3,none⟩=some (.bool false)∧wx.cell? ⟨b1,o1+k*3+1,none⟩=some (.int .i64 N)∧wx.cell? ⟨b1,o1+k*3+2,none⟩=some (.slice x9 m9 d9))∧(wx.cell? ⟨b2,o2+k*3,none⟩=some (.bool true)∧wx.cell? ⟨b2,o2+k*3+1,none⟩=some (.int .i64 N2)∧wx.cell? ⟨b2,o2+k*3+2,none⟩=some (.slice y9 n9 f9))∧Below w.heap.size w wx):=((qaa _ _).and ((qaa _ _).and (qaa _ _))).and (((qaa _ _).and ((qaa _ _).and (qaa _ _))).and (qap _));go_wp2
     refine qaj hK (by kernel_rfl) ⟨⟨q0,q0',q1⟩,⟨r0,r0',r1⟩,hbel⟩ ?_
     intro hS
     refine rT 0 ?q2v0 rfl ?q2y0 hS ?q2r0
     case q2y0=>(rintro wx ⟨⟨x1,x2,x3⟩,⟨y1,y2,y3⟩,hbx⟩;go_simp;all_goals (with_reducible rfl))
     try simp only [Act.put,sA,sB,sC]
     refine rT 1 ?q2v1 rfl ?q2y1 hS ?q2r1
     case q2y1=>(rintro wx ⟨⟨x1,x2,x3⟩,⟨y1,y2,y3⟩,hbx⟩;go_simp;all_goals (with_reducible rfl))
     try simp only [Act.put,sA,sB,sC]
     refine rT 2 ?q2v2 rfl ?q2y2 hS ?q2r2
     case q2y2=>(rintro wx ⟨⟨x1,x2,x3⟩,⟨y1,y2,y3⟩,hbx⟩;go_simp;all_goals (with_reducible rfl))
     try simp only [Act.put,sA,sB,sC]
     refine rT 3 ?q2v3 rfl ?q2y3 hS ?q2r3
     case q2y3=>(rintro wx ⟨⟨x1,x2,x3⟩,⟨y1,y2,y3⟩,hbx⟩;go_simp;all_goals (with_reducible rfl))
     try simp only [Act.put,sA,sB,sC]
     refine rT 4 ?q2v4 rfl ?q2y4 hS ?q2r4
     case q2y4=>(rintro wx ⟨⟨x1,x2,x3⟩,⟨y1,y2,y3⟩,hbx⟩;go_simp;all_goals (with_reducible rfl))
     try simp only [Act.put,sA,sB,sC]
     refine rT 5 ?q2v5 rfl ?q2y5 hS ?q2r5
     case q2y5=>(rintro wx ⟨⟨x1,x2,x3⟩,⟨y1,y2,y3⟩,hbx⟩;go_simp;all_goals (with_reducible rfl))
     try simp only [Act.put,sA,sB,sC]
     refine rT 6 ?q2v6 rfl ?q2y6 hS ?q2r6
     case q2y6=>(rintro wx ⟨⟨x1,x2,x3⟩,⟨y1,y2,y3⟩,hbx⟩;go_simp;all_goals (with_reducible rfl))
     try simp only [Act.put,sA,sB,sC]
     refine rT 7 ?q2v7 rfl ?q2y7 hS ?q2r7
     case q2y7=>(rintro wx ⟨⟨x1,x2,x3⟩,⟨y1,y2,y3⟩,hbx⟩;go_simp;all_goals (with_reducible rfl))
     try simp only [Act.put,sA,sB,sC]
     refine rT 8 ?q2v8 rfl ?q2y8 hS ?q2r8
     case q2y8=>(rintro wx ⟨⟨x1,x2,x3⟩,⟨y1,y2,y3⟩,hbx⟩;go_simp;all_goals (with_reducible rfl))
     try simp only [Act.put,sA,sB,sC]
     refine rT 9 ?q2v9 rfl ?q2y9 hS ?q2r9
     case q2y9=>(rintro wx ⟨⟨x1,x2,x3⟩,⟨y1,y2,y3⟩,hbx⟩;go_simp;all_goals (with_reducible rfl))
     try simp only [Act.put,sA,sB,sC]
     refine rT 10 ?q2v10 rfl ?q2y10 hS ?q2r10
     case q2y10=>(rintro wx ⟨⟨x1,x2,x3⟩,⟨y1,y2,y3⟩,hbx⟩;go_simp;all_goals (with_reducible rfl))
     try simp only [Act.put,sA,sB,sC]
     refine rT 11 ?q2v11 rfl ?q2y11 hS ?q2r11
     case q2y11=>(rintro wx ⟨⟨x1,x2,x3⟩,⟨y1,y2,y3⟩,hbx⟩;go_simp;all_goals (with_reducible rfl))
     try simp only [Act.put,sA,sB,sC]
     refine rS 12 rfl hS ?_
     try simp only [Act.put,sA,sB,sC]
     refine rS 13 rfl hS ?_
     try simp only [Act.put,sA,sB,sC]
     refine rS 14 rfl hS ?_
     try simp only [Act.put,sA,sB,sC]
     refine rS 15 rfl hS ?_
     try simp only [Act.put,sA,sB,sC]
     refine rS 16 rfl hS ?_
     try simp only [Act.put,sA,sB,sC]
     refine rS 17 rfl hS ?_
     try simp only [Act.put,sA,sB,sC]
     refine rS 18 rfl hS ?_
     try simp only [Act.put,sA,sB,sC]
     refine rS 19 rfl hS ?_
     try simp only [Act.put,sA,sB,sC]
     refine rS 20 rfl hS ?_
     try simp only [Act.put,sA,sB,sC]
     refine rS 21 rfl hS ?_
     try simp only [Act.put,sA,sB,sC]
     refine rS 22 rfl hS ?_
     try simp only [Act.put,sA,sB,sC]
     refine rS 23 rfl hS ?_
     try simp only [Act.put,sA,sB,sC]
     refine rT 24 ?q2v24 rfl ?q2y24 hS ?q2r24
     case q2y24=>(rintro wx ⟨⟨x1,x2,x3⟩,⟨y1,y2,y3⟩,hbx⟩;go_simp;all_goals (with_reducible rfl))
     try simp only [Act.put,sA,sB,sC]
     refine rD ?_
     obtain ⟨_,_,hb3⟩:=hS;go_wp2;go_ret;exact ⟨by first | rfl | (rw [HE.out];rfl),hb3⟩
    ·have HE:=hide (show decide (l=m)=false by
      simp only [decide_eq_false_iff_not]
      intro e
      have e':l[k]=m[k]:=by simp only [e]
      rw [HP.out,HP'.out] at e'
      injection e' with e' _
      cases e')
     have hK:Keeps (fun wx=>(wx.cell? ⟨b1,o1+k*3,none⟩=some (.bool true)∧wx.cell? ⟨b1,o1+k*3+1,none⟩=some (.int .i64 N)∧wx.cell? ⟨b1,o1+k*3+2,none⟩=some (.slice x9 m9 d9))∧(wx.cell? ⟨b2,o2+k*3,none⟩=some (.bool false)∧wx.cell? ⟨b2,o2+k*3+1,none⟩=some (.int .i64 N2)∧wx.cell? ⟨b2,o2+k*3+2,none⟩=some (.slice y9 n9 f9))∧Below w.heap.size w wx):=((qaa _ _).and ((qaa _ _).and (qaa _ _))).and (((qaa _ _).and ((qaa _ _).and (qaa _ _))).and (qap _));go_wp2
     refine qaj hK (by kernel_rfl) ⟨⟨q0,q0',q1⟩,⟨r0,r0',r1⟩,hbel⟩ ?_
     intro hS
     refine rT 0 ?q3v0 rfl ?q3y0 hS ?q3r0
     case q3y0=>(rintro wx ⟨⟨x1,x2,x3⟩,⟨y1,y2,y3⟩,hbx⟩;go_simp;all_goals (with_reducible rfl))
     try simp only [Act.put,sA,sB,sC]
     refine rT 1 ?q3v1 rfl ?q3y1 hS ?q3r1
     case q3y1=>(rintro wx ⟨⟨x1,x2,x3⟩,⟨y1,y2,y3⟩,hbx⟩;go_simp;all_goals (with_reducible rfl))
     try simp only [Act.put,sA,sB,sC]
     refine rT 2 ?q3v2 rfl ?q3y2 hS ?q3r2
     case q3y2=>(rintro wx ⟨⟨x1,x2,x3⟩,⟨y1,y2,y3⟩,hbx⟩;go_simp;all_goals (with_reducible rfl))
     try simp only [Act.put,sA,sB,sC]
     refine rT 3 ?q3v3 rfl ?q3y3 hS ?q3r3
     case q3y3=>(rintro wx ⟨⟨x1,x2,x3⟩,⟨y1,y2,y3⟩,hbx⟩;go_simp;all_goals (with_reducible rfl))
     try simp only [Act.put,sA,sB,sC]
     refine rT 4 ?q3v4 rfl ?q3y4 hS ?q3r4
     case q3y4=>(rintro wx ⟨⟨x1,x2,x3⟩,⟨y1,y2,y3⟩,hbx⟩;go_simp;all_goals (with_reducible rfl))
     try simp only [Act.put,sA,sB,sC]
     refine rT 5 ?q3v5 rfl ?q3y5 hS ?q3r5
     case q3y5=>(rintro wx ⟨⟨x1,x2,x3⟩,⟨y1,y2,y3⟩,hbx⟩;go_simp;all_goals (with_reducible rfl))
     try simp only [Act.put,sA,sB,sC]
     refine rT 6 ?q3v6 rfl ?q3y6 hS ?q3r6
     case q3y6=>(rintro wx ⟨⟨x1,x2,x3⟩,⟨y1,y2,y3⟩,hbx⟩;go_simp;all_goals (with_reducible rfl))
     try simp only [Act.put,sA,sB,sC]
     refine rT 7 ?q3v7 rfl ?q3y7 hS ?q3r7
     case q3y7=>(rintro wx ⟨⟨x1,x2,x3⟩,⟨y1,y2,y3⟩,hbx⟩;go_simp;all_goals (with_reducible rfl))
     try simp only [Act.put,sA,sB,sC]
     refine rT 8 ?q3v8 rfl ?q3y8 hS ?q3r8
     case q3y8=>(rintro wx ⟨⟨x1,x2,x3⟩,⟨y1,y2,y3⟩,hbx⟩;go_simp;all_goals (with_reducible rfl))
     try simp only [Act.put,sA,sB,sC]
     refine rT 9 ?q3v9 rfl ?q3y9 hS ?q3r9
     case q3y9=>(rintro wx ⟨⟨x1,x2,x3⟩,⟨y1,y2,y3⟩,hbx⟩;go_simp;all_goals (with_reducible rfl))
     try simp only [Act.put,sA,sB,sC]
     refine rT 10 ?q3v10 rfl ?q3y10 hS ?q3r10
     case q3y10=>(rintro wx ⟨⟨x1,x2,x3⟩,⟨y1,y2,y3⟩,hbx⟩;go_simp;all_goals (with_reducible rfl))
     try simp only [Act.put,sA,sB,sC]
     refine rT 11 ?q3v11 rfl ?q3y11 hS ?q3r11
     case q3y11=>(rintro wx ⟨⟨x1,x2,x3⟩,⟨y1,y2,y3⟩,hbx⟩;go_simp;all_goals (with_reducible rfl))
     try simp only [Act.put,sA,sB,sC]
     refine rS 12 rfl hS ?_
     try simp only [Act.put,sA,sB,sC]
     refine rS 13 rfl hS ?_
     try simp only [Act.put,sA,sB,sC]
     refine rS 14 rfl hS ?_
     try simp only [Act.put,sA,sB,sC]
     refine rS 15 rfl hS ?_
     try simp only [Act.put,sA,sB,sC]
     refine rS 16 rfl hS ?_
     try simp only [Act.put,sA,sB,sC]
     refine rS 17 rfl hS ?_
     try simp only [Act.put,sA,sB,sC]
     refine rS 18 rfl hS ?_
     try simp only [Act.put,sA,sB,sC]
     refine rS 19 rfl hS ?_
     try simp only [Act.put,sA,sB,sC]
     refine rS 20 rfl hS ?_
     try simp only [Act.put,sA,sB,sC]
     refine rS 21 rfl hS ?_
     try simp only [Act.put,sA,sB,sC]
     refine rS 22 rfl hS ?_
     try simp only [Act.put,sA,sB,sC]
     refine rS 23 rfl hS ?_
     try simp only [Act.put,sA,sB,sC]
     refine rT 24 ?q3v24 rfl ?q3y24 hS ?q3r24
     case q3y24=>(rintro wx ⟨⟨x1,x2,x3⟩,⟨y1,y2,y3⟩,hbx⟩;go_simp;all_goals (with_reducible rfl))
     try simp only [Act.put,sA,sB,sC]
     refine rD ?_
     obtain ⟨_,_,hb3⟩:=hS;go_wp2;go_ret;exact ⟨by first | rfl | (rw [HE.out];rfl),hb3⟩
    ·exact absurd rfl hst
   ·have hlt':decide ((k:Int)<n1)=false:=by simpa using (by omega:¬(k:Int)<n1)
    have HE:=hide (show decide (l=m)=true by
     have:=htk.out
     rw [List.take_of_length_le (by have:=E1.out;omega),List.take_of_length_le (by have:=E2.out;omega)] at this
     simpa using this)
    go_wp2;go_ret;exact ⟨by first | rfl | (rw [HE.out];rfl),hbel⟩
 ·have hn':((n1:Int) !=n2)=true:=by simpa using (by omega:¬(n1:Int)=n2)
  have HE:=hide (show decide (l=m)=false by
   simp only [decide_eq_false_iff_not]
   intro e;apply hn
   rw [E1.out,E2.out,e])
  go_enter Tryz.func139,Tryz.ntmps139
  go_wp2;go_ret;exact ⟨by first | rfl | (rw [HE.out];rfl),Below.refl _ _⟩
end Go.Proofs.YtmeaiocohalphaaGreatDoor

/-
  Plain mathematics: the number that a list of small bytes tells, reckoned from its end, is the one reckoned from its beginning.
-/
import Derived.Test.YtnmbbpdhjkaidaaGreatRmFree
import Derived.Test.YtnmbbpdhjkaidaaGreatRegD
set_option maxHeartbeats 1000000
namespace Go.Proofs.YtnmbbpdhjkaidaaGreat
open Go.RowKit
set_option linter.all false
theorem qaaq {l:List Ex} {k:Nat} (hk:k<l.length) (hm:∀x∈l,mayX x=true) (h:apX (l.take k)=true) (hn:∀n:Nat,inL (l.take k) n=true→inX l[k] n=false):apX (l.take (k+1))=true:=by
 rw [qci l k hk,qjt,h,Bool.true_and,List.all_eq_true];intro y hy;have hyl:y∈l:=List.mem_of_mem_take hy;have my:=(qb7 y).1 (hm y hyl);have mk:=(qb7 _).1 (hm _ (List.getElem_mem hk));rw [Bool.not_eq_true',←Bool.not_eq_true,qnk mk.2.1 my.2.1];rintro ⟨n,h1,h2⟩
 have h0:0≤n:=by simp [inX] at h2;omega
 have:=hn n.toNat (by rw [Int.toNat_of_nonneg h0,qnm];exact ⟨y,hy,by simpa [inX] using h2⟩)
 rw [Int.toNat_of_nonneg h0,h1] at this;cases this
theorem qaea {l:List Ex} {k:Nat} (hk:k<l.length) (hm:∀x∈l,mayX x=true) {n:Nat} (h1:inL (l.take k) n=true) (h2:inX l[k] n=true):apX (l.take (k+1))=false:=by
 rw [qci l k hk,qjt,Bool.and_eq_false_iff]
 right
 rw [List.all_eq_false];obtain ⟨y,hy,h3⟩:=(qnm _ _).1 h1;have my:=(qb7 y).1 (hm y (List.mem_of_mem_take hy));have mk:=(qb7 _).1 (hm _ (List.getElem_mem hk));refine ⟨y,hy, ?_⟩
 rw [(qnk mk.2.1 my.2.1).2 ⟨n,h2,by simpa [inX] using h3⟩];simp
theorem qo5 (a:Option Addr) (n c:Nat) (l:List Ex) (w:World) (hrd:RdE w (.slice a n c) l) (hn:n=l.length) (hwf:∀x∈l,wfX x):
  Calls Tryz.prog 220 #[.slice a n c] w fun e w'=>e=.returned (.int .i64 (chkX l))∧Below w.heap.size w w':=by
 have HR:=hide hrd;have HN:=hide hn;have HA:=hide (qi9 a n c l w hrd hn hwf);clear hrd hn hwf
 go_enter Tryz.func220,Tryz.ntmps220
 go_wp2_with fail
 refine HA.out.mono ?_
 rintro e wa ⟨rfl,hba⟩
 by_cases hz:allX l=0
 ·have HZ:=hide hz
  rw [hz];have hzero:=Tryz.zeroMk;have hne:=qac2 (fun _=>false)
  have hn4:n≤4096:=by have:=(qeg HZ.out).1;have:=HN.out;omega
  have HMay:=hide (fun x hx=>(qb7 x).2 ((qeg HZ.out).2 x hx):∀x∈l,mayX x=true);have hws:=hba.size;clear hz;go_wp2
  go_loopw [14] (fun i wr=>∃k:Nat,k≤n∧i=.int .i64 k∧Hid (Mk wr wa.heap.size (fun j=>inL (l.take k) j))∧Hid (apX (l.take k)=true)∧Below w.heap.size w wr) (fun i _=>n - (intOf i).toNat)
  case atStart=>exact ⟨0,Nat.zero_le _,rfl,hide ((Mk.new wa _).same fun j=>by simp [inL]),hide (by simp [apX]),hba.alloc hws _⟩
  case round=>
   obtain ⟨k,hk,rfl,hmk,hap,hbel⟩:=hrel;have hml:=hmk.out.lt
   by_cases hlt:k<n
   ·have hlt':(k:Int)<n:=by omega
    have hkl:k<l.length:=by have:=HN.out;omega
    obtain ⟨b,off,rfl,q0,q1⟩:=(HR.out.carry hbel).at k hkl
    go_wp2_with fail
    refine (qq7 wa.heap.size _ (l[k]) (HMay.out _ (List.getElem_mem hkl)) _ (hmk.out.carry ((Below.refl _ _).alloc (Nat.le_refl _) _))).mono ?_
    rintro e wc ⟨hg,⟨rfl,hm1,hno⟩ | ⟨rfl,j, -,hj1,hj2⟩⟩
    ·have HM1:=hide (hm1.same (g:=fun j=>inL (l.take (k+1)) j) fun j=>by rw [qci l k hkl,qgq])
     have HAP:=hide (qaaq hkl HMay.out hap.out hno);have hbc:Below w.heap.size w wc:=(hbel.alloc hbel.size _).grown hg (Nat.le_trans hbel.size (by simp)) (fun j hj=>by cases hj;exact hws);clear hm1 hg hno;go_wp2;go_roundw
     case rel=>exact ⟨k+1,by omega,rfl,HM1,HAP,hbc⟩
     case measure=>simp only [intOf];omega
    ·have HC:=hide (qud (k:=k+1) hkl HZ.out (qaea hkl HMay.out hj1 hj2))
     have hbc:Below w.heap.size w wc:=(hbel.alloc hbel.size _).grown hg (Nat.le_trans hbel.size (by simp)) (fun j hj=>by cases hj;exact hws);clear hg hj1 hj2;go_wp2;go_ret;exact ⟨by rw [HC.out];rfl,hbc⟩
   ·have hd:decide ((k:Int)<n)=false:=by simpa using (by omega:¬(k:Int)<n)
    have HC:=hide (qkp HZ.out (by have:=hap.out;rwa [List.take_of_length_le (by have:=HN.out;omega)] at this));go_wp2;go_ret;exact ⟨by rw [HC.out];rfl,hbel⟩
 ·have HC:=hide (qaag hz)
  generalize hE:allX l=E at *
  have hz':(E==0)=false:=by simpa using hz
  go_wp2;go_ret;exact ⟨by rw [HC.out];rfl,hba⟩
def manyR (l:List Ex):Int:=if chkX l=0 then qbh l else 0
def qfg (l:List Ex):List Int:=if chkX l=0 then qau l else []
theorem qaar {l:List Ex} {k:Nat} (ha:allX l=0):0≤qbh (l.take k)∧qbh (l.take k)≤16777216:=by
 have h0:=qeg ha
 have:=qq3 (l:=l.take k) fun x hx=>h0.2 x (List.mem_of_mem_take hx)
 rw [List.length_take] at this;omega
theorem qul {l:List Ex} {k m:Nat} (ha:allX l=0) (hk:k<l.length) (hm:m≤(l[k]).2.toNat):(qau (l.take k)++blkX l[k] m).length≤16777216:=by
 have h0:=qeg ha
 have h1:=qq4 (l:=l.take k) fun x hx=>(h0.2 x (List.mem_of_mem_take hx)).2.1
 have h2:=qaar (k:=k+1) ha;rw [qci l k hk,qin] at h2
 have:=h0.2 _ (List.getElem_mem hk)
 rw [List.length_append,qsm];omega
theorem qum (a:Option Addr) (n c:Nat) (l:List Ex) (w:World) (hrd:RdE w (.slice a n c) l) (hn:n=l.length) (hwf:∀x∈l,wfX x):
  Calls Tryz.prog 187 #[.slice a n c] w fun e w'=>∃v,e=.returned (.tuple #[v,.int .i64 (chkX l)])∧OwI w' w.heap.size v (qfg l)∧Below w.heap.size w w':=by
 have HR:=hide hrd;have HN:=hide hn;have HA:=hide (qo5 a n c l w hrd hn hwf);clear hrd hn hwf
 go_enter Tryz.func187,Tryz.ntmps187
 go_wp2_with fail
 refine HA.out.mono ?_
 rintro e wa ⟨rfl,hba⟩
 by_cases hz:chkX l=0
 ·have HZ:=hide (qnl hz).1
  have HM:=hide (show qfg l=qau l by unfold qfg;rw [if_pos hz]);rw [hz];have HC:=hide hz
  have hn4:n≤4096:=by have:=(qeg HZ.out).1;have:=HN.out;omega
  clear hz;go_wp2
  go_loopw [5,16] (fun s i wr=>∃k:Nat,k≤n∧i=.int .i64 k∧Hid (OwI wr w.heap.size s (qau (l.take k)))∧Below w.heap.size w wr) (fun _ i _=>n - (intOf i).toNat)
  case atStart=>exact ⟨0,Nat.zero_le _,rfl,hide (OwI.nil _ _),hba⟩
  case round=>
   obtain ⟨k,hk,rfl,ho,hbel⟩:=hrel
   by_cases hlt:k<n
   ·have hlt':(k:Int)<n:=by omega
    have hkl:k<l.length:=by have:=HN.out;omega
    obtain ⟨b,off,rfl,q0,q1⟩:=(HR.out.carry hbel).at k hkl;have HE:=hide (show qau (l.take (k+1))=qau (l.take k)++blkX l[k] (l[k]).2.toNat by rw [qci l k hkl,qo2]);have hx:=(qeg HZ.out).2 _ (List.getElem_mem hkl);have hbb:=hbel.alloc hbel.size (.cells #[.int .i64 (l[k]).1,.int .i64 (l[k]).2] 209);have hoo:=hide (ho.out.carry ((Below.refl _ _).alloc (Nat.le_refl _) (.cells #[.int .i64 (l[k]).1,.int .i64 (l[k]).2] 209)));have HL:=hide (fun m hm=>qul (m:=m) HZ.out hkl hm)
    have c0:(wr.alloc (.cells #[.int .i64 (l[k]).1,.int .i64 (l[k]).2] 209)).heap[wr.heap.size]? =some (.cells #[.int .i64 (l[k]).1,.int .i64 (l[k]).2] 209 (0,0)):=heap_alloc_new _ _
    generalize hX:l[k]=X at *;obtain ⟨P,R⟩:=X
    simp only at hx hbb c0 HE q0 q1 hoo HL
    obtain ⟨r,rfl⟩:∃r:Nat,R=r:=⟨R.toNat,by omega⟩;clear hX;have C0:=hide c0;clear c0;go_wp2;generalize wr.heap.size=XB at *
    go_loopw [5,22] (fun s i wr=>∃j:Nat,j≤r∧i=.int .i64 j∧Hid (OwI wr w.heap.size s (qau (l.take k)++blkX (P,(r:Int)) j))∧Below w.heap.size w wr∧Hid (wr.heap[XB]? =some (.cells #[.int .i64 P,.int .i64 r] 209 (0,0)))) (fun _ i _=>r - (intOf i).toNat)
    case atStart=>exact ⟨0,Nat.zero_le _,rfl,hide (by simpa [blkX] using hoo.out),hbb,C0⟩
    case round=>
     obtain ⟨j,hj,rfl,ho2,hbel2,hxb⟩:=hrel
     by_cases hjt:j<r
     ·have hjt':(j:Int)<r:=by omega
      have hlen:=HL.out j (by omega);obtain ⟨g9,c9,w9,hrun,hown9,hbel9,hgr9⟩:=qad6 ho2.out hbel2.size (by omega) (P+j);have HX:=hide ((hgr9.block _ (Array.getElem?_eq_some_iff.1 hxb.out).1 (ho2.out.apart hxb.out)).trans hxb.out)
      have hcell:wr.cell? ⟨XB,0,none⟩=some (.int .i64 P):=by rw [cell_of_row wr _ 0 _ _ (0,0) hxb.out];rfl
      have HO:=hide (show OwI w9 w.heap.size (.slice (some ⟨g9,0,none⟩) ((qau (l.take k)++blkX (P,(r:Int)) j).length+1) c9) (qau (l.take k)++blkX (P,(r:Int)) (j+1)) by
       rw [qwk,←List.append_assoc];exact hown9)
      have hb9:=hbel2.trans hbel9
      have hw1:wrap64 (P+(j:Int))=P+(j:Int):=by unfold wrap64;omega
      clear hown9 hbel9 hgr9
      go_wp2_with (at_builtin;refine qak rfl (.tmp 25) (.tmp 30) 164 rfl rfl rfl rfl hrun ?_)
      go_roundw
      case rel=>exact ⟨j+1,by omega,rfl,by rw [←List.length_append];exact HO,hb9,HX⟩
      case measure=>simp only [intOf];omega
     ·have hd:decide ((j:Int)<r)=false:=by simpa using (by omega:¬(j:Int)<r)
      have HO:=hide (show OwI wr w.heap.size _ (qau (l.take (k+1))) by
       rw [HE.out,Int.toNat_natCast]
       have e:j=r:=by omega
       rw [←e];rw [←e] at ho2;exact ho2.out)
      go_wp2;go_roundw
      case rel=>exact ⟨k+1,by omega,rfl,HO,hbel2⟩
      case measure=>simp only [intOf];omega
   ·have hd:decide ((k:Int)<n)=false:=by simpa using (by omega:¬(k:Int)<n)
    have HE:=hide (show qau (l.take k)=qfg l by rw [HM.out,List.take_of_length_le (by have:=HN.out;omega)]);go_wp2;go_ret2;exact ⟨_,by rw [HC.out];rfl,by rw [←HE.out];exact ho.out,hbel⟩
 ·have HM:=hide (show qfg l=[] by unfold qfg;rw [if_neg hz])
  generalize hE:chkX l=E at *
  have hz':(E==0)=false:=by simpa using hz
  go_wp2;go_ret2;exact ⟨_,by rw [hE];rfl,by rw [HM.out];exact OwI.nil _ _,hba⟩
end Go.Proofs.YtnmbbpdhjkaidaaGreat
namespace Go.Proofs.YtnmbbpdhjkaidaaGreat
def hv:List UInt8→Nat
 | []=>0
 | c::r=>c.toNat % 128+128*hv r
theorem qo6:∀(l:List UInt8) (i acc n k:Nat),i≤9→acc<128 ^ i→rdGo l i acc=some (n,k)→i<k∧k≤i+l.length∧k≤10∧n<18446744073709551616
 | [],i,acc,n,k,_,_,h=>by simp [rdGo] at h
 | c::r,i,acc,n,k,hi,ha,h=>by
  rw [rdGo] at h
  split at h
  ·simp at h
  ·rename_i h9
   split at h
   ·rename_i hge
    have hi9:i≠9:=by intro e;exact h9 ⟨e,by omega⟩
    have:=qo6 r (i+1) _ n k (by omega) (qsc ha) h
    simp only [List.length_cons];omega
   ·rename_i hlt
    split at h
    ·simp at h
    ·simp only [Option.some.injEq,Prod.mk.injEq] at h
     obtain ⟨rfl,rfl⟩:=h;refine ⟨by omega,by simp only [List.length_cons];omega,by omega, ?_⟩
     by_cases e:i=9
     ·subst e
      have h2:c.toNat*128 ^ 9≤1*128 ^ 9:=Nat.mul_le_mul_right _ (by omega);omega
     ·have h3:128 ^ i≤128 ^ 8:=Nat.pow_le_pow_right (by decide) (by omega)
      have h2:c.toNat*128 ^ i≤127*128 ^ 8:=Nat.mul_le_mul (by omega) h3;omega
theorem qws {l:List UInt8} {n k:Nat} (h:rd l=some (n,k)):0<k∧k≤l.length∧k≤10∧n<18446744073709551616:=by
 have:=qo6 l 0 0 n k (by omega) (by decide) h
 omega
theorem qaeb:∀(m:Nat) (r:List UInt8) (i acc:Nat),i≤9→m*128 ^ i<18446744073709551616→(0<i→0<m)→rdGo (sm m++r) i acc=some (acc+m*128 ^ i,i+(sm m).length):=by
 intro m
 induction m using Nat.strongRecOn with
 | ind m ih=>
  intro r i acc hi hm h0
  by_cases hlt:m<128
  ·have e:(UInt8.ofNat m).toNat=m:=by rw [UInt8.toNat_ofNat'];omega
   rw [qt8 hlt]
   simp only [List.cons_append,List.nil_append,List.length_cons,List.length_nil]
   rw [qhk (by
    rw [e];rintro ⟨rfl,h1⟩
    have:2*128 ^ 9≤m*128 ^ 9:=Nat.mul_le_mul_right _ (by omega)
    omega) (by omega) (by rw [e];intro h;have:=h0 h.2;omega),e]
  ·have e:(UInt8.ofNat (m % 128+128)).toNat=m % 128+128:=by rw [UInt8.toNat_ofNat'];omega
   have hi9:i≠9:=by
    rintro rfl
    have:128*128 ^ 9≤m*128 ^ 9:=Nat.mul_le_mul_right _ (by omega)
    omega
   have hp:m / 128*128 ^ (i+1)+m % 128*128 ^ i=m*128 ^ i:=by
    rw [Nat.pow_succ,Nat.mul_comm (128 ^ i) 128,←Nat.mul_assoc,←Nat.add_mul]
    congr 1;omega
   rw [qvy (by omega),List.cons_append,qoo hi9 (by omega),e,ih (m / 128) (by omega) r (i+1) _ (by omega) (by omega) (by omega)];rw [show (m % 128+128) % 128=m % 128 by omega]
   simp only [List.length_cons,Option.some.injEq,Prod.mk.injEq]
   omega
theorem rd_sm (n:Nat) (hn:n<18446744073709551616) (r:List UInt8):rd (sm n++r)=some (n,(sm n).length):=by
 unfold rd;rw [qaeb n r 0 0 (by omega) (by omega) (by omega)];simp
def ct (l:List UInt8):Option (List UInt8 × List UInt8):=
 match rd l with
 | none=>none
 | some (n,k)=>if n≤l.length - k then some ((l.drop k).take n,l.drop (k+n)) else none
theorem qwt {l:List UInt8} (h:rd l=none):ct l=none:=by simp [ct,h]
theorem qwu {l:List UInt8} {n k:Nat} (h:rd l=some (n,k)) (hn:¬n≤l.length - k):ct l=none:=by simp [ct,h,hn]
theorem qq8 {l:List UInt8} {n k:Nat} (h:rd l=some (n,k)) (hn:n≤l.length - k):ct l=some ((l.drop k).take n,l.drop (k+n)):=by simp [ct,h,hn]
def tx (s:List UInt8):List UInt8:=sm s.length++s
theorem ct_tx (s r:List UInt8) (hs:s.length<18446744073709551616):ct (tx s++r)=some (s,r):=by
 have h:=rd_sm s.length hs (s++r);unfold tx;rw [List.append_assoc];rw [qq8 h (by simp)]
 simp [List.drop_append]
end Go.Proofs.YtnmbbpdhjkaidaaGreat

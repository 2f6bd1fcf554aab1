/-
  Layer 5 in plain words: names, files, directories; lists of them.
-/
import Derived.Test.YtpkdiododlhipaaGreatRmFree
import Derived.Test.YtpkdiododlhipaaGreatKit
import Derived.Test.YtpkdiododlhipaaGreatMathRm
import Derived.Lib.Bytealg
set_option maxHeartbeats 1000000
namespace Go.Proofs.YtpkdiododlhipaaGreat
open Go.RowKit
set_option linter.all false
theorem qzi {l:List Ex} {k:Nat} (hk:k<l.length) (hm:∀x∈l,mayX x=true) (h:apX (l.take k)=true) (hn:∀n:Nat,inL (l.take k) n=true→inX l[k] n=false):apX (l.take (k+1))=true:=by
 rw [qb7 l k hk,qjj,h,Bool.true_and,List.all_eq_true];intro y hy;have hyl:y∈l:=List.mem_of_mem_take hy;have my:=(qbt y).1 (hm y hyl);have mk:=(qbt _).1 (hm _ (List.getElem_mem hk));rw [Bool.not_eq_true',←Bool.not_eq_true,qm1 mk.2.1 my.2.1];rintro ⟨n,h1,h2⟩
 have h0:0≤n:=by simp [inX] at h2;omega
 have:=hn n.toNat (by rw [Int.toNat_of_nonneg h0,qdz];exact ⟨y,hy,by simpa [inX] using h2⟩)
 rw [Int.toNat_of_nonneg h0,h1] at this;cases this
theorem qace {l:List Ex} {k:Nat} (hk:k<l.length) (hm:∀x∈l,mayX x=true) {n:Nat} (h1:inL (l.take k) n=true) (h2:inX l[k] n=true):apX (l.take (k+1))=false:=by
 rw [qb7 l k hk,qjj,Bool.and_eq_false_iff]
 right
 rw [List.all_eq_false];obtain ⟨y,hy,h3⟩:=(qdz _ _).1 h1;have my:=(qbt y).1 (hm y (List.mem_of_mem_take hy));have mk:=(qbt _).1 (hm _ (List.getElem_mem hk));refine ⟨y,hy, ?_⟩
 rw [(qm1 mk.2.1 my.2.1).2 ⟨n,h2,by simpa [inX] using h3⟩];simp
theorem qo2 (a:Option Addr) (n c:Nat) (l:List Ex) (w:World) (hrd:RdE w (.slice a n c) l) (hn:n=l.length) (hwf:∀x∈l,wfX x):
  Calls Tryz.prog 121 #[.slice a n c] w fun e w'=>e=.returned (.int .i64 (chkX l))∧Below w.heap.size w w':=by
 have HR:=hide hrd;have HN:=hide hn;have HA:=hide (qi2 a n c l w hrd hn hwf);clear hrd hn hwf
 go_enter Tryz.func121,Tryz.ntmps121
 go_wp2_with fail
 refine HA.out.mono ?_
 rintro e wa ⟨rfl,hba⟩
 by_cases hz:allX l=0
 ·have HZ:=hide hz
  rw [hz];have hzero:=Tryz.zeroMk;have hne:=qaa9 (fun _=>false)
  have hn4:n≤4096:=by have:=(qdy HZ.out).1;have:=HN.out;omega
  have HMay:=hide (fun x hx=>(qbt x).2 ((qdy HZ.out).2 x hx):∀x∈l,mayX x=true);have hws:=hba.size;clear hz;go_wp2
  go_loopw [14] (fun i wr=>∃k:Nat,k≤n∧i=.int .i64 k∧Hid (Mk wr wa.heap.size (fun j=>inL (l.take k) j))∧Hid (apX (l.take k)=true)∧Below w.heap.size w wr) (fun i _=>n - (intOf i).toNat)
  case atStart=>exact ⟨0,Nat.zero_le _,rfl,hide ((Mk.new wa _).same fun j=>by simp [inL]),hide (by simp [apX]),hba.alloc hws _⟩
  case round=>
   obtain ⟨k,hk,rfl,hmk,hap,hbel⟩:=hrel;have hml:=hmk.out.lt
   by_cases hlt:k<n
   ·have hlt':(k:Int)<n:=by omega
    have hkl:k<l.length:=by have:=HN.out;omega
    obtain ⟨b,off,rfl,q0,q1⟩:=(HR.out.carry hbel).at k hkl
    go_wp2_with fail
    refine (qqu wa.heap.size _ (l[k]) (HMay.out _ (List.getElem_mem hkl)) _ (hmk.out.carry ((Below.refl _ _).alloc (Nat.le_refl _) _))).mono ?_
    rintro e wc ⟨hg,⟨rfl,hm1,hno⟩ | ⟨rfl,j, -,hj1,hj2⟩⟩
    ·have HM1:=hide (hm1.same (g:=fun j=>inL (l.take (k+1)) j) fun j=>by rw [qb7 l k hkl,qf5])
     have HAP:=hide (qzi hkl HMay.out hap.out hno);have hbc:Below w.heap.size w wc:=(hbel.alloc hbel.size _).grown hg (Nat.le_trans hbel.size (by simp)) (fun j hj=>by cases hj;exact hws);clear hm1 hg hno;go_wp2;go_roundw
     case rel=>exact ⟨k+1,by omega,rfl,HM1,HAP,hbc⟩
     case measure=>simp only [intOf];omega
    ·have HC:=hide (qtt (k:=k+1) hkl HZ.out (qace hkl HMay.out hj1 hj2))
     have hbc:Below w.heap.size w wc:=(hbel.alloc hbel.size _).grown hg (Nat.le_trans hbel.size (by simp)) (fun j hj=>by cases hj;exact hws);clear hg hj1 hj2;go_wp2;go_ret;exact ⟨by rw [HC.out];rfl,hbc⟩
   ·have hd:decide ((k:Int)<n)=false:=by simpa using (by omega:¬(k:Int)<n)
    have HC:=hide (qj6 HZ.out (by have:=hap.out;rwa [List.take_of_length_le (by have:=HN.out;omega)] at this));go_wp2;go_ret;exact ⟨by rw [HC.out];rfl,hbel⟩
 ·have HC:=hide (qy8 hz)
  generalize hE:allX l=E at *
  have hz':(E==0)=false:=by simpa using hz
  go_wp2;go_ret;exact ⟨by rw [HC.out];rfl,hba⟩
def manyR (l:List Ex):Int:=if chkX l=0 then qa8 l else 0
def qbd (l:List Ex):List Int:=if chkX l=0 then qal l else []
theorem qzj {l:List Ex} {k:Nat} (ha:allX l=0):0≤qa8 (l.take k)∧qa8 (l.take k)≤16777216:=by
 have h0:=qdy ha
 have:=qqq (l:=l.take k) fun x hx=>h0.2 x (List.mem_of_mem_take hx)
 rw [List.length_take] at this;omega
theorem qt1 {l:List Ex} {k m:Nat} (ha:allX l=0) (hk:k<l.length) (hm:m≤(l[k]).2.toNat):(qal (l.take k)++blkX l[k] m).length≤16777216:=by
 have h0:=qdy ha
 have h1:=qqr (l:=l.take k) fun x hx=>(h0.2 x (List.mem_of_mem_take hx)).2.1
 have h2:=qzj (k:=k+1) ha;rw [qb7 l k hk,qic] at h2
 have:=h0.2 _ (List.getElem_mem hk)
 rw [List.length_append,qsb];omega
theorem qt2 (a:Option Addr) (n c:Nat) (l:List Ex) (w:World) (hrd:RdE w (.slice a n c) l) (hn:n=l.length) (hwf:∀x∈l,wfX x):
  Calls Tryz.prog 89 #[.slice a n c] w fun e w'=>∃v,e=.returned (.tuple #[v,.int .i64 (chkX l)])∧OwI w' w.heap.size v (qbd l)∧Below w.heap.size w w':=by
 have HR:=hide hrd;have HN:=hide hn;have HA:=hide (qo2 a n c l w hrd hn hwf);clear hrd hn hwf
 go_enter Tryz.func89,Tryz.ntmps89
 go_wp2_with fail
 refine HA.out.mono ?_
 rintro e wa ⟨rfl,hba⟩
 by_cases hz:chkX l=0
 ·have HZ:=hide (qm2 hz).1
  have HM:=hide (show qbd l=qal l by unfold qbd;rw [if_pos hz]);rw [hz];have HC:=hide hz
  have hn4:n≤4096:=by have:=(qdy HZ.out).1;have:=HN.out;omega
  clear hz;go_wp2
  go_loopw [5,16] (fun s i wr=>∃k:Nat,k≤n∧i=.int .i64 k∧Hid (OwI wr w.heap.size s (qal (l.take k)))∧Below w.heap.size w wr) (fun _ i _=>n - (intOf i).toNat)
  case atStart=>exact ⟨0,Nat.zero_le _,rfl,hide (OwI.nil _ _),hba⟩
  case round=>
   obtain ⟨k,hk,rfl,ho,hbel⟩:=hrel
   by_cases hlt:k<n
   ·have hlt':(k:Int)<n:=by omega
    have hkl:k<l.length:=by have:=HN.out;omega
    obtain ⟨b,off,rfl,q0,q1⟩:=(HR.out.carry hbel).at k hkl;have HE:=hide (show qal (l.take (k+1))=qal (l.take k)++blkX l[k] (l[k]).2.toNat by rw [qb7 l k hkl,qoz]);have hx:=(qdy HZ.out).2 _ (List.getElem_mem hkl);have hbb:=hbel.alloc hbel.size (.cells #[.int .i64 (l[k]).1,.int .i64 (l[k]).2] 93);have hoo:=hide (ho.out.carry ((Below.refl _ _).alloc (Nat.le_refl _) (.cells #[.int .i64 (l[k]).1,.int .i64 (l[k]).2] 93)));have HL:=hide (fun m hm=>qt1 (m:=m) HZ.out hkl hm)
    have c0:(wr.alloc (.cells #[.int .i64 (l[k]).1,.int .i64 (l[k]).2] 93)).heap[wr.heap.size]? =some (.cells #[.int .i64 (l[k]).1,.int .i64 (l[k]).2] 93 (0,0)):=heap_alloc_new _ _
    generalize hX:l[k]=X at *;obtain ⟨P,R⟩:=X
    simp only at hx hbb c0 HE q0 q1 hoo HL
    obtain ⟨r,rfl⟩:∃r:Nat,R=r:=⟨R.toNat,by omega⟩;clear hX;have C0:=hide c0;clear c0;go_wp2;generalize wr.heap.size=XB at *
    go_loopw [5,22] (fun s i wr=>∃j:Nat,j≤r∧i=.int .i64 j∧Hid (OwI wr w.heap.size s (qal (l.take k)++blkX (P,(r:Int)) j))∧Below w.heap.size w wr∧Hid (wr.heap[XB]? =some (.cells #[.int .i64 P,.int .i64 r] 93 (0,0)))) (fun _ i _=>r - (intOf i).toNat)
    case atStart=>exact ⟨0,Nat.zero_le _,rfl,hide (by simpa [blkX] using hoo.out),hbb,C0⟩
    case round=>
     obtain ⟨j,hj,rfl,ho2,hbel2,hxb⟩:=hrel
     by_cases hjt:j<r
     ·have hjt':(j:Int)<r:=by omega
      have hlen:=HL.out j (by omega);obtain ⟨g9,c9,w9,hrun,hown9,hbel9,hgr9⟩:=qaca ho2.out hbel2.size (by omega) (P+j);have HX:=hide ((hgr9.block _ (Array.getElem?_eq_some_iff.1 hxb.out).1 (ho2.out.apart hxb.out)).trans hxb.out)
      have hcell:wr.cell? ⟨XB,0,none⟩=some (.int .i64 P):=by rw [cell_of_row wr _ 0 _ _ (0,0) hxb.out];rfl
      have HO:=hide (show OwI w9 w.heap.size (.slice (some ⟨g9,0,none⟩) ((qal (l.take k)++blkX (P,(r:Int)) j).length+1) c9) (qal (l.take k)++blkX (P,(r:Int)) (j+1)) by
       rw [qvv,←List.append_assoc];exact hown9)
      have hb9:=hbel2.trans hbel9
      have hw1:wrap64 (P+(j:Int))=P+(j:Int):=by unfold wrap64;omega
      clear hown9 hbel9 hgr9
      go_wp2_with (at_builtin;refine qai rfl (.tmp 25) (.tmp 30) 95 rfl rfl rfl rfl hrun ?_)
      go_roundw
      case rel=>exact ⟨j+1,by omega,rfl,by rw [←List.length_append];exact HO,hb9,HX⟩
      case measure=>simp only [intOf];omega
     ·have hd:decide ((j:Int)<r)=false:=by simpa using (by omega:¬(j:Int)<r)
      have HO:=hide (show OwI wr w.heap.size _ (qal (l.take (k+1))) by
       rw [HE.out,Int.toNat_natCast]
       have e:j=r:=by omega
       rw [←e];rw [←e] at ho2;exact ho2.out)
      go_wp2;go_roundw
      case rel=>exact ⟨k+1,by omega,rfl,HO,hbel2⟩
      case measure=>simp only [intOf];omega
   ·have hd:decide ((k:Int)<n)=false:=by simpa using (by omega:¬(k:Int)<n)
    have HE:=hide (show qal (l.take k)=qbd l by rw [HM.out,List.take_of_length_le (by have:=HN.out;omega)]);go_wp2;go_ret2;exact ⟨_,by rw [HC.out];rfl,by rw [←HE.out];exact ho.out,hbel⟩
 ·have HM:=hide (show qbd l=[] by unfold qbd;rw [if_neg hz])
  generalize hE:chkX l=E at *
  have hz':(E==0)=false:=by simpa using hz
  go_wp2;go_ret2;exact ⟨_,by rw [hE];rfl,by rw [HM.out];exact OwI.nil _ _,hba⟩
end Go.Proofs.YtpkdiododlhipaaGreat
namespace Go.Proofs.YtpkdiododlhipaaGreat
def hv:List UInt8→Nat
 | []=>0
 | c::r=>c.toNat % 128+128*hv r
theorem qo3:∀(l:List UInt8) (i acc n k:Nat),i≤9→acc<128 ^ i→rdGo l i acc=some (n,k)→i<k∧k≤i+l.length∧k≤10∧n<18446744073709551616
 | [],i,acc,n,k,_,_,h=>by simp [rdGo] at h
 | c::r,i,acc,n,k,hi,ha,h=>by
  rw [rdGo] at h
  split at h
  ·simp at h
  ·rename_i h9
   split at h
   ·rename_i hge
    have hi9:i≠9:=by intro e;exact h9 ⟨e,by omega⟩
    have:=qo3 r (i+1) _ n k (by omega) (qr5 ha) h
    simp only [List.length_cons];omega
   ·rename_i hlt
    split at h
    ·simp at h
    ·simp only [Option.some.injEq,Prod.mk.injEq] at h
     obtain ⟨rfl,rfl⟩:=h;refine ⟨by omega,by simp only [List.length_cons];omega,by omega, ?_⟩
     by_cases e:i=9
     ·subst e
      have h2:c.toNat*128 ^ 9≤1*128 ^ 9:=Nat.mul_le_mul_right _ (by omega);omega
     ·have h3:128 ^ i≤128 ^ 8:=Nat.pow_le_pow_right (by decide) (by omega)
      have h2:c.toNat*128 ^ i≤127*128 ^ 8:=Nat.mul_le_mul (by omega) h3;omega
theorem qv3 {l:List UInt8} {n k:Nat} (h:rd l=some (n,k)):0<k∧k≤l.length∧k≤10∧n<18446744073709551616:=by
 have:=qo3 l 0 0 n k (by omega) (by decide) h
 omega
theorem qacf:∀(m:Nat) (r:List UInt8) (i acc:Nat),i≤9→m*128 ^ i<18446744073709551616→(0<i→0<m)→rdGo (sm m++r) i acc=some (acc+m*128 ^ i,i+(sm m).length):=by
 intro m
 induction m using Nat.strongRecOn with
 | ind m ih=>
  intro r i acc hi hm h0
  by_cases hlt:m<128
  ·have e:(UInt8.ofNat m).toNat=m:=by rw [UInt8.toNat_ofNat'];omega
   rw [qqk hlt]
   simp only [List.cons_append,List.nil_append,List.length_cons,List.length_nil]
   rw [qg6 (by
    rw [e];rintro ⟨rfl,h1⟩
    have:2*128 ^ 9≤m*128 ^ 9:=Nat.mul_le_mul_right _ (by omega)
    omega) (by omega) (by rw [e];intro h;have:=h0 h.2;omega),e]
  ·have e:(UInt8.ofNat (m % 128+128)).toNat=m % 128+128:=by rw [UInt8.toNat_ofNat'];omega
   have hi9:i≠9:=by
    rintro rfl
    have:128*128 ^ 9≤m*128 ^ 9:=Nat.mul_le_mul_right _ (by omega)
    omega
   have hp:m / 128*128 ^ (i+1)+m % 128*128 ^ i=m*128 ^ i:=by
    rw [Nat.pow_succ,Nat.mul_comm (128 ^ i) 128,←Nat.mul_assoc,←Nat.add_mul]
    congr 1;omega
   rw [qql (by omega),List.cons_append,qog hi9 (by omega),e,ih (m / 128) (by omega) r (i+1) _ (by omega) (by omega) (by omega)];rw [show (m % 128+128) % 128=m % 128 by omega]
   simp only [List.length_cons,Option.some.injEq,Prod.mk.injEq]
   omega
theorem rd_sm (n:Nat) (hn:n<18446744073709551616) (r:List UInt8):rd (sm n++r)=some (n,(sm n).length):=by
 unfold rd;rw [qacf n r 0 0 (by omega) (by omega) (by omega)];simp
def ct (l:List UInt8):Option (List UInt8 × List UInt8):=
 match rd l with
 | none=>none
 | some (n,k)=>if n≤l.length - k then some ((l.drop k).take n,l.drop (k+n)) else none
theorem qv4 {l:List UInt8} (h:rd l=none):ct l=none:=by simp [ct,h]
theorem qv5 {l:List UInt8} {n k:Nat} (h:rd l=some (n,k)) (hn:¬n≤l.length - k):ct l=none:=by simp [ct,h,hn]
theorem qqv {l:List UInt8} {n k:Nat} (h:rd l=some (n,k)) (hn:n≤l.length - k):ct l=some ((l.drop k).take n,l.drop (k+n)):=by simp [ct,h,hn]
def tx (s:List UInt8):List UInt8:=sm s.length++s
theorem ct_tx (s r:List UInt8) (hs:s.length<18446744073709551616):ct (tx s++r)=some (s,r):=by
 have h:=rd_sm s.length hs (s++r);unfold tx;rw [List.append_assoc];rw [qqv h (by simp)]
 simp [List.drop_append]
end Go.Proofs.YtpkdiododlhipaaGreat
namespace Go.Proofs.YtpkdiododlhipaaGreat
open Go.RowKit
set_option linter.all false
abbrev Fl:=List UInt8 × List Ex
/-! ### names -/
def ltN:List UInt8→List UInt8→Bool
 | [],[]=>false
 | [],_::_=>true
 | _::_,[]=>false
 | a::s,b::t=>decide (a<b) || ((a==b) && ltN s t)
theorem qaba:∀a b:List UInt8,Op.bytesLess a b=ltN a b
 | [],[]=>by simp [Op.bytesLess,ltN]
 | [],_::_=>by simp [Op.bytesLess,ltN]
 | _::_,[]=>by simp [Op.bytesLess,ltN]
 | a::s,b::t=>by simp [Op.bytesLess,ltN,qaba s t]
theorem qdq:∀a:List UInt8,ltN a a=false
 | []=>rfl
 | a::s=>by simp [ltN,qdq s,UInt8.lt_irrefl]
theorem qep:∀a b c:List UInt8,ltN a b=true→ltN b c=true→ltN a c=true
 | [],[],_,h,_=>by simp [ltN] at h
 | [],_::_,[],_,h=>by simp [ltN] at h
 | [],_::_,_::_,_,_=>rfl
 | _::_,[],_,h,_=>by simp [ltN] at h
 | _::_,_::_,[],_,h=>by simp [ltN] at h
 | a::s,b::t,c::u,h,k=>by
  simp only [ltN,Bool.or_eq_true,Bool.and_eq_true,decide_eq_true_eq,beq_iff_eq] at h k ⊢
  rcases h with h | ⟨rfl,h⟩
  ·rcases k with k | ⟨rfl,k⟩
   ·exact .inl (UInt8.lt_trans h k)
   ·exact .inl h
  ·rcases k with k | ⟨rfl,k⟩
   ·exact .inl k
   ·exact .inr ⟨rfl,qep s t u h k⟩
theorem qj9:∀a b:List UInt8,ltN a b=false→a≠b→ltN b a=true
 | [],[],_,h=>absurd rfl h
 | [],_::_,h,_=>by simp [ltN] at h
 | _::_,[],_,_=>rfl
 | a::s,b::t,h,hne=>by
  simp only [ltN,Bool.or_eq_false_iff,Bool.and_eq_false_iff,decide_eq_false_iff_not,Bool.or_eq_true,Bool.and_eq_true,decide_eq_true_eq,beq_iff_eq] at h ⊢
  obtain ⟨h1,h2⟩:=h
  by_cases e:a=b
  ·subst e
   refine .inr ⟨rfl,qj9 s t ?_ (fun e=>hne (by rw [e]))⟩
   rcases h2 with h2 | h2
   ·simp at h2
   ·exact h2
  ·left
   have h3:¬a.toNat<b.toNat:=fun h=>h1 (UInt8.lt_iff_toNat_lt.2 h)
   have h4:a.toNat≠b.toNat:=fun h=>e (UInt8.toNat_inj.1 h)
   exact UInt8.lt_iff_toNat_lt.2 (by omega)
theorem qv6 {a b:List UInt8} (h:ltN a b=true):ltN b a=false:=by
 cases k:ltN b a with
 | false=>rfl
 | true=>have:=qep a b a h k;rw [qdq] at this;cases this
theorem qv7 {a b:List UInt8} (h:ltN a b=true):a≠b:=by rintro rfl;rw [qdq] at h;cases h
theorem qqw:∀a b:List UInt8,(Lib.compareBytes a b<0↔ltN a b=true)∧(Lib.compareBytes a b=0↔a=b)
 | [],[]=>by simp [Lib.compareBytes,ltN]
 | [],_::_=>by simp [Lib.compareBytes,ltN]
 | _::_,[]=>by simp [Lib.compareBytes,ltN]
 | a::s,b::t=>by
  have ih:=qqw s t
  by_cases h1:a<b
  ·have hne:a≠b:=by rintro rfl;exact UInt8.lt_irrefl _ h1
   simp [Lib.compareBytes,ltN,h1,hne]
  ·by_cases h2:b<a
   ·have hne:a≠b:=by rintro rfl;exact UInt8.lt_irrefl _ h2
    simp [Lib.compareBytes,ltN,h1,h2,hne]
   ·have e:a=b:=by
     have h3:¬a.toNat<b.toNat:=fun h=>h1 (UInt8.lt_iff_toNat_lt.2 h)
     have h4:¬b.toNat<a.toNat:=fun h=>h2 (UInt8.lt_iff_toNat_lt.2 h)
     exact UInt8.toNat_inj.1 (by omega)
    subst e
    simp [Lib.compareBytes,ltN,UInt8.lt_irrefl,ih.1,ih.2]
def qbx (s:List UInt8):Bool:=decide (1≤s.length) && decide (s.length≤16)
/-! ### files -/
def qat (fs:List Fl):List Ex:=fs.flatMap (·.2)
def bytX (x:Ex):List UInt8:=sm x.1.toNat++sm x.2.toNat
def bytE (l:List Ex):List UInt8:=l.flatMap bytX
def qcx (f:Fl):List UInt8:=tx f.1++(sm f.2.length++bytE f.2)
def bytF (fs:List Fl):List UInt8:=sm fs.length++fs.flatMap qcx
def oneF (f:Fl):Bool:=qbx f.1 && decide (1≤f.2.length) && decide (f.2.length≤64)
def qcf (fs:List Fl):Prop:=fs.Pairwise fun f g=>ltN f.1 g.1=true
instance (fs:List Fl):Decidable (qcf fs):=inferInstanceAs (Decidable (fs.Pairwise _))
def qee (fs:List Fl):Prop:=(∀f∈fs,oneF f=true)∧qcf fs
instance (fs:List Fl):Decidable (qee fs):=inferInstanceAs (Decidable (_∧_))
def extP (l:List Ex) (b:Int):Prop:=chkX l=0∧∀x∈l,34≤x.1∧x.1+x.2≤b
instance (l:List Ex) (b:Int):Decidable (extP l b):=inferInstanceAs (Decidable (_∧_))
def mayF (fs:List Fl) (b:Int):Prop:=fs.length≤40∧qee fs∧extP (qat fs) b∧(bytF fs).length≤2048
instance (fs:List Fl) (b:Int):Decidable (mayF fs b):=inferInstanceAs (Decidable (_∧_))
def blkP (b:Int):Prop:=34<b∧b≤4096
instance (b:Int):Decidable (blkP b):=inferInstanceAs (Decidable (_∧_))
def chkF (fs:List Fl) (b:Int):Int:=if ¬blkP b then 2 else if mayF fs b then 0 else 8
def posF (fs:List Fl) (s:List UInt8):Nat:=fs.countP fun f=>ltN f.1 s
def isF (fs:List Fl) (s:List UInt8):Bool:=fs.any fun f=>f.1==s
def getF (fs:List Fl) (s:List UInt8):List Ex:=((fs.find? fun f=>f.1==s).map (·.2)).getD []
def insF (fs:List Fl) (f:Fl):List Fl:=fs.take (posF fs f.1)++f::fs.drop (posF fs f.1)
def delF (fs:List Fl) (s:List UInt8):List Fl:=fs.filter fun f=>!(f.1==s)
def qao (fs:List Fl) (s:List UInt8):Int:=if chkF fs 4096≠0 then chkF fs 4096 else if qbx s=false then 50 else if isF fs s then 0 else 6
def qfp (fs:List Fl) (s:List UInt8):Fl:=if qao fs s=0 then (s,getF fs s) else ([],[])
def fitE (fs:List Fl):Int:=if (bytF fs).length≤2048 then 0 else 40
def qay (fs:List Fl) (s:List UInt8) (l:List Ex) (b:Int):Int:=
 if chkF fs b≠0 then chkF fs b else if qbx s=false then 50 else if isF fs s then 51 else if l=[]∨¬extP (qat fs++l) b then 8
 else if fs.length=40∨64<l.length then 40 else fitE (insF fs (s,l))
def qcj (fs:List Fl) (s:List UInt8) (l:List Ex) (b:Int):List Fl:=if qay fs s l b=0 then insF fs (s,l) else []
def qbm (fs:List Fl) (s:List UInt8):List Fl:=if qao fs s=0 then delF fs s else []
def renF (fs:List Fl) (s t:List UInt8):List Fl:=insF (delF (delF fs s) t) (t,getF fs s)
def qa6 (fs:List Fl) (s t:List UInt8):Int:=
 if chkF fs 4096≠0 then chkF fs 4096 else if qbx s=false∨qbx t=false then 50 else if isF fs s then fitE (renF fs s t) else 6
def qbn (fs:List Fl) (s t:List UInt8):List Fl:=if qa6 fs s t=0 then renF fs s t else []
def qef (fs:List Fl):List Ex:=if chkF fs 4096=0 then qat fs else []
def qd1 (fs:List Fl) (b:Int):List UInt8:=if chkF fs b=0 then bytF fs else []
theorem qt3 (fs:List Fl) (k:Nat) (h:k<fs.length):qat (fs.take (k+1))=qat (fs.take k)++(fs[k]).2:=by
 unfold qat;rw [List.take_succ_eq_append_getElem h,List.flatMap_append]
 simp
theorem qv8 (fs:List Fl) (k:Nat) (h:k<fs.length):(fs.take (k+1)).flatMap qcx=(fs.take k).flatMap qcx++qcx fs[k]:=by
 rw [List.take_succ_eq_append_getElem h,List.flatMap_append]
 simp
theorem qv9 (l:List Ex) (k:Nat) (h:k<l.length):bytE (l.take (k+1))=bytE (l.take k)++bytX l[k]:=by
 unfold bytE;rw [List.take_succ_eq_append_getElem h,List.flatMap_append]
 simp
theorem qt4 {fs:List Fl} {f:Fl} (h:qcf (fs++[f])):qcf fs∧∀g∈fs,ltN g.1 f.1=true:=by
 unfold qcf at h;rw [List.pairwise_append] at h;exact ⟨h.1,fun g hg=>h.2.2 g hg f (by simp)⟩
theorem qwa {fs:List Fl} {f:Fl} (h:qcf fs) (hk:fs=[]∨∃p g,fs=p++[g]∧ltN g.1 f.1=true):qcf (fs++[f]):=by
 unfold qcf;rw [List.pairwise_append];refine ⟨h,by simp, ?_⟩;intro g hg x hx
 obtain rfl:x=f:=by simpa using hx
 rcases hk with rfl | ⟨p,y,rfl,hy⟩
 ·simp at hg
 ·rcases List.mem_append.1 hg with hg | hg
  ·exact qep _ _ _ ((qt4 h).2 g hg) hy
  ·obtain rfl:g=y:=by simpa using hg
   exact hy
theorem qwb:qee []:=⟨by simp,List.Pairwise.nil⟩
theorem qbo {α:Type} (l:List α) (k:Nat) (h:k<l.length):l.take (k+1)=l.take k++[l[k]]:=List.take_succ_eq_append_getElem h
theorem qif {fs:List Fl} {k:Nat} (h:k<fs.length) (hb:oneF fs[k]=false):¬qee fs:=fun e=>by
 have:=e.1 fs[k] (List.getElem_mem h);rw [hb] at this;cases this
theorem qt5 {fs:List Fl} {k:Nat} (h:k+1<fs.length) (hb:ltN (fs[k]).1 (fs[k+1]).1=false):¬qee fs:=fun e=>by
 have:=List.pairwise_iff_getElem.1 e.2 k (k+1) (by omega) h (by omega);rw [hb] at this;cases this
theorem ql2 {fs:List Fl} {k:Nat} (h:k<fs.length) (he:qee (fs.take k)) (ho:oneF fs[k]=true) (hl:∀j,(hj:j+1=k)→ltN (fs[j]).1 (fs[k]).1=true):qee (fs.take (k+1)):=by
 rw [qbo fs k h];refine ⟨?_,qwa he.2 ?_⟩
 ·intro f hf
  rcases List.mem_append.1 hf with hf | hf
  ·exact he.1 f hf
  ·obtain rfl:f=fs[k]:=by simpa using hf
   exact ho
 ·cases k with
  | zero=>left;simp
  | succ j=>
   right
   exact ⟨fs.take j,fs[j],qbo fs j (by omega),hl j rfl⟩
theorem qf7 {f:Fl} (h:oneF f=true):1≤f.1.length∧f.1.length≤16∧1≤f.2.length∧f.2.length≤64:=by
 simp only [oneF,qbx,Bool.and_eq_true,decide_eq_true_eq] at h
 omega
theorem qacg {fs:List Fl} {s:List UInt8} {i:Nat} (hi:i≤fs.length) (h1:∀t,(h:t<fs.length)→t<i→ltN (fs[t]).1 s=true) (h2:∀t,(h:t<fs.length)→i≤t→ltN (fs[t]).1 s=false):posF fs s=i:=by
 have e:fs=fs.take i++fs.drop i:=(List.take_append_drop i fs).symm;unfold posF;rw [e,List.countP_append]
 have a1:(fs.take i).countP (fun f=>ltN f.1 s)=i:=by
  have:(fs.take i).countP (fun f=>ltN f.1 s)=(fs.take i).length:=by
   rw [List.countP_eq_length];intro f hf;obtain ⟨t,ht,rfl⟩:=List.mem_iff_getElem.1 hf;rw [List.length_take] at ht;rw [List.getElem_take];exact h1 t (by omega) (by omega)
  rw [this,List.length_take];omega
 have a2:(fs.drop i).countP (fun f=>ltN f.1 s)=0:=by
  rw [List.countP_eq_zero];intro f hf;obtain ⟨t,ht,rfl⟩:=List.mem_iff_getElem.1 hf;rw [List.length_drop] at ht;rw [List.getElem_drop]
  simp [h2 (i+t) (by omega) (by omega)]
 omega
theorem qwc (fs:List Fl) (s:List UInt8):posF fs s≤fs.length:=List.countP_le_length
theorem qjk {fs:List Fl} (h:qcf fs) {i j:Nat} (hij:i<j) (hj:j<fs.length):ltN (fs[i]).1 (fs[j]).1=true:=List.pairwise_iff_getElem.1 h i j (by omega) hj hij
theorem qm5 {fs:List Fl} (hr:qcf fs) (s:List UInt8):∀t,(h:t<fs.length)→(t<posF fs s→ltN (fs[t]).1 s=true)∧(posF fs s≤t→ltN (fs[t]).1 s=false):=by
 induction fs with
 | nil=>intro t h;simp at h
 | cons f r ih=>
  have hr':qcf r:=(List.pairwise_cons.1 hr).2;have hf:=(List.pairwise_cons.1 hr).1;intro t h
  cases hl:ltN f.1 s with
  | true=>
   have e:posF (f::r) s=posF r s+1:=by unfold posF;rw [List.countP_cons];simp [hl]
   rw [e]
   cases t with
   | zero=>exact ⟨fun _=>hl,fun h=>by omega⟩
   | succ t=>
    have:=ih hr' t (by simpa using h)
    simp only [List.getElem_cons_succ]
    exact ⟨fun h=>this.1 (by omega),fun h=>this.2 (by omega)⟩
  | false=>
   have z:∀g∈f::r,ltN g.1 s=false:=by
    intro g hg
    rcases List.mem_cons.1 hg with rfl | hg
    ·exact hl
    ·cases k:ltN g.1 s with
     | false=>rfl
     | true=>have:=qep _ _ _ (hf g hg) k;rw [hl] at this;cases this
   have e:posF (f::r) s=0:=by
    unfold posF;rw [List.countP_eq_zero];intro g hg
    simp [z g hg]
   rw [e];exact ⟨fun h=>by omega,fun _=>z _ (List.getElem_mem h)⟩
theorem qabb {fs:List Fl} (hr:qcf fs) (s:List UInt8):isF fs s=(if h:posF fs s<fs.length then (fs[posF fs s]).1==s else false):=by
 by_cases h:posF fs s<fs.length
 ·rw [dif_pos h]
  cases hq:(fs[posF fs s]).1==s with
  | true=>unfold isF;rw [List.any_eq_true];exact ⟨_,List.getElem_mem h,hq⟩
  | false=>
   unfold isF;rw [List.any_eq_false];intro g hg;obtain ⟨t,ht,rfl⟩:=List.mem_iff_getElem.1 hg;intro e
   have e:(fs[t]).1=s:=by simpa using e
   have p:=qm5 hr s t ht
   have h1:ltN (fs[t]).1 s=false:=by rw [e];exact qdq s
   have h2:posF fs s≤t:=by
    rcases Nat.lt_or_ge t (posF fs s) with h | h
    ·rw [p.1 h] at h1;cases h1
    ·exact h
   rcases Nat.lt_or_eq_of_le h2 with h3 | h3
   ·have:=qjk hr h3 ht
    rw [e] at this
    have:=(qm5 hr s _ h).2 (Nat.le_refl _)
    simp_all
   ·subst h3;rw [e] at hq;simp at hq
 ·rw [dif_neg h]
  unfold isF;rw [List.any_eq_false];intro g hg;obtain ⟨t,ht,rfl⟩:=List.mem_iff_getElem.1 hg;intro e
  have e:(fs[t]).1=s:=by simpa using e
  have:=(qm5 hr s t ht).1 (by omega)
  rw [e,qdq] at this;cases this
theorem qwd {fs:List Fl} (hr:qcf fs) {s:List UInt8} {t:Nat} (ht:t<fs.length) (e:(fs[t]).1=s):getF fs s=(fs[t]).2:=by
 have:fs.find? (fun f=>f.1==s)=some fs[t]:=by
  rw [List.find?_eq_some_iff_getElem];refine ⟨by simp [e],t,ht,rfl, ?_⟩;intro j hj
  have:=qjk hr hj ht
  rw [e] at this
  have:=qv7 this
  simp [this]
 simp [getF,this]
theorem qsc {fs:List Fl} (hr:qcf fs) {s:List UInt8} (h:isF fs s=true):∃hp:posF fs s<fs.length,(fs[posF fs s]).1=s∧getF fs s=(fs[posF fs s]).2:=by
 rw [qabb hr] at h
 by_cases hp:posF fs s<fs.length
 ·rw [dif_pos hp] at h
  have e:(fs[posF fs s]).1=s:=by simpa using h
  exact ⟨hp,e,qwd hr hp e⟩
 ·rw [dif_neg hp] at h;cases h
theorem qhf {fs:List Fl} (h:qcf fs) (s:List UInt8):qcf (delF fs s):=List.Pairwise.sublist List.filter_sublist h
end Go.Proofs.YtpkdiododlhipaaGreat

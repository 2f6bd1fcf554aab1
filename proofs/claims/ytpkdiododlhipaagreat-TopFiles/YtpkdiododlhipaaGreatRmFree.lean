/-
  What room's grow, unmarked, cut, Free, Take do.
-/
import Derived.Test.YtpkdiododlhipaaGreatRmKit
import Derived.BigQuiet
set_option maxHeartbeats 1000000
namespace Go.Proofs.YtpkdiododlhipaaGreat
open Go.RowKit
set_option linter.all false
theorem may_t {x:Ex} (h1:0≤x.1) (h2:1≤x.2) (h3:x.1+x.2≤4096):mayX x=true:=(qbt x).2 ⟨h1,h2,h3⟩
theorem qacc {x:Ex} (h:¬(0≤x.1∧1≤x.2∧x.1+x.2≤4096)):mayX x=false:=by rw [←Bool.not_eq_true,qbt];exact h
theorem qt0 (x:Ex) (hx:wfX x) (w:World):Calls Tryz.prog 143 #[.agg #[.int .i64 x.1,.int .i64 x.2]] w fun e w'=>e=.returned (.bool (mayX x))∧Below w.heap.size w w':=by
 obtain ⟨p,q⟩:=x;obtain ⟨a1,a2,a3,a4⟩:=hx
 simp only at a1 a2 a3 a4 ⊢
 have hb:∀o,Below w.heap.size w (World.alloc w o):=fun o=>(Below.refl _ _).alloc (Nat.le_refl _) _
 by_cases h1:0≤p
 ·by_cases h2:1≤q
  ·have hw:wrap64 (4096 - p)=4096 - p:=by unfold wrap64;omega
   by_cases h3:q≤4096 - p
   ·have HM:=hide (may_t (x:=(p,q)) h1 h2 (by simp;omega))
    go_enter Tryz.func143,Tryz.ntmps143
    go_wp2;go_ret;exact ⟨by rw [HM.out];rfl,hb _⟩
   ·have HM:=hide (qacc (x:=(p,q)) (by simp;omega))
    have h3':decide (q≤4096 - p)=false:=by simpa using h3
    go_enter Tryz.func143,Tryz.ntmps143
    go_wp2;go_ret;exact ⟨by rw [HM.out];rfl,hb _⟩
  ·have HM:=hide (qacc (x:=(p,q)) (by simp;omega))
   have h2':decide (1≤q)=false:=by simpa using h2
   go_enter Tryz.func143,Tryz.ntmps143
   go_wp2;go_ret;exact ⟨by rw [HM.out];rfl,hb _⟩
 ·have HM:=hide (qacc (x:=(p,q)) (by simp;omega))
  have h1':decide (0≤p)=false:=by simpa using h1
  go_enter Tryz.func143,Tryz.ntmps143
  go_wp2;go_ret;exact ⟨by rw [HM.out];rfl,hb _⟩
theorem qi2 (a:Option Addr) (n c:Nat) (l:List Ex) (w:World) (hrd:RdE w (.slice a n c) l) (hn:n=l.length) (hwf:∀x∈l,wfX x):
  Calls Tryz.prog 130 #[.slice a n c] w fun e w'=>e=.returned (.int .i64 (allX l))∧Below w.heap.size w w':=by
 have hm:n≤maxLen:=hn ▸ hrd.len_le;unfold maxLen at hm;have HR:=hide hrd;have HN:=hide hn;have HW:=hide hwf;clear hrd hn hwf
 by_cases g1:n > 4096
 ·have HM:=hide (show allX l=4 by have:=HN.out;unfold allX;rw [if_pos (by omega)])
  have g1':(4096:Int)<n:=by omega
  go_enter Tryz.func130,Tryz.ntmps130
  go_wp2;go_ret;exact ⟨by rw [HM.out];rfl,Below.refl _ _⟩
 have g1':decide ((4096:Int)<n)=false:=by simpa using (by omega:¬(4096:Int)<n)
 go_enter Tryz.func130,Tryz.ntmps130
 go_wp2
 go_loopw [10] (fun i wr=>∃k:Nat,k≤n∧i=.int .i64 k∧Hid (∀x∈l.take k,mayX x=true)∧Below w.heap.size w wr) (fun i _=>n - (intOf i).toNat)
 case atStart=>exact ⟨0,Nat.zero_le _,rfl,hide (by simp),Below.refl _ _⟩
 case round=>
  obtain ⟨k,hk,rfl,hall,hbel⟩:=hrel
  by_cases hlt:k<n
  ·have hlt':(k:Int)<n:=by omega
   have hkl:k<l.length:=by have:=HN.out;omega
   obtain ⟨b,off,rfl,q0,q1⟩:=(HR.out.carry hbel).at k hkl
   go_wp2_with fail
   refine (qt0 (l[k]) (HW.out _ (List.getElem_mem hkl)) _).mono ?_
   rintro e wc ⟨rfl,hbc⟩;have hbc':Below w.heap.size w wc:=(hbel.alloc hbel.size _).trans (hbc.mono (Nat.le_trans hbel.size (by simp)));clear hbc
   cases hp:mayX l[k] with
   | true=>
    have HA:=hide (show ∀x∈l.take (k+1),mayX x=true by
     intro x hx;rw [qb7 l k hkl] at hx
     rcases List.mem_append.1 hx with hx | hx
     ·exact hall.out x hx
     ·rw [List.mem_singleton.1 hx];exact hp)
    clear hp;go_wp2;go_roundw
    case rel=>exact ⟨k+1,by omega,rfl,HA,hbc'⟩
    case measure=>simp only [intOf];omega
   | false=>
    have HM:=hide (show allX l=8 from qy7 hkl (by have:=HN.out;omega) hp);clear hp;go_wp2;go_ret;exact ⟨by rw [HM.out];rfl,hbc'⟩
  ·have hd:decide ((k:Int)<n)=false:=by simpa using (by omega:¬(k:Int)<n)
   have e:k=l.length:=by have:=HN.out;omega
   have HM:=hide (show allX l=0 from qvu (by have:=HN.out;omega) (by rw [←e];exact hall.out));clear e;go_wp2;go_ret;exact ⟨by rw [HM.out];rfl,hbel⟩
theorem qvz (f:Nat→Bool) (r k n:Nat):(if n=r+k then true else (f n || inX ((r:Int),(k:Int)) n))=(f n || inX ((r:Int),((k+1:Nat):Int)) n):=by
 rw [Bool.eq_iff_iff]
 by_cases e:n=r+k
 ·rw [if_pos e];simp only [Bool.or_eq_true,inX,Bool.and_eq_true,decide_eq_true_eq]
  exact ⟨fun _=>.inr (by omega),fun _=>trivial⟩
 ·rw [if_neg e];simp only [Bool.or_eq_true,inX,Bool.and_eq_true,decide_eq_true_eq]
  constructor
  ·rintro (h | h)
   ·exact .inl h
   ·right;omega
  ·rintro (h | h)
   ·exact .inl h
   ·right;omega
theorem qzb (b:Nat) (f:Nat→Bool) (x:Ex) (hx:mayX x=true) (w:World) (hm:Mk w b f):
  Calls Tryz.prog 131 #[.pointer (some ⟨b,0,none⟩),.agg #[.int .i64 x.1,.int .i64 x.2]] w fun e w'=>e=.returned (.tuple #[])∧Mk w' b (fun n=>f n || inX x n)∧w.grownBy w' (some b):=by
 rw [qbt] at hx;obtain ⟨p,q⟩:=x;obtain ⟨a1,a2,a3⟩:=hx
 simp only at a1 a2 a3 ⊢
 obtain ⟨m,rfl⟩:∃m:Nat,q=m:=⟨q.toNat,by omega⟩;obtain ⟨r,rfl⟩:∃r:Nat,p=r:=⟨p.toNat,by omega⟩;have hlt:=hm.lt;have HM:=hide (hm.carry ((Below.refl w.heap.size w).alloc (Nat.le_refl _) (.cells #[.int .i64 r,.int .i64 m] 93)));clear hm
 have hbw:(w.alloc (.cells #[.int .i64 r,.int .i64 m] 93)).cell? ⟨w.heap.size,0,none⟩=some (.int .i64 r):=by simp
 have hbw1:(w.alloc (.cells #[.int .i64 r,.int .i64 m] 93)).cell? ⟨w.heap.size,1,none⟩=some (.int .i64 m):=by simp
 have hg0:w.grownBy (w.alloc (.cells #[.int .i64 r,.int .i64 m] 93)) (some b):=World.grownBy_alloc _ _ _
 go_enter Tryz.func131,Tryz.ntmps131
 go_wp2
 go_loopw [7] (fun i wr=>∃k:Nat,k≤m∧i=.int .i64 k∧Hid (Mk wr b (fun n=>f n || inX ((r:Int),(k:Int)) n))∧w.grownBy wr (some b)∧wr.cell? ⟨w.heap.size,0,none⟩=some (.int .i64 r)) (fun i _=>m - (intOf i).toNat)
 case atStart=>exact ⟨0,Nat.zero_le _,rfl,hide (HM.out.same fun n=>by simp [inX];omega),hg0,hbw⟩
 case round=>
  obtain ⟨k,hk,rfl,hmk,hg,hc⟩:=hrel
  by_cases hlt2:k<m
  ·have hlt':(k:Int)<m:=by omega
   have hcell:=hmk.out.cell (r+k) (by omega);have hfr:=hmk.out.frozen (r+k)
   have hwr:wrap64 ((r:Int)+k)=((r+k:Nat):Int):=by unfold wrap64;omega
   have hin:((r+k:Nat):Int)<4096:=by omega
   have HS:=hide (hmk.out.set (r+k) true);go_wp2
   go_region
   go_wp2;go_roundw
   case rel=>
    refine ⟨k+1,by omega,rfl,hide (HS.out.same fun n=>?_),qez (qdg hg (qan _ _ _)), ?_⟩
    ·exact qvz f r k n
    ·exact (qan _ _ _).cell hc (by simp;omega)
   case measure=>simp only [intOf];omega
  ·have hd:decide ((k:Int)<m)=false:=by simpa using (by omega:¬(k:Int)<m)
   obtain rfl:k=m:=by omega
   go_wp2
   refine bodyPost_end (v:=.tuple #[]) ?_ rfl ⟨rfl,hmk.out,hg⟩
   simp [results,Tryz.results131,go_sem]
theorem qzc {f:Nat→Bool} {r k m:Nat} (h:∀n:Nat,f n=true→inX ((r:Int),(k:Int)) n=false) (h1:f (r+k)=false):∀n:Nat,f n=true→inX ((r:Int),((k+1:Nat):Int)) n=false:=by
 intro n hn;have h0:=h n hn
 have hne:n≠r+k:=by rintro rfl;rw [h1] at hn;cases hn
 simp only [inX,Bool.and_eq_false_iff,decide_eq_false_iff_not] at h0 ⊢
 omega
theorem qqu (b:Nat) (f:Nat→Bool) (x:Ex) (hx:mayX x=true) (w:World) (hm:Mk w b f):
  Calls Tryz.prog 138 #[.pointer (some ⟨b,0,none⟩),.agg #[.int .i64 x.1,.int .i64 x.2]] w fun e w'=>w.grownBy w' (some b)∧
   ((e=.returned (.bool true)∧Mk w' b (fun n=>f n || inX x n)∧∀n:Nat,f n=true→inX x n=false)∨(e=.returned (.bool false)∧∃n:Nat,n<4096∧f n=true∧inX x n=true)):=by
 rw [qbt] at hx;obtain ⟨p,q⟩:=x;obtain ⟨a1,a2,a3⟩:=hx
 simp only at a1 a2 a3 ⊢
 obtain ⟨m,rfl⟩:∃m:Nat,q=m:=⟨q.toNat,by omega⟩;obtain ⟨r,rfl⟩:∃r:Nat,p=r:=⟨p.toNat,by omega⟩;have hlt:=hm.lt;have HM:=hide (hm.carry ((Below.refl w.heap.size w).alloc (Nat.le_refl _) (.cells #[.int .i64 r,.int .i64 m] 93)));clear hm
 have hbw:(w.alloc (.cells #[.int .i64 r,.int .i64 m] 93)).cell? ⟨w.heap.size,0,none⟩=some (.int .i64 r):=by simp
 have hbw1:(w.alloc (.cells #[.int .i64 r,.int .i64 m] 93)).cell? ⟨w.heap.size,1,none⟩=some (.int .i64 m):=by simp
 have hg0:w.grownBy (w.alloc (.cells #[.int .i64 r,.int .i64 m] 93)) (some b):=World.grownBy_alloc _ _ _
 go_enter Tryz.func138,Tryz.ntmps138
 go_wp2
 go_loopw [8] (fun i wr=>∃k:Nat,k≤m∧i=.int .i64 k∧Hid (Mk wr b (fun n=>f n || inX ((r:Int),(k:Int)) n))∧Hid (∀n:Nat,f n=true→inX ((r:Int),(k:Int)) n=false)∧w.grownBy wr (some b)∧wr.cell? ⟨w.heap.size,0,none⟩=some (.int .i64 r)) (fun i _=>m - (intOf i).toNat)
 case atStart=>exact ⟨0,Nat.zero_le _,rfl,hide (HM.out.same fun n=>by simp [inX];omega),hide (fun n _=>by simp only [inX,Bool.and_eq_false_iff,decide_eq_false_iff_not];omega),hg0,hbw⟩
 case round=>
  obtain ⟨k,hk,rfl,hmk,hhit,hg,hc⟩:=hrel
  by_cases hlt2:k<m
  ·have hlt':(k:Int)<m:=by omega
   have hcell:=hmk.out.cell (r+k) (by omega);have hfr:=hmk.out.frozen (r+k)
   have hwr:wrap64 ((r:Int)+k)=((r+k:Nat):Int):=by unfold wrap64;omega
   have hin:((r+k:Nat):Int)<4096:=by omega
   have HS:=hide (hmk.out.set (r+k) true)
   have hnx:inX ((r:Int),(k:Int)) ((r+k:Nat):Int)=false:=by simp only [inX,Bool.and_eq_false_iff,decide_eq_false_iff_not];omega
   rw [hnx,Bool.or_false] at hcell;clear hnx
   cases hf:f (r+k) with
   | false=>
    rw [hf] at hcell;have HH:=hide (qzc (m:=m) hhit.out hf);clear hf;go_wp2
    go_region
    go_wp2
    go_region
    go_wp2;go_roundw
    case rel=>
     refine ⟨k+1,by omega,rfl,hide (HS.out.same fun n=>?_),HH,qez (qez (qdg hg (qan _ _ _))), ?_⟩
     ·exact qvz f r k n
     ·exact (qan _ _ _).cell hc (by simp;omega)
    case measure=>simp only [intOf];omega
   | true=>
    rw [hf] at hcell;have HF:=hide (show ∃n:Nat,n<4096∧f n=true∧inX ((r:Int),(m:Int)) n=true from ⟨r+k,by omega,hf,by simp [inX];omega⟩);clear hf;go_wp2
    go_region
    go_wp2;go_ret;exact ⟨qez hg,.inr ⟨rfl,HF.out⟩⟩
  ·have hd:decide ((k:Int)<m)=false:=by simpa using (by omega:¬(k:Int)<m)
   obtain rfl:k=m:=by omega
   go_wp2;go_ret;exact ⟨hg,.inl ⟨rfl,hmk.out,hhit.out⟩⟩
theorem qv0 {l:List Ex} {k:Nat} {N:Int} (hkl:k<l.length) (hk:k+1=l.length) (h:l[k].1+l[k].2=N):l.set k (l[k].1,l[k].2+1)=qj4 l N:=by
 rcases List.eq_nil_or_concat l with rfl | ⟨l',x,rfl⟩
 ·simp at hk
 ·have e:k=l'.length:=by simp at hk;omega
  subst e
  simp only [List.concat_eq_append,List.getElem_append_right (Nat.le_refl _),Nat.sub_self,List.getElem_cons_zero] at h ⊢
  rw [qem,if_pos h]
  simp
theorem qv1 {l:List Ex} {k:Nat} {N:Int} (hkl:k<l.length) (hk:k+1=l.length) (h:¬l[k].1+l[k].2=N):l++[(N,1)]=qj4 l N:=by
 rcases List.eq_nil_or_concat l with rfl | ⟨l',x,rfl⟩
 ·simp at hk
 ·have e:k=l'.length:=by simp at hk;omega
  subst e
  simp only [List.concat_eq_append,List.getElem_append_right (Nat.le_refl _),Nat.sub_self,List.getElem_cons_zero] at h ⊢
  rw [qem,if_neg h]
theorem qzd {w:World} {base:Nat} {v:Value} {l:List Ex} (h:OwE w base v l) (hb:base≤w.heap.size) (hl:l.length≤1000000) (x y:Int) (nq:Nat):
  ∃g c w',(Builtin.append_ #[89,89] 89 #[v,.slice (some ⟨w.heap.size,0,none⟩) 1 1]).run Tryz.prog ((w.drewN nq).alloc (.cells #[.int .i64 x,.int .i64 y] 93))=.ok (.slice (some ⟨g,0,none⟩) (l.length+1) c) w'∧
   OwE w' base (.slice (some ⟨g,0,none⟩) (l.length+1) c) (l++[(x,y)])∧Below base w w':=by
 obtain ⟨g,c,w',h1,h2,h3⟩:=qab9 (w:=w.drewN nq) h hb hl x y;exact ⟨g,c,w',h1,h2,⟨h3.os,h3.tape,h3.output,h3.size,h3.block⟩⟩
theorem qze (base:Nat) (a:Option Addr) (n c:Nat) (l:List Ex) (N:Int) (w:World) (h:OwE w base (.slice a n c) l) (hb:base≤w.heap.size) (hn:n=l.length) (hl:l.length≤4096) (hmay:∀x∈l,mayX x=true):
  Calls Tryz.prog 144 #[.slice a n c,.int .i64 N] w fun e w'=>∃v,e=.returned v∧OwE w' base v (qj4 l N)∧Below base w w':=by
 have HR:=hide (qzd h hb (by omega) N 1)
 cases hz:l.length with
 | zero=>
  obtain rfl:l=[]:=List.length_eq_zero_iff.1 hz
  have hn0:n=0:=by simpa using hn
  subst hn0;clear h hn hmay
  go_enter Tryz.func144,Tryz.ntmps144
  go_wp2
  go_quiet (fail)
  obtain ⟨g9,c9,w9,hrun,hown9,hbel9⟩:=HR.out nq;have HO:=hide hown9;clear hown9
  go_wp2_with (at_builtin;refine qai rfl (.tmp 35) (.tmp 38) 89 rfl rfl rfl rfl hrun ?_)
  go_ret;exact ⟨_,rfl,HO.out,hbel9⟩
 | succ k=>
  obtain ⟨g,rfl,hbg, -,hnc,hcm⟩:=h.lies (by intro e;rw [e] at hz;simp at hz)
  have hn1:n=k+1:=by omega
  subst hn1
  have hkl:k<l.length:=by omega
  have hx:=(qbt _).1 (hmay _ (List.getElem_mem hkl));obtain ⟨e1,e2⟩:=qf6 l k hkl
  have c1:w.cell? ⟨g,k*2,none⟩=some (.int .i64 (l[k]).1):=by have:=h.cells (g:=g) rfl _ _ e1;rw [Addr.add_lit] at this;simpa using this
  have c2:w.cell? ⟨g,k*2+1,none⟩=some (.int .i64 (l[k]).2):=by have:=h.cells (g:=g) rfl _ _ e2;rw [Addr.add_lit] at this;simpa [Nat.add_assoc] using this
  have fr:=fun j=>World.ownsRow.frozenAt (hn ▸ h:w.ownsRow base 93 2 (.slice (some ⟨g,0,none⟩) (k+1) c) (k+1) (cellsE l)) j
  obtain ⟨s1,g1⟩:=h.stored hn k hkl ((l[k]).2+1);have HW:=hide (fun hN=>qv0 (N:=N) hkl hz.symm hN);have HW2:=hide (fun hN=>qv1 (N:=N) hkl hz.symm hN);have HS:=hide s1;have HG:=hide g1;have HBG:=hide hbg
  have hw1:wrap64 ((k:Int)+1 - 1)=k:=by unfold wrap64;unfold maxLen at hcm;omega
  have hww:=hn;clear hww e1 e2 s1 g1 h hn hmay hz hbg;generalize hp:(l[k]).1=p at *;generalize hq:(l[k]).2=q at *
  have hw2:wrap64 (p+q)=p+q:=by unfold wrap64;omega
  have hw3:wrap64 (q+1)=q+1:=by unfold wrap64;omega
  have hkc:(k:Int)<((k+1:Nat):Int):=by omega
  clear hp hq
  by_cases hN:p+q=N
  ·have HE:=hide (HW.out hN)
   clear HW HW2
   go_enter Tryz.func144,Tryz.ntmps144
   go_wp2
   go_quiet (fail)
   go_wp2;go_ret;refine ⟨_,rfl, ?_, ?_⟩
   ·rw [←HE.out];exact HS.out
   ·exact Below.setCell (below_drewN (Below.refl base w) nq) HBG.out _
  ·have HE:=hide (HW2.out hN)
   have hN':(p+q==N)=false:=by simpa using hN
   clear HW HW2
   go_enter Tryz.func144,Tryz.ntmps144
   go_wp2
   go_quiet (fail)
   obtain ⟨g9,c9,w9,hrun,hown9,hbel9⟩:=HR.out nq;have HO:=hide hown9;clear hown9
   go_wp2_with (at_builtin;refine qai rfl (.tmp 35) (.tmp 38) 89 rfl rfl rfl rfl hrun ?_)
   go_ret;refine ⟨_,rfl, ?_, ?_⟩
   ·rw [←HE.out];exact HO.out
   ·exact hbel9
theorem qv2 {u:Int→Bool} {a:Int} {k:Nat} (ha:0≤a) (hk:a+k≤4096):∀x∈qc9 u a k,mayX x=true:=by
 intro x hx
 have:=(qie u a k).1.1 x hx
 rw [qbt];omega
theorem qo1 (b:Nat) (f:Nat→Bool) (p m:Nat) (T:Int) (w:World) (hm:Mk w b f) (hto:p+m≤4096) (hT:T=p+m):
  Calls Tryz.prog 132 #[.pointer (some ⟨b,0,none⟩),.int .i64 p,.int .i64 T] w fun e w'=>∃v,e=.returned v∧OwE w' w.heap.size v (qc9 (fun n=>f n.toNat) p m)∧Below w.heap.size w w':=by
 have hlt:=hm.lt;have HM:=hide hm;have HT:=hide hT;clear hm hT
 go_enter Tryz.func132,Tryz.ntmps132
 go_wp2
 go_loopw [7,8] (fun v i wr=>∃k:Nat,k≤m∧i=.int .i64 ((p:Int)+(k:Int))∧Hid (OwE wr w.heap.size v (qc9 (fun n=>f n.toNat) p k))∧Below w.heap.size w wr) (fun _ i _=>p+m - (intOf i).toNat)
 case atStart=>exact ⟨0,Nat.zero_le _,by simp,hide (OwE.nil _ _),Below.refl _ _⟩
 case round=>
  obtain ⟨k,hk,rfl,ho,hbel⟩:=hrel
  by_cases hlt2:k<m
  ·have hlt':(p:Int)+(k:Int)<T:=by have:=HT.out;omega
   have hmk:Mk wr b f:=(hbel.block b hlt).trans HM.out;have hcell:=hmk.cell (p+k) (by omega)
   have hin:(p:Int)+(k:Int)<4096:=by omega
   have hin0:0≤(p:Int)+(k:Int):=by omega
   have hin1:((p:Int)+(k:Int)).toNat=p+k:=by omega
   have hwr:wrap64 ((p:Int)+(k:Int)+1)=(p:Int)+(k:Int)+1:=by unfold wrap64;omega
   clear hmk
   cases hf:f (p+k) with
   | true=>
    rw [hf] at hcell
    have HE:=hide (show qc9 (fun n=>f n.toNat) p (k+1)=qc9 (fun n=>f n.toNat) p k by
     rw [qc9,if_pos]
     show f ((p:Int)+k).toNat=true
     rw [hin1];exact hf)
    clear hf;go_wp2;go_roundw
    case rel=>exact ⟨k+1,by omega,congrArg (Value.int .i64) (by omega),hide (by rw [HE.out];exact ho.out),hbel⟩
    case measure=>simp only [intOf];omega
   | false=>
    rw [hf] at hcell
    have HE:=hide (show qc9 (fun n=>f n.toNat) p (k+1)=qj4 (qc9 (fun n=>f n.toNat) p k) ((p:Int)+(k:Int)) by
     rw [qc9,if_neg]
     show ¬f ((p:Int)+k).toNat=true
     rw [hin1,hf];simp)
    clear hf;obtain ⟨a7,c7,rfl⟩:=ho.out.form;have hl:=qj7 (fun n=>f n.toNat) p k;have HMay:=hide (qv2 (u:=fun n=>f n.toNat) (a:=p) (k:=k) (by omega) (by omega))
    go_wp2_with fail
    refine (qze w.heap.size a7 _ c7 _ ((p:Int)+(k:Int)) wr ho.out hbel.size rfl (by omega) HMay.out).mono ?_
    rintro e wc ⟨v,rfl,hown,hbc⟩;have HO:=hide (show OwE wc w.heap.size v (qc9 (fun n=>f n.toNat) p (k+1)) by rw [HE.out];exact hown);have hbc':=hbel.trans hbc;clear hbc hown HMay hl;go_wp2;go_roundw
    case rel=>exact ⟨k+1,by omega,congrArg (Value.int .i64) (by omega),HO,hbc'⟩
    case measure=>simp only [intOf];omega
  ·have hd:decide ((p:Int)+(k:Int)<T)=false:=by simpa using (by have:=HT.out;omega:¬(p:Int)+(k:Int)<T)
   obtain rfl:k=m:=by omega
   go_wp2;go_ret;exact ⟨_,rfl,ho.out,hbel⟩
theorem qzf {l:List Ex} {k:Nat} (h:k<l.length) (y:Ex):(l.set k y).take (k+1)=l.take k++[y]:=by
 rw [qb7 _ _ (by simpa using h)]
 simp [List.take_set_of_le]
theorem qzg {l:List Ex} {k:Nat} {Z W:Int} (hkl:k<l.length) (hz:Z=W - qa8 (l.take k)) (hz1:1≤Z) (h1:∀x∈l,1≤x.2) (hle:Z≤(l[k]).2):cutX l W=some ((l.set k ((l[k]).1,Z)).take (k+1)):=by
 rw [qvy (w:=W) hkl (by omega) h1 (by omega),qzf hkl,hz]
theorem qzh {l:List Ex} {k:Nat} {Z W:Int} (hkl:k<l.length) (hz:Z=W - qa8 (l.take k)):Z - (l[k]).2=W - qa8 (l.take (k+1)):=by
 rw [qb7 l k hkl,qic];omega
theorem qacd (base:Nat) (a:Option Addr) (n c:Nat) (l:List Ex) (W:Int) (w:World) (h:OwE w base (.slice a n c) l) (hb:base≤w.heap.size) (hn:n=l.length) (hl:l.length≤4096) (hmay:∀x∈l,0≤x.1∧1≤x.2∧x.1+x.2≤4096) (hW:1≤W) (hW':W≤4096):
  Calls Tryz.prog 108 #[.slice a n c,.int .i64 W] w fun e w'=>∃v,e=.returned (.tuple #[v,.int .i64 (cutE l W)])∧OwE w' base v ((cutX l W).getD [])∧Below base w w':=by
 have HM:=hide hmay;have H1:=hide (fun x hx=>(hmay x hx).2.1:∀x∈l,1≤x.2);have HO:=hide h;have HN:=hide hn
 have hn4:n≤4096:=by omega
 clear h hmay hn hl
 go_enter Tryz.func108,Tryz.ntmps108
 go_wp2
 go_loopw [1,10] (fun z i wr=>∃(k:Nat) (Z:Int),k≤n∧z=.int .i64 Z∧i=.int .i64 k∧Hid (Z=W - qa8 (l.take k))∧1≤Z∧Z≤4096∧Below w.heap.size w wr) (fun _ i _=>n - (intOf i).toNat)
 case atStart=>exact ⟨0,W,Nat.zero_le _,rfl,rfl,hide (by simp [qa8]),hW,hW',Below.refl _ _⟩
 case round=>
  obtain ⟨k,Z,hk,rfl,rfl,hz,hz1,hz2,hbel⟩:=hrel
  by_cases hlt:k<n
  ·have hlt':(k:Int)<n:=by omega
   have hkl:k<l.length:=by have:=HN.out;omega
   obtain ⟨g,rfl,hbg, -,hnc, -⟩:=HO.out.lies (by intro e;rw [e] at hkl;simp at hkl);have hor:=HO.out.carry hbel;obtain ⟨b,off,e,q0,q1⟩:=hor.rd.at k hkl;cases e;rw [Nat.zero_add] at q0 q1
   by_cases hle:Z≤(l[k]).2
   ·have HC:=hide (qzg hkl hz.out hz1 H1.out hle)
    have hor2:=hor.carry ((Below.refl _ _).alloc (Nat.le_refl _) (.cells #[.int .i64 (l[k]).1,.int .i64 (l[k]).2] 93));obtain ⟨s1,g1⟩:=hor2.stored HN.out k hkl Z;have HS:=hide (s1.take (by simpa using HN.out) (k+1) (by simp;omega));have hfr:=hor2.frozen HN.out (k*2+1);have hbb:Below base w (wr.alloc (.cells #[.int .i64 (l[k]).1,.int .i64 (l[k]).2] 93)):=(hbel.mono hb).alloc (Nat.le_trans hb hbel.size) _;obtain ⟨b',off',e',q0',q1'⟩:=hor2.rd.at k hkl;cases e';rw [Nat.zero_add] at q1';clear q0';have HBB:=hide hbb;have HBG:=hide hbg;have hw1:wrap64 ((k:Int)+1)=(k:Int)+1:=wrapS (by omega)
    have hkc:(k:Int)+1≤c:=by have h1:k+1≤c:=Nat.le_trans hlt hnc;exact Int.ofNat_le.2 h1
    clear s1 g1 hor hor2 hbb HM H1 HO HN hz hbel hb hbg;generalize (l[k]).1=P at *;generalize (l[k]).2=R at *;go_wp2;go_ret2;exact ⟨_,by unfold cutE;rw [HC.out];rfl,by rw [HC.out];exact HS.out,HBB.out.setCell HBG.out _⟩
   ·have hle':decide (Z≤(l[k]).2)=false:=by simpa using hle
    have hx:=HM.out _ (List.getElem_mem hkl);have HZ:=hide (qzh hkl hz.out)
    have hw1:wrap64 (Z - (l[k]).2)=Z - (l[k]).2:=by unfold wrap64;omega
    have hbb:=hbel.alloc hbel.size (.cells #[.int .i64 (l[k]).1,.int .i64 (l[k]).2] 93);clear hor;go_wp2;go_roundw
    case rel=>exact ⟨k+1,_,by omega,rfl,rfl,HZ,by omega,by omega,hbb⟩
    case measure=>simp only [intOf];omega
  ·have hd:decide ((k:Int)<n)=false:=by simpa using (by omega:¬(k:Int)<n)
   have HC:=hide (show cutX l W=none from qza (by have h1:=hz.out;have:=HN.out;rw [List.take_of_length_le (by omega)] at h1;omega) H1.out);go_wp2;go_ret2;exact ⟨_,by unfold cutE;rw [HC.out];rfl,by rw [HC.out];exact OwE.nil _ _,hbel.mono hb⟩
end Go.Proofs.YtpkdiododlhipaaGreat

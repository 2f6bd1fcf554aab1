/-
  Plain mathematics: where a superblock of the next gen is written, the latest one is that; where it is not, that of before.
-/
import Derived.Test.YtmeaiocohalphaaGreatDoorDAll3
import Derived.Test.YtmeaiocohalphaaGreatDoorDMay
set_option maxHeartbeats 1000000
set_option maxRecDepth 100000
namespace Go.Proofs.YtmeaiocohalphaaGreatDoor
open Go.RowKit
set_option linter.unusedVariables false
set_option linter.unusedSimpArgs false
theorem qabl (m:Nat):∃u:Nat,u≤100000∧(if (100000:Int)<(m:Int) then (100000:Int) else (m:Int))=(u:Int):=by
 by_cases h:(100000:Int)<m
 ·exact ⟨100000,by omega,by rw [if_pos h];rfl⟩
 ·exact ⟨m,by omega,by rw [if_neg h]⟩
theorem qyx (l:List Ac) (a:Option Addr) (n c:Nat) (w:World) (h:RdA w (.slice a n c) l) (hn:n=l.length):
  Calls Tryz.prog 111 #[.slice a n c] w fun e w'=>(∃r,e=.returned (.bool r)∧(r=false→l.length≤2000))∧w'=w:=by
 have H:=hide h;have HN:=hide hn;have hnm:n≤maxLen:=hn ▸ h.len_le;unfold maxLen at hnm;clear h hn
 go_enter Tryz.func111,Tryz.ntmps111
 go_wp2
 go_loopw [3,4] (fun s i wr=>∃k t:Nat,k≤n∧k≤3000∧t≤k*100000∧s=.int .i64 t∧i=.int .i64 k∧wr=w) (fun _ i _=>3000 - (intOf i).toNat)
 case atStart=>exact ⟨0,0,by omega,by omega,by omega,rfl,rfl,rfl⟩
 case round=>
  obtain ⟨k,t,hk,hk3,ht,rfl,rfl,rfl⟩:=hrel
  by_cases hlt:k<n
  ·have hlt':(k:Int)<n:=by omega
   by_cases h3:k<3000
   ·have h3':(k:Int)<3000:=by omega
    obtain ⟨b,off,rfl,q0,q0',x,m,d,q1,q2,q3⟩:=H.out.at k (by have:=HN.out;omega);clear q2 q3;obtain ⟨u,hu,hu'⟩:=qabl m;go_wp2;refine ⟨⟨k+1,t+u,by omega,by omega,by omega,by go_num,by go_num,trivial⟩,by simp [intOf]<;>omega⟩
   ·have h3':decide ((k:Int)<3000)=false:=by simpa using (by omega:¬(k:Int)<3000)
    have hn':(2000:Int)<n:=by omega
    go_wp2;go_ret;exact ⟨⟨_,rfl,by intro h;cases h⟩,rfl⟩
  ·have hlt':decide ((k:Int)<n)=false:=by simpa using (by omega:¬(k:Int)<n)
   by_cases h2:2000<n
   ·have hn':(2000:Int)<n:=by omega
    go_wp2;go_ret;exact ⟨⟨_,rfl,by intro h;cases h⟩,rfl⟩
   ·have hn':decide ((2000:Int)<n)=false:=by simpa using (by omega:¬(2000:Int)<n)
    go_wp2;go_ret;exact ⟨⟨_,rfl,fun _=>by have:=HN.out;omega⟩,rfl⟩
theorem qabm {d:Dk} {v:Value} (w:World) (hD:RdD w v d):
  Calls Tryz.prog 50 #[v] w fun e w'=>(∃r,e=.returned (.bool r)∧(r=false→d.1.length≤100000∧d.2.1.length≤2000∧d.2.2.length≤2000))∧Below w.heap.size w w':=by
 obtain ⟨a1,c1,a2,c2,a3,c3,rfl,h1,h2,h3⟩:=hD.form;have hn1:d.1.length≤maxLen:=h1.len_le;have hn2:d.2.1.length≤maxLen:=h2.len_le;have hn3:d.2.2.length≤maxLen:=h3.len_le;have H2:=hide h2;have H3:=hide h3;clear hD h1 h2 h3;unfold maxLen at hn1 hn2 hn3;generalize e1:d.1.length=n1 at *;generalize e2:d.2.1.length=n2 at *;generalize e3:d.2.2.length=n3 at *;have E1:=hide e1;have E2:=hide e2;have E3:=hide e3;clear e1 e2 e3;obtain ⟨w1,ew⟩:∃w1,w.alloc (.cells #[.slice a1 n1 c1,.slice a2 n2 c2,.slice a3 n3 c3] 27)=w1:=⟨_,rfl⟩
 have hb1:Below w.heap.size w w1:=by rw [←ew];exact (Below.refl _ _).alloc (Nat.le_refl _) _
 have k0:w1.cell? ⟨w.heap.size,0,none⟩=some (.slice a1 n1 c1):=by rw [←ew];simp
 have k1:w1.cell? ⟨w.heap.size,1,none⟩=some (.slice a2 n2 c2):=by rw [←ew];simp
 have k2:w1.cell? ⟨w.heap.size,2,none⟩=some (.slice a3 n3 c3):=by rw [←ew];simp
 have HH:=hide (qyx d.2.2 a3 n3 c3 w1 (H3.out.carry hb1) E3.out.symm);have H2':=hide (H2.out.carry hb1)
 go_enter Tryz.func50,Tryz.ntmps50
 go_wp2;clear ew
 go_loopw [3,4] (fun s i wr=>∃k t:Nat,k≤n2∧k≤3000∧t≤k*100000∧s=.int .i64 t∧i=.int .i64 k∧wr=w1) (fun _ i _=>3000 - (intOf i).toNat)
 case atStart=>exact ⟨0,0,by omega,by omega,by omega,rfl,rfl,rfl⟩
 case round=>
  obtain ⟨k,t,hk,hk3,ht,rfl,rfl,rfl⟩:=hrel
  by_cases hlt:k<n2∧k<3000
  ·obtain ⟨hlt,h3⟩:=hlt
   have hlt':(k:Int)<n2:=by omega
   have h3':(k:Int)<3000:=by omega
   obtain ⟨b,off,rfl,q0,x,m,dd,q1,q2,q3⟩:=H2'.out.at k (by have:=E2.out;omega);obtain ⟨u,hu,hu'⟩:=qabl m;clear q2 q3;go_wp2;refine ⟨⟨k+1,t+u,by omega,by omega,by omega,by go_num,by go_num,trivial⟩,by simp [intOf]<;>omega⟩
  ·by_cases g1:100000<n1
   ·have g1':(100000:Int)<n1:=by omega
    by_cases hl2:k<n2
    ·have hl2':(k:Int)<n2:=by omega
     have h3':decide ((k:Int)<3000)=false:=by simpa using (by omega:¬(k:Int)<3000)
     go_wp2;go_ret;exact ⟨⟨_,rfl,by intro h;cases h⟩,hb1⟩
    ·have hl2':decide ((k:Int)<n2)=false:=by simpa using (by omega:¬(k:Int)<n2)
     go_wp2;go_ret;exact ⟨⟨_,rfl,by intro h;cases h⟩,hb1⟩
   ·have g1':decide ((100000:Int)<n1)=false:=by simpa using (by omega:¬(100000:Int)<n1)
    by_cases hl2:k<n2
    ·have hl2':(k:Int)<n2:=by omega
     have h3':decide ((k:Int)<3000)=false:=by simpa using (by omega:¬(k:Int)<3000)
     have g2':(2000:Int)<n2:=by omega
     go_wp2;go_ret;exact ⟨⟨_,rfl,by intro h;cases h⟩,hb1⟩
    ·have hl2':decide ((k:Int)<n2)=false:=by simpa using (by omega:¬(k:Int)<n2)
     by_cases g2:2000<n2
     ·have g2':(2000:Int)<n2:=by omega
      go_wp2;go_ret;exact ⟨⟨_,rfl,by intro h;cases h⟩,hb1⟩
     ·have g2':decide ((2000:Int)<n2)=false:=by simpa using (by omega:¬(2000:Int)<n2)
      by_cases g3:400000<t
      ·have g3':(400000:Int)<t:=by omega
       go_wp2;go_ret;exact ⟨⟨_,rfl,by intro h;cases h⟩,hb1⟩
      ·have g3':decide ((400000:Int)<t)=false:=by simpa using (by omega:¬(400000:Int)<t)
       go_wp2_with fail
       refine HH.out.mono ?_
       rintro e w3 ⟨⟨r,rfl,hr⟩,rfl⟩;have HR:=hide hr;clear hr;cases r
       ·go_wp2
        go_ret;exact ⟨⟨_,rfl,fun _=>⟨by have:=E1.out;omega,by have:=E2.out;omega,by have:=HR.out (by first | rfl | trivial);have:=E3.out;omega⟩⟩,hb1⟩
       ·go_wp2
        go_ret;exact ⟨⟨_,rfl,by intro h;cases h⟩,hb1⟩
def qfa (d:Dk) (n:Int):List UInt8:=(qfe d n).1
def ones:List UInt8:=List.replicate 128 1
theorem qn7 {d:Dk} (h:okD d=true):chk d=0:=by unfold chk;rw [h];rfl
theorem qrp {d:Dk} (h:chk d=0):okD d=true:=by
 rcases qep d with ⟨h1,_⟩ | ⟨_,h2⟩
 ·exact h1
 ·rw [h2] at h;cases h
theorem qdc {d d':Dk} {a:Ac} (h:okD d=true) (ha:actE (mny d) a=0) (he:oneD d a=some d'):okD d'=true∧mny d'=mny d∧d'.2.2=d.2.2++[a]:=by
 obtain ⟨hf,h1,h2⟩:=Fine.of_ok h;obtain ⟨hf',hd⟩:=hf.one ha he
 have hm:mny d'=mny d:=by have:=hf'.1;unfold mny at *;omega
 refine ⟨?_,hm,hd⟩;obtain ⟨g1,_,_,_,_,_,g7⟩:=(qb3 d).1 h;rw [qb3,hm];refine ⟨by have:=hf'.1;omega,h1,h2,hf'.2.1,hf'.2.2.1,hf'.2.2.2,fun b hb=>?_⟩;rw [hd] at hb
 rcases List.mem_append.1 hb with h | h
 ·exact g7 b h
 ·rw [List.mem_singleton.1 h];exact ha
theorem qw1:∀(l:List Ac) (d d':Dk),okD d=true→(∀a∈l,actE (mny d) a=0)→qa8 d l=some d'→okD d'=true∧mny d'=mny d∧d'.2.2=d.2.2++l
 | [],d,d',h,_,he=>by cases he;exact ⟨h,rfl,by simp⟩
 | a::l,d,d',h,ha,he=>by
  have e:qa8 d (a::l)=(match oneD d a with | none=>none | some x=>qa8 x l):=rfl;rw [e] at he
  cases e1:oneD d a with
  | none=>rw [e1] at he;cases he
  | some x=>
   rw [e1] at he;obtain ⟨h1,h2,h3⟩:=qdc h (ha a (List.mem_cons_self ..)) e1;obtain ⟨k1,k2,k3⟩:=qw1 l x d' h1 (fun b hb=>by rw [h2];exact ha b (List.mem_cons_of_mem _ hb)) he;exact ⟨k1,k2.trans h2,by rw [k3,h3];simp⟩
theorem doD_ok {d:Dk} {l:List Ac} {m:Int} (h:(doD d l m).2=0):okD d=true∧(∀a∈l,actE (mny d) a=0)∧0≤m∧m≤l.length∧∃x,qa8 d (l.take m.toNat)=some x∧doD d l m=(x,0):=by
 unfold doD at *
 split at h
 ·rename_i h1;exact absurd h h1
 ·rename_i h1
  split at h
  ·rename_i h2;exact absurd h h2
  ·rename_i h2
   split at h
   ·cases h
   ·rename_i h3
    have hz:qd8 (mny d) l=0:=Classical.byContradiction fun e=>h2 e
    refine ⟨qrp (Classical.byContradiction fun e=>h1 e),qg7 _ _ hz,by omega,by omega, ?_⟩;rw [if_neg h1,if_neg h2,if_neg h3]
    cases hx:qa8 d (l.take m.toNat) with
    | none=>rw [hx] at h;cases h
    | some x=>exact ⟨x,rfl,by simp only⟩
theorem qd4 {d:Dk} {n:Nat} (h:okD d=true) (hn:n<mny d):qfa d n=(qcn n d.2.1).getD (blk d.1 n):=by
 unfold qfa qfe;rw [if_neg (by rw [qn7 h];simp),if_neg (by omega)];rfl
theorem qgh {d d':Dk} {a:Ac} {n:Nat} (h:okD d=true) (ha:actE (mny d) a=0) (hs:a.1=true) (he:oneD d a=some d') (hn:n<mny d):qfa d' n=qfa d n∧d'.2.1=[]:=by
 obtain ⟨h1,h2,_⟩:=qdc h ha he;obtain ⟨hf,_,_⟩:=Fine.of_ok h;unfold oneD at he
 split at he
 ·cases he
 ·try rw [if_pos hs] at he
  cases he;refine ⟨?_,rfl⟩;rw [qd4 h1 (by rw [h2];exact hn),qd4 h hn]
  show blk (qjv d.1 d.2.1) n=_
  rw [qla d.1 n d.2.1 d.1 rfl (fun p hp=>by
   have:=qd3 (hf.2.2.2 p hp)
   have:=hf.1
   omega)]
theorem qe1 {d d':Dk} {N:Int} {b:List UInt8} {n:Nat} (h:okD d=true) (ha:actE (mny d) (false,N,b)=0) (he:oneD d (false,N,b)=some d') (hn:n<mny d):qfa d' n=if (n:Int)=N then b else qfa d n:=by
 obtain ⟨h1,h2,_⟩:=qdc h ha he;unfold oneD at he
 split at he
 ·cases he
 ·try rw [if_neg (by simp)] at he
  cases he;rw [qd4 h1 (by rw [h2];exact hn),qd4 h hn]
  show (qcn n (d.2.1++[(N,b)])).getD (blk d.1 n)=_
  rw [qn3]
  split<;>rfl
def le4 (n:Nat):List UInt8:=[UInt8.ofNat (n % 256),UInt8.ofNat (n / 256 % 256),UInt8.ofNat (n / 65536 % 256),UInt8.ofNat (n / 16777216 % 256)]
def un4:List UInt8→Nat
 | []=>0
 | b::l=>b.toNat+256*un4 l
theorem qb4 (n:Nat):(le4 n).length=4:=rfl
theorem qrq:∀l:List UInt8,un4 l<256 ^ l.length
 | []=>by simp [un4]
 | b::l=>by
  have:=qrq l
  have hb:=b.toNat_lt;rw [un4,List.length_cons,Nat.pow_succ];omega
theorem qw2 (b:UInt8):∀l:List UInt8,un4 (l++[b])=un4 l+b.toNat*256 ^ l.length
 | []=>by simp [un4]
 | c::l=>by
  have e:un4 (c::l++[b])=c.toNat+256*un4 (l++[b]):=rfl;rw [e,qw2 b l,un4,List.length_cons,Nat.pow_succ,Nat.mul_add,Nat.add_assoc]
  congr 2
  rw [Nat.mul_comm (256 ^ l.length) 256,←Nat.mul_assoc,←Nat.mul_assoc,Nat.mul_comm 256 b.toNat]
theorem qabn (n:Nat) (h:n<4294967296):un4 (le4 n)=n:=by
 simp only [un4,le4,UInt8.toNat_ofNat']
 omega
theorem qea (m:Nat):UInt8.ofNat (m % 256)=UInt8.ofNat m:=UInt8.toNat_inj.1 (by simp [UInt8.toNat_ofNat'])
theorem qaju (n k:Nat) (hk:k<4):(le4 n)[k]'(by rw [qb4];exact hk)=UInt8.ofNat (n / 2 ^ (8*k)):=by
 match k,hk with
 | 0,_=>simp [le4,qea]
 | 1,_=>simp [le4,qea]
 | 2,_=>simp [le4,qea]
 | 3,_=>simp [le4,qea]
theorem qafr (l:List UInt8) (k:Nat) (hk:k<l.length):un4 (l.take (k+1))=un4 (l.take k)+(l[k]).toNat*256 ^ k:=by
 rw [List.take_succ_eq_append_getElem hk,qw2]
 congr 2
 rw [List.length_take,Nat.min_eq_left (by omega)]
def qam (gen:Nat) (size:Int):List UInt8 × Int:=if gen=0∨size<0∨2048<size then ([],2) else (le4 gen++(le4 size.toNat++List.replicate 120 0),0)
def ofS (b:List UInt8):Nat × Nat × Int:=
 if b.length≠128 then (0,0,3)
 else if (qam (un4 (b.take 4)) (un4 ((b.drop 4).take 4))).2≠0∨b≠(qam (un4 (b.take 4)) (un4 ((b.drop 4).take 4))).1 then (0,0,8)
 else (un4 (b.take 4),un4 ((b.drop 4).take 4),0)
def qbv (d:Dk) (n:Nat):Nat × Nat:=if (ofS (blk d.1 n)).1 % 2=n then ((ofS (blk d.1 n)).1,(ofS (blk d.1 n)).2.1) else (0,0)
def qfb (a b:Nat × Nat):Nat × Nat:=if a.1<b.1 then b else a
def qjx (d:Dk):Nat × Nat:=qfb (qfb (0,0) (qbv d 0)) (qbv d 1)
def qat (d:Dk):Nat × Nat × Int:=
 if chk d≠0 then (0,0,chk d) else if mny d≤34 then (0,0,70)
 else if (qjx d).1=0 then (0,0,70) else ((qjx d).1,(qjx d).2,0)
theorem qn8 {gen:Nat} {size:Int} (h:(qam gen size).2=0):(qam gen size).1.length=128:=by
 unfold qam at *
 split
 ·rename_i c;rw [if_pos c] at h;cases h
 ·simp [qb4]
theorem qrr {gen:Nat} {size:Int} (h:(qam gen size).2=0):gen≠0∧0≤size∧size≤2048∧(qam gen size).1=le4 gen++(le4 size.toNat++List.replicate 120 0):=by
 unfold qam at *
 split at h
 ·cases h
 ·rename_i c
  rw [if_neg c];exact ⟨by omega,by omega,by omega,rfl⟩
theorem qhx {gen:Nat} {size:Int} (h1:gen≠0) (h2:0≤size) (h3:size≤2048):qam gen size=(le4 gen++(le4 size.toNat++List.replicate 120 0),0):=by
 unfold qam;rw [if_neg (by omega)]
theorem qyy {gen:Nat} {size:Int} (h:(qam gen size).2≠0):qam gen size=([],2):=by
 unfold qam at *
 split
 ·rfl
 ·rename_i c;rw [if_neg c] at h;exact absurd rfl h
theorem qabo {gen:Nat} {size:Int} (hg:gen<4294967296) (h:(qam gen size).2=0):ofS (qam gen size).1=(gen,size.toNat,0):=by
 obtain ⟨h1,h2,h3,h4⟩:=qrr h;have hl:=qn8 h
 have e1:un4 ((qam gen size).1.take 4)=gen:=by
  rw [h4,List.take_append_of_le_length (by rw [qb4];omega),List.take_of_length_le (by rw [qb4];omega),qabn gen hg]
 have e2:un4 (((qam gen size).1.drop 4).take 4)=size.toNat:=by
  rw [h4,show (4:Nat)=(le4 gen).length from rfl,List.drop_left,List.take_append_of_le_length (by rw [qb4,qb4];omega),List.take_of_length_le (by rw [qb4,qb4];omega),qabn _ (by omega)]
 unfold ofS;rw [e1,e2,if_neg (by omega)]
 have e3:qam gen (size.toNat:Nat)=qam gen size:=by rw [Int.toNat_of_nonneg h2]
 rw [e3,if_neg (by rw [h];simp)]
theorem ofS_ok {b:List UInt8} (h:(ofS b).2.2=0):qam (ofS b).1 ((ofS b).2.1:Nat)=(b,0):=by
 unfold ofS at *
 split at h
 ·cases h
 ·rename_i c1
  split at h
  ·cases h
  ·rename_i c2
   rw [if_neg c1,if_neg c2]
   have h1:(qam (un4 (b.take 4)) (un4 ((b.drop 4).take 4))).2=0:=by
    by_cases hx:(qam (un4 (b.take 4)) (un4 ((b.drop 4).take 4))).2=0
    ·exact hx
    ·exact absurd (.inl hx) c2
   have h2:b=(qam (un4 (b.take 4)) (un4 ((b.drop 4).take 4))).1:=by
    by_cases hx:b=(qam (un4 (b.take 4)) (un4 ((b.drop 4).take 4))).1
    ·exact hx
    ·exact absurd (.inr hx) c2
   show qam (un4 (b.take 4)) (un4 ((b.drop 4).take 4))=(b,0)
   exact Prod.ext h2.symm h1
theorem qajv {b:List UInt8} (h:(ofS b).2.2≠0):(ofS b).1=0∧(ofS b).2.1=0:=by
 unfold ofS at *
 split
 ·exact ⟨rfl,rfl⟩
 ·rename_i c1
  rw [if_neg c1] at h
  split
  ·exact ⟨rfl,rfl⟩
  ·rename_i c2;rw [if_neg c2] at h;exact absurd rfl h
theorem qabp (b:List UInt8):(ofS b).1<4294967296∧(ofS b).2.1≤2048:=by
 by_cases h:(ofS b).2.2=0
 ·have:=ofS_ok h
  obtain ⟨h1,h2,h3,_⟩:=qrr (by rw [this]:(qam (ofS b).1 ((ofS b).2.1:Nat)).2=0);refine ⟨?_,by omega⟩;unfold ofS
  split
  ·show (0:Nat)<_;omega
  ·split
   ·show (0:Nat)<_;omega
   ·have:=qrq (b.take 4)
    have hle:256 ^ (b.take 4).length≤256 ^ 4:=Nat.pow_le_pow_right (by decide) (by rw [List.length_take];omega);exact Nat.lt_of_lt_of_le this hle
 ·obtain ⟨h1,h2⟩:=qajv h
  rw [h1,h2];exact ⟨by omega,by omega⟩
theorem qgi {d:Dk} {gen was:Nat} (h:qat d=(gen,was,0)):okD d=true∧34<mny d∧gen≠0∧qjx d=(gen,was):=by
 unfold qat at h
 split at h
 ·rename_i c
  have:=congrArg (fun x=>x.2.2) h
  exact absurd this c
 ·rename_i c1
  split at h
  ·cases h
  ·split at h
   ·cases h
   ·rename_i c2 c3
    injection h with h1 h2
    injection h2 with h2 h3
    refine ⟨qrp (by omega),by omega,by rw [←h1];exact c3, ?_⟩;exact Prod.ext h1 h2
theorem qyz {d:Dk} {gen was:Nat} (hok:okD d=true) (hm:34<mny d) (hg:gen≠0) (hb:qjx d=(gen,was)):qat d=(gen,was,0):=by
 unfold qat;rw [if_neg (by rw [qn7 hok];simp),if_neg (by omega),hb,if_neg hg]
theorem qrs (d:Dk) (n:Nat):(qbv d n).1=0∨(qbv d n).1 % 2=n:=by
 unfold qbv
 split
 ·rename_i h;exact .inr h
 ·exact .inl rfl
theorem qrt (a b:Nat × Nat):qfb a b=a∨qfb a b=b:=by
 unfold qfb
 split
 ·exact .inr rfl
 ·exact .inl rfl
theorem qit {d:Dk} {gen was:Nat} (h:qjx d=(gen,was)) (hg:gen≠0):qbv d (gen % 2)=(gen,was):=by
 have p0:=qrs d 0;have p1:=qrs d 1;unfold qjx at h
 rcases qrt (qfb (0,0) (qbv d 0)) (qbv d 1) with e | e
 ·rw [e] at h
  rcases qrt (0,0) (qbv d 0) with e | e
  ·rw [e] at h
   exact absurd (congrArg Prod.fst h).symm hg
  ·rw [e] at h
   rw [h] at p0
   have:gen % 2=0:=by
    rcases p0 with p0 | p0
    ·exact absurd p0 hg
    ·exact p0
   rw [this];exact h
 ·rw [e] at h
  rw [h] at p1
  have:gen % 2=1:=by
   rcases p1 with p1 | p1
   ·exact absurd p1 hg
   ·exact p1
  rw [this];exact h
end Go.Proofs.YtmeaiocohalphaaGreatDoor

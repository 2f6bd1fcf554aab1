/-
  Plain mathematics of files on a disk: the words.
-/
import Derived.Test.YthilibleedbchaaGreatRDo
import Derived.Test.YthilibleedbchaaGreatDChk
import Derived.Test.YthilibleedbchaaGreatL2c
import Derived.Test.YthilibleedbchaaGreatMathRd
import Derived.Test.YthilibleedbchaaGreatMathFi3
namespace Go.Proofs.YthilibleedbchaaGreat
open Go.RowKit
set_option linter.all false
def Turned (w w':World):Prop:=w.heap.size≤w'.heap.size∧(∀(i:Nat) cs t fr,w.heap[i]? =some (.cells cs t fr)→t≠5→w'.heap[i]? =some (.cells cs t fr))∧
 ∀(base g n c:Nat) (l:List UInt8),OwB w base (.slice (some ⟨g,0,none⟩) n c) l→∃l',OwB w' base (.slice (some ⟨g,0,none⟩) n c) l'
theorem Turned.refl (w:World):Turned w w:=⟨Nat.le_refl _,fun _ _ _ _ h _=>h,fun _ _ _ _ l h=>⟨l,h⟩⟩
theorem Turned.trans {a b c:World} (h:Turned a b) (k:Turned b c):Turned a c:=
 ⟨Nat.le_trans h.1 k.1,fun i cs t fr hi ht=>k.2.1 i cs t fr (h.2.1 i cs t fr hi ht) ht,fun base g n cc l hO=>by
  obtain ⟨l',h'⟩:=h.2.2 base g n cc l hO
  exact k.2.2 base g n cc l' h'⟩
theorem Turned.of_below {a b:World} (h:Below a.heap.size a b):Turned a b:=
 ⟨h.size,fun i cs t fr hi _=>qac _ _ _ _ hi h,fun base g n c l hO=>⟨l,hO.carry h⟩⟩
theorem Turned.set {w:World} {base g n c:Nat} {l:List UInt8} (h:OwB w base (.slice (some ⟨g,0,none⟩) n c) l) (j:Nat) (b:UInt8):Turned w (w.setCell ⟨g,j,none⟩ (.int .u8 b.toNat)):=by
 have hg:=(h.stored j b).2;refine ⟨hg.size,fun i cs t fr hi ht=>?_,fun base' g' n' c' l' hO=>?_⟩
 ·refine (hg.block i (Array.getElem?_eq_some_iff.1 hi).1 fun e=>?_).trans hi
  cases e;obtain ⟨cs',hc⟩:=qbw h g rfl;rw [hi] at hc;cases hc;exact ht rfl
 ·by_cases e:g'=g
  ·subst e
   exact ⟨_,(hO.stored j b).1⟩
  ·exact ⟨l',World.ownsRow.kept hO hg (.inr (by simp [Value.ownBlock];omega))⟩
theorem OwB.turned {w w':World} {base:Nat} {v:Value} {l:List UInt8} (h:OwB w base v l) (hT:Turned w w'):∃l',OwB w' base v l':=by
 rcases id h with ⟨_,⟨rfl,hn⟩ | ⟨g,cap,cur,rfl,_⟩⟩
 ·exact ⟨[],World.ownsRow_nil _ _ _ _⟩
 ·exact hT.2.2 _ _ _ _ _ h
theorem OwB.len' {w:World} {base n c:Nat} {a:Option Addr} {l:List UInt8} (h:OwB w base (.slice a n c) l):n=l.length:=by
 obtain ⟨a,c',e⟩:=h.form
 cases e;rfl
theorem qqg {w w':World} {base:Nat} {e:TypeId} {s:Nat} {v:Value} {n:Nat} {xs:List Value} (h:w.ownsRow base e s v n xs) (hT:Turned w w') (he:e≠5):w'.ownsRow base e s v n xs:=by
 refine ⟨h.1, ?_⟩
 rcases h.2 with h | ⟨g,cap,cur,rfl,h1,h2,h3⟩
 ·exact .inl h
 ·exact .inr ⟨g,cap,cur,rfl,h1,hT.2.1 _ _ _ _ h2 he,h3⟩
theorem qt1 {w w':World} {base:Nat} (hT:Turned w w'):∀z:List (Pu × Value),(∀p∈z,OwB w base p.2 p.1.2)→∃z':List (Pu × Value),qed z'=qed z∧z'.length=z.length∧∀p∈z',OwB w' base p.2 p.1.2
 | [],_=>⟨[],rfl,rfl,by simp⟩
 | p::z,h=>by
  obtain ⟨z',h1,h2,h3⟩:=qt1 hT z (fun q hq=>h q (List.mem_cons_of_mem _ hq));obtain ⟨l',hl⟩:=(h p List.mem_cons_self).turned hT;refine ⟨((p.1.1,l'),p.2)::z', ?_,by simp [h2],fun q hq=>?_⟩
  ·show [Value.int .i64 p.1.1,p.2]++qed z'=[Value.int .i64 p.1.1,p.2]++qed z
   rw [h1]
  ·rcases List.mem_cons.1 hq with rfl | hq
   ·exact hl
   ·exact h3 q hq
theorem qqh {w w':World} {base:Nat} (hT:Turned w w'):∀z:List (Ac × Value),(∀p∈z,OwB w base p.2 p.1.2.2)→∃z':List (Ac × Value),qcb z'=qcb z∧z'.length=z.length∧∀p∈z',OwB w' base p.2 p.1.2.2
 | [],_=>⟨[],rfl,rfl,by simp⟩
 | p::z,h=>by
  obtain ⟨z',h1,h2,h3⟩:=qqh hT z (fun q hq=>h q (List.mem_cons_of_mem _ hq));obtain ⟨l',hl⟩:=(h p List.mem_cons_self).turned hT;refine ⟨((p.1.1,p.1.2.1,l'),p.2)::z', ?_,by simp [h2],fun q hq=>?_⟩
  ·show [Value.bool p.1.1,.int .i64 p.1.2.1,p.2]++qcb z'=[Value.bool p.1.1,.int .i64 p.1.2.1,p.2]++qcb z
   rw [h1]
  ·rcases List.mem_cons.1 hq with rfl | hq
   ·exact hl
   ·exact h3 q hq
theorem OwD.turned {w w':World} {base:Nat} {v:Value} {d:Dk} (h:OwD w base v d) (hT:Turned w w'):∃d',OwD w' base v d':=by
 obtain ⟨x,y,z,rfl,h1,⟨zy,e1,hy,hy2⟩,⟨zz,e2,hz,hz2⟩⟩:=h;obtain ⟨l1,g1⟩:=h1.turned hT;obtain ⟨zy',q1,q2,q3⟩:=qt1 hT zy hy2;obtain ⟨zz',r1,r2,r3⟩:=qqh hT zz hz2;refine ⟨(l1,zy'.map (·.1),zz'.map (·.1)),x,y,z,rfl,g1,⟨zy',rfl, ?_,q3⟩,⟨zz',rfl, ?_,r3⟩⟩
 ·rw [q1,List.length_map,q2];rw [←e1,List.length_map] at hy;exact qqg hy hT (by decide)
 ·rw [r1,List.length_map,r2];rw [←e2,List.length_map] at hz;exact qqg hz hT (by decide)
theorem wrap8 (b:UInt8):IntKind.u8.wrap ((b.toNat:Int)+1)=((b+1).toNat:Int):=by
 rw [IntKind.wrap_u8,UInt8.toNat_add]
 have:(1:UInt8).toNat=1:=rfl
 rw [this];omega
theorem qqi {w1 wr:World} {base n c:Nat} {a:Option Addr} {l:List UInt8} (hO:OwB w1 base (.slice a n c) l) (hT:Turned w1 wr) (hB:Below base w1 wr) (k:Nat) (hk:k<n):
  ∃(g:Nat) (bk bj:Int),a=some ⟨g,0,none⟩∧wr.cell? ⟨g,k,none⟩=some (.int .u8 bk)∧wr.frozen? ⟨g,k,none⟩=false∧IntKind.u8.wrap (bk+1)=bj∧
   Hid (Turned w1 (wr.drew.setCell ⟨g,k,none⟩ (.int .u8 bj))∧Below base w1 (wr.drew.setCell ⟨g,k,none⟩ (.int .u8 bj))):=by
 have hn:=hO.len'
 rcases id hO with ⟨_,⟨_,h0⟩ | ⟨g,cap,cur,e,hg,_⟩⟩
 ·omega
 cases e;obtain ⟨l',hO'⟩:=hO.turned hT;have hn':=hO'.len'
 have hk':k<l'.length:=by omega
 refine ⟨g,(l'[k]).toNat,_,rfl,hO'.at k hk',hO'.fz k,wrap8 _, ?_, ?_⟩
 ·have:=(hO'.carry (Below.refl wr.heap.size wr).drew).stored k (l'[k]+1)
  exact (hT.trans (Turned.of_below (Below.refl wr.heap.size wr).drew)).trans (Turned.set (hO'.carry (Below.refl wr.heap.size wr).drew) k _)
 ·exact hB.drew.setCell hg _
def le4 (n:Nat):List UInt8:=[UInt8.ofNat (n % 256),UInt8.ofNat (n / 256 % 256),UInt8.ofNat (n / 65536 % 256),UInt8.ofNat (n / 16777216 % 256)]
def un4:List UInt8→Nat
 | []=>0
 | b::l=>b.toNat+256*un4 l
theorem qdi (n:Nat):(le4 n).length=4:=rfl
theorem qla:∀l:List UInt8,un4 l<256 ^ l.length
 | []=>by simp [un4]
 | b::l=>by
  have:=qla l
  have hb:=b.toNat_lt;rw [un4,List.length_cons,Nat.pow_succ];omega
theorem qt2 (b:UInt8):∀l:List UInt8,un4 (l++[b])=un4 l+b.toNat*256 ^ l.length
 | []=>by simp [un4]
 | c::l=>by
  have e:un4 (c::l++[b])=c.toNat+256*un4 (l++[b]):=rfl;rw [e,qt2 b l,un4,List.length_cons,Nat.pow_succ,Nat.mul_add,Nat.add_assoc]
  congr 2
  rw [Nat.mul_comm (256 ^ l.length) 256,←Nat.mul_assoc,←Nat.mul_assoc,Nat.mul_comm 256 b.toNat]
theorem qe4 (m:Nat):UInt8.ofNat (m % 256)=UInt8.ofNat m:=UInt8.toNat_inj.1 (by simp [UInt8.toNat_ofNat'])
theorem qaeh (n k:Nat) (hk:k<4):(le4 n)[k]'(by rw [qdi];exact hk)=UInt8.ofNat (n / 2 ^ (8*k)):=by
 match k,hk with
 | 0,_=>simp [le4,qe4]
 | 1,_=>simp [le4,qe4]
 | 2,_=>simp [le4,qe4]
 | 3,_=>simp [le4,qe4]
theorem qabh (l:List UInt8) (k:Nat) (hk:k<l.length):un4 (l.take (k+1))=un4 (l.take k)+(l[k]).toNat*256 ^ k:=by
 rw [List.take_succ_eq_append_getElem hk,qt2]
 congr 2
 rw [List.length_take,Nat.min_eq_left (by omega)]
def qam (gen:Nat) (size:Int):List UInt8 × Int:=if gen=0∨size<0∨2048<size then ([],2) else (le4 gen++(le4 size.toNat++List.replicate 120 0),0)
def ofS (b:List UInt8):Nat × Nat × Int:=
 if b.length≠128 then (0,0,3)
 else if (qam (un4 (b.take 4)) (un4 ((b.drop 4).take 4))).2≠0∨b≠(qam (un4 (b.take 4)) (un4 ((b.drop 4).take 4))).1 then (0,0,8)
 else (un4 (b.take 4),un4 ((b.drop 4).take 4),0)
def qd0 (d:Dk) (n:Nat):Nat × Nat:=if (ofS (blk d.1 n)).1 % 2=n then ((ofS (blk d.1 n)).1,(ofS (blk d.1 n)).2.1) else (0,0)
def qdx (a b:Nat × Nat):Nat × Nat:=if a.1<b.1 then b else a
def qvl (d:Dk):Nat × Nat:=qdx (qdx (0,0) (qd0 d 0)) (qd0 d 1)
def qbj (d:Dk):Nat × Nat × Int:=
 if chk d≠0 then (0,0,chk d) else if mny d≤34 then (0,0,70)
 else if (qvl d).1=0 then (0,0,70) else ((qvl d).1,(qvl d).2,0)
theorem qvm {gen:Nat} {size:Int} (h:(qam gen size).2=0):(qam gen size).1.length=128:=by
 unfold qam at *
 split
 ·rename_i c;rw [if_pos c] at h;cases h
 ·simp [qdi]
theorem qx5 {gen:Nat} {size:Int} (h:(qam gen size).2=0):gen≠0∧0≤size∧size≤2048∧(qam gen size).1=le4 gen++(le4 size.toNat++List.replicate 120 0):=by
 unfold qam at *
 split at h
 ·cases h
 ·rename_i c
  rw [if_neg c];exact ⟨by omega,by omega,by omega,rfl⟩
theorem qgl {gen:Nat} {size:Int} (h1:gen≠0) (h2:0≤size) (h3:size≤2048):qam gen size=(le4 gen++(le4 size.toNat++List.replicate 120 0),0):=by
 unfold qam;rw [if_neg (by omega)]
theorem qm0 {gen:Nat} {size:Int} (h:(qam gen size).2≠0):qam gen size=([],2):=by
 unfold qam at *
 split
 ·rfl
 ·rename_i c;rw [if_neg c] at h;exact absurd rfl h
theorem ofS_ok {b:List UInt8} (h:(ofS b).2.2=0):qam (ofS b).1 ((ofS b).2.1:Nat)=(b,0):=by
 unfold ofS at *
 split at h
 ·cases h
 ·rename_i c1
  split at h
  ·cases h
  ·rename_i c2
   rw [if_neg c1,if_neg c2]
   have h1:(qam (un4 (b.take 4)) (un4 ((b.drop 4).take 4))).2=0:=by
    by_cases hx:(qam (un4 (b.take 4)) (un4 ((b.drop 4).take 4))).2=0
    ·exact hx
    ·exact absurd (.inl hx) c2
   have h2:b=(qam (un4 (b.take 4)) (un4 ((b.drop 4).take 4))).1:=by
    by_cases hx:b=(qam (un4 (b.take 4)) (un4 ((b.drop 4).take 4))).1
    ·exact hx
    ·exact absurd (.inr hx) c2
   show qam (un4 (b.take 4)) (un4 ((b.drop 4).take 4))=(b,0)
   exact Prod.ext h2.symm h1
theorem qx6 {b:List UInt8} (h:(ofS b).2.2≠0):(ofS b).1=0∧(ofS b).2.1=0:=by
 unfold ofS at *
 split
 ·exact ⟨rfl,rfl⟩
 ·rename_i c1
  rw [if_neg c1] at h
  split
  ·exact ⟨rfl,rfl⟩
  ·rename_i c2;rw [if_neg c2] at h;exact absurd rfl h
theorem qx7 (b:List UInt8):(ofS b).1<4294967296∧(ofS b).2.1≤2048:=by
 by_cases h:(ofS b).2.2=0
 ·have:=ofS_ok h
  obtain ⟨h1,h2,h3,_⟩:=qx5 (by rw [this]:(qam (ofS b).1 ((ofS b).2.1:Nat)).2=0);refine ⟨?_,by omega⟩;unfold ofS
  split
  ·show (0:Nat)<_;omega
  ·split
   ·show (0:Nat)<_;omega
   ·have:=qla (b.take 4)
    have hle:256 ^ (b.take 4).length≤256 ^ 4:=Nat.pow_le_pow_right (by decide) (by rw [List.length_take];omega);exact Nat.lt_of_lt_of_le this hle
 ·obtain ⟨h1,h2⟩:=qx6 h
  rw [h1,h2];exact ⟨by omega,by omega⟩
theorem qm1 {d:Dk} {gen was:Nat} (h:qbj d=(gen,was,0)):okD d=true∧34<mny d∧gen≠0∧qvl d=(gen,was):=by
 unfold qbj at h
 split at h
 ·rename_i c
  have:=congrArg (fun x=>x.2.2) h
  exact absurd this c
 ·rename_i c1
  split at h
  ·cases h
  ·split at h
   ·cases h
   ·rename_i c2 c3
    injection h with h1 h2
    injection h2 with h2 h3
    refine ⟨qxv (by omega),by omega,by rw [←h1];exact c3, ?_⟩;exact Prod.ext h1 h2
theorem qqj (d:Dk) (n:Nat):(qd0 d n).1=0∨(qd0 d n).1 % 2=n:=by
 unfold qd0
 split
 ·rename_i h;exact .inr h
 ·exact .inl rfl
theorem qqk (a b:Nat × Nat):qdx a b=a∨qdx a b=b:=by
 unfold qdx
 split
 ·exact .inr rfl
 ·exact .inl rfl
theorem qvn {d:Dk} {gen was:Nat} (h:qvl d=(gen,was)) (hg:gen≠0):qd0 d (gen % 2)=(gen,was):=by
 have p0:=qqj d 0;have p1:=qqj d 1;unfold qvl at h
 rcases qqk (qdx (0,0) (qd0 d 0)) (qd0 d 1) with e | e
 ·rw [e] at h
  rcases qqk (0,0) (qd0 d 0) with e | e
  ·rw [e] at h
   exact absurd (congrArg Prod.fst h).symm hg
  ·rw [e] at h
   rw [h] at p0
   have:gen % 2=0:=by
    rcases p0 with p0 | p0
    ·exact absurd p0 hg
    ·exact p0
   rw [this];exact h
 ·rw [e] at h
  rw [h] at p1
  have:gen % 2=1:=by
   rcases p1 with p1 | p1
   ·exact absurd p1 hg
   ·exact p1
  rw [this];exact h
abbrev Fsd:=Dk × Nat × List Fl × List Fl
def fz:Fsd:=(dz,0,[],[])
def genB (d:Dk) (gen size:Nat):List UInt8:=(d.1.drop (128*(2+gen % 2*16))).take size
def okFs (f:Fsd):Prop:=(qbj f.1).2.2=0∧(qbj f.1).1=f.2.1∧(∀p∈f.1.2.1,34≤p.1)∧qdg (genB f.1 f.2.1 (qbj f.1).2.1) (mny f.1)=0∧qgf (genB f.1 f.2.1 (qbj f.1).2.1) (mny f.1)=f.2.2.2∧chkF f.2.2.1 (mny f.1)=0
instance (f:Fsd):Decidable (okFs f):=inferInstanceAs (Decidable (_∧_∧_∧_∧_∧_))
def fsE (f:Fsd):Int:=if okFs f then 0 else 8
def qbf (f:Fsd):List Ex:=qdz f.2.2.1++qdz f.2.2.2
def qbe (f:Fsd):Int:=(qjl f.1).1
def mkE (f:Fsd) (s:List UInt8) (n:Int):Int:=
 if qav f.2.2.1 s=0 then 51 else if qav f.2.2.1 s≠6 then qav f.2.2.1 s
 else if qdd 34 (qbe f) (qbf f) n≠0 then qdd 34 (qbe f) (qbf f) n
 else qap f.2.2.1 s (qde 34 (qbe f) (qbf f) n) (qbe f)
def mkL (f:Fsd) (s:List UInt8) (n:Int):List Fl:=if mkE f s n=0 then qbl f.2.2.1 s (qde 34 (qbe f) (qbf f) n) (qbe f) else []
def qdy (f:Fsd) (l:List Fl) (e:Int):Fsd × Int:=if fsE f≠0 then (fz,fsE f) else if e≠0 then (fz,e) else ((f.1,f.2.1,l,f.2.2.2),0)
def qc0 (f:Fsd) (s:List UInt8) (n:Int):Fsd × Int:=qdy f (mkL f s n) (mkE f s n)
def qc7 (f:Fsd) (s:List UInt8):Fsd × Int:=qdy f (qb1 f.2.2.1 s) (qav f.2.2.1 s)
def qc8 (f:Fsd) (s t:List UInt8):Fsd × Int:=qdy f (qb6 f.2.2.1 s t) (qay f.2.2.1 s t)
/-! ### on the way -/
abbrev Wy:=Fsd × Int × List UInt8
abbrev Stp:=Wy→Wy × Int
def qak (s:Stp) (x:Wy):Wy:=if x.2.1=0 then ((s x).1.1,(s x).2,(s x).1.2.2) else x
def qbb (f:Fsd):Wy:=(f,fsE f,[])
def endW (x:Wy):Fsd × Int:=if x.2.1≠0 then (fz,x.2.1) else (x.1,0)
def qlb (x:Wy) (d:Dk):Wy:=((d,x.1.2),x.2)
def qb5:Stp:=fun x=>if x.1.2.1=4294967295 then (x,9) else (((x.1.1,x.1.2.1+1,x.1.2.2),x.2.1,qer x.1.2.2.1 (qbe x.1)),chkF x.1.2.2.1 (qbe x.1))
def qck:Stp:=fun x=>(qlb x (doD x.1.1 [(true,0,[])] 1).1,(doD x.1.1 [(true,0,[])] 1).2)
def qe5:Stp:=fun x=>(qlb x (qf2 x.1.1).1,(qf2 x.1.1).2)
def qr8:Stp:=fun x=>(qlb x (doD x.1.1 [] 0).1,(doD x.1.1 [] 0).2)
def qey (n:Int) (b:List UInt8):Stp:=fun x=>(qlb x (doD x.1.1 [(false,n,b)] 1).1,(doD x.1.1 [(false,n,b)] 1).2)
def dirW (l:List Fl) (e:Int):Stp:=fun x=>(((x.1.1,x.1.2.1,l,x.1.2.2.2),x.2),e)
def keepW:Stp:=fun x=>(((x.1.1,x.1.2.1,x.1.2.2.1,x.1.2.2.1),x.2),0)
def padB (l:List UInt8):List UInt8:=l.take 128++List.replicate (128 - l.length) 0
def qbg (l:List UInt8):List (List UInt8):=(List.range ((l.length+127) / 128)).map fun k=>padB (l.drop (128*k))
def qdc:Int→List (List UInt8)→Stp
 | _,[],x=>(x,0)
 | n,b::l,x=>if (qey n b x).2≠0 then qey n b x else qdc (n+1) l (qey n b x).1
def qgm:Stp:=fun x=>qdc ((2+x.1.2.1 % 2*16:Nat):Int) (qbg x.2.2) x
def qig:Stp:=fun x=>if (qam x.1.2.1 (x.2.2.length:Nat)).2≠0 then (x,(qam x.1.2.1 (x.2.2.length:Nat)).2) else qey ((x.1.2.1 % 2:Nat):Int) (qam x.1.2.1 (x.2.2.length:Nat)).1 x
def qb7 (x:Wy):Wy:=qak keepW (qak qck (qak qig (qak qck (qak qgm (qak qck (qak qb5 x))))))
def qf3 (f:Fsd):Fsd × Int:=endW (qak qck (qbb f))
def qez (f:Fsd):Fsd × Int:=endW (qak qe5 (qbb f))
def qcn (f:Fsd):Fsd × Int:=endW (qb7 (qbb f))
def qb4 (n:Int):Fsd × Int:=if (newD n).2≠0 then (fz,(newD n).2) else if n≤34 then (fz,2) else endW (qak qe5 (qb7 (((newD n).1,0,[],[]),0,[])))
def qm2 (f:Fsd) (l:List Fl) (e:Int):Fsd × Int:=endW (qak qr8 (qak (dirW l e) (qbb f)))
theorem qcc (f:Fsd):(okFs f∧fsE f=0)∨(¬okFs f∧fsE f=8):=by
 unfold fsE;by_cases h:okFs f
 ·exact .inl ⟨h,if_pos h⟩
 ·exact .inr ⟨h,if_neg h⟩
theorem qx8 {f:Fsd} (h:fsE f=0):okFs f:=by rcases qcc f with h1 | h1;exact h1.1;rw [h1.2] at h;cases h
theorem qql {f:Fsd} (h:okFs f):fsE f=0:=by unfold fsE;exact if_pos h
theorem qcg {f:Fsd} (h:okFs f):okD f.1=true∧34<mny f.1∧f.2.1≠0∧qbj f.1=(f.2.1,(qbj f.1).2.1,0):=by
 obtain ⟨h1,h2,_⟩:=h
 have e:qbj f.1=(f.2.1,(qbj f.1).2.1,0):=by rw [←h2,←h1]
 obtain ⟨a,b,c,_⟩:=qm1 e;exact ⟨a,b,c,e⟩
theorem qr9 {d:Dk} (h:okD d=true):chk d=0:=by unfold chk;rw [if_pos h]
theorem qj1 {f:Fsd} (h:okD f.1=true):qbe f=mny f.1:=by unfold qbe qjl;rw [qr9 h];rfl
theorem qx9 (f:Fsd) (l:List Fl) (e:Int):qm2 f l e=qdy f l e:=by
 unfold qm2 qdy qbb
 rcases qcc f with ⟨h,h0⟩ | ⟨h,h0⟩
 ·have hd:=qr9 (qcg h).1
  rw [h0];unfold qak dirW qr8 endW qlb doD
  by_cases he:e=0
  ·subst he
   simp [hd,qcf,qbs]
  ·simp [he]
 ·rw [h0]
  simp [qak,endW]
end Go.Proofs.YthilibleedbchaaGreat

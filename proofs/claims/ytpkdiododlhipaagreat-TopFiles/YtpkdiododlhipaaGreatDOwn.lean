/-
  Disks of one's own behind a pointer: what stays where one row, or the disk's own cells, are written.
-/
import Derived.Test.YtpkdiododlhipaaGreatDLay
import Derived.Test.YtpkdiododlhipaaGreatRegL
namespace Go.Proofs.YtpkdiododlhipaaGreat
open Go.RowKit
set_option linter.all false
theorem qfl {w w':World} {base:Nat} {e:TypeId} {s:Nat} {v:Value} {n:Nat} {xs:List Value} {row:Option Nat} (h:w.ownsRow base e s v n xs) (hg:w.grownBy w' row) (hrow:∀k,row=some k→∃cs t fr,w.heap[k]? =some (.cells cs t fr)∧t≠e):w'.ownsRow base e s v n xs:=by
 refine h.kept hg ?_
 rcases h.2 with ⟨rfl,_⟩ | ⟨g,cap,cur,rfl,_,hh,_⟩
 ·exact .inl rfl
 ·right
  intro e';obtain ⟨cs,t,fr,h1,h2⟩:=hrow g (by rw [←e'];rfl);rw [hh] at h1;cases h1;exact h2 rfl
theorem OwB.keptT {w w':World} {base:Nat} {v:Value} {l:List UInt8} {row:Option Nat} (h:OwB w base v l) (hg:w.grownBy w' row) (hrow:∀k,row=some k→∃cs t fr,w.heap[k]? =some (.cells cs t fr)∧t≠5):OwB w' base v l:=qfl h hg hrow
theorem OwW.keptT {w w':World} {base:Nat} {v:Value} {l:List Pu} {row:Option Nat} (h:OwW w base v l) (hg:w.grownBy w' row) (hrow:∀k,row=some k→∃cs t fr,w.heap[k]? =some (.cells cs t fr)∧t≠5∧t≠77):OwW w' base v l:=by
 obtain ⟨z,h1,h2,h3⟩:=h;exact ⟨z,h1,qfl h2 hg (fun k hk=>by obtain ⟨cs,t,fr,a,b,c⟩:=hrow k hk;exact ⟨cs,t,fr,a,c⟩),fun p hp=>(h3 p hp).keptT hg (fun k hk=>by obtain ⟨cs,t,fr,a,b,c⟩:=hrow k hk;exact ⟨cs,t,fr,a,b⟩)⟩
theorem OwA.keptT {w w':World} {base:Nat} {v:Value} {l:List Ac} {row:Option Nat} (h:OwA w base v l) (hg:w.grownBy w' row) (hrow:∀k,row=some k→∃cs t fr,w.heap[k]? =some (.cells cs t fr)∧t≠5∧t≠103):OwA w' base v l:=by
 obtain ⟨z,h1,h2,h3⟩:=h;exact ⟨z,h1,qfl h2 hg (fun k hk=>by obtain ⟨cs,t,fr,a,b,c⟩:=hrow k hk;exact ⟨cs,t,fr,a,c⟩),fun p hp=>(h3 p hp).keptT hg (fun k hk=>by obtain ⟨cs,t,fr,a,b,c⟩:=hrow k hk;exact ⟨cs,t,fr,a,b⟩)⟩
theorem qfm {w:World} {base:Nat} {e:TypeId} {s:Nat} {v:Value} {n:Nat} {xs:List Value} (h:w.ownsRow base e s v n xs) (k:Nat) (hk:v.ownBlock=some k):∃cs,w.heap[k]? =some (.cells cs e (0,0)):=by
 rcases h.2 with ⟨rfl,_⟩ | ⟨g,cap,cur,rfl,_,hh,_⟩
 ·cases hk
 ·cases hk;exact ⟨_,hh⟩
def Dp (w:World) (base gD B:Nat) (d:Dk):Prop:=∃g0 cap a2 c2 a3 c3,
 w.heap[gD]? =some (.cells #[.slice (some ⟨g0,0,none⟩) d.1.length cap,.slice a2 d.2.1.length c2,.slice a3 d.2.2.length c3] 27 (0,0))∧base≤g0∧g0<B∧B≤w.heap.size∧base≤gD∧
 OwB w base (.slice (some ⟨g0,0,none⟩) d.1.length cap) d.1∧OwW w B (.slice a2 d.2.1.length c2) d.2.1∧OwA w B (.slice a3 d.2.2.length c3) d.2.2
theorem Dp.carry {w w':World} {base gD B:Nat} {d:Dk} (h:Dp w base gD B d) (hb:Below w.heap.size w w'):Dp w' base gD B d:=by
 obtain ⟨g0,cap,a2,c2,a3,c3,h1,h2,h3,h4,h5,h6,h7,h8⟩:=h;exact ⟨g0,cap,a2,c2,a3,c3,qag _ _ _ _ h1 hb,h2,h3,Nat.le_trans h4 hb.size,h5,h6.carry hb,h7.carry hb,h8.carry hb⟩
theorem qmw:(77≠5∧103≠5∧27≠5)∧(77≠103∧27≠77∧27≠103):=by decide
theorem Dp.waited {w w8 w9 ws:World} {base gD B g0 cap:Nat} {a2 a3:Option Addr} {c2 c3:Nat} {d:Dk} {N:Int} {l:List UInt8} {p:Value} {v':Value}
  (hB:base≤g0) (hB2:g0<B) (hB3:B≤w8.heap.size) (hgD:base≤gD)
  (hd:w8.heap[gD]? =some (.cells #[.slice (some ⟨g0,0,none⟩) d.1.length cap,.slice a2 d.2.1.length c2,.slice a3 d.2.2.length c3] 27 (0,0)))
  (h1:OwB w8 base (.slice (some ⟨g0,0,none⟩) d.1.length cap) d.1) {z:List (Pu × Value)} (hz:z.map (·.1)=d.2.1) (h2:w8.ownsRow B 77 2 (.slice a2 d.2.1.length c2) d.2.1.length (qdv z)) (h2':∀p∈z,OwB w8 B p.2 p.1.2) (h3:OwA w8 B (.slice a3 d.2.2.length c3) d.2.2)
  (hp:OwB w8 B p l) (hown:w9.ownsRow B 77 2 v' (d.2.1.length+1) (qdv z++[.int .i64 N,p])) (hg9:w8.grownBy w9 (Value.slice a2 d.2.1.length c2).ownBlock) (hs:w9.grownBy ws (some gD))
  (hws:ws.heap[gD]? =some (.cells #[.slice (some ⟨g0,0,none⟩) d.1.length cap,v',.slice a3 d.2.2.length c3] 27 (0,0))):
  Dp ws base gD B (d.1,d.2.1++[(N,l)],d.2.2):=by
 obtain ⟨⟨t1,t2,t3⟩,t4,t5,t6⟩:=qmw
 have hr9:∀k,(Value.slice a2 d.2.1.length c2).ownBlock=some k→∃cs fr,w8.heap[k]? =some (.cells cs 77 fr):=fun k hk=>by
  obtain ⟨cs,h⟩:=qfm h2 k hk;exact ⟨cs,_,h⟩
 have hd9:w9.heap[gD]? =some (.cells #[.slice (some ⟨g0,0,none⟩) d.1.length cap,.slice a2 d.2.1.length c2,.slice a3 d.2.2.length c3] 27 (0,0)):=by
  refine (hg9.block gD (Array.getElem?_eq_some_iff.1 hd).1 ?_).trans hd;intro e;obtain ⟨cs,fr,h⟩:=hr9 gD e.symm;rw [hd] at h;cases h
 have hrs:∀k,some gD=some k→∃cs t fr,w9.heap[k]? =some (.cells cs t fr)∧t=27:=fun k hk=>by cases hk;exact ⟨_,_,_,hd9,rfl⟩
 have o1:OwB ws base (.slice (some ⟨g0,0,none⟩) d.1.length cap) d.1:=(h1.keptT hg9 (fun k hk=>by obtain ⟨cs,fr,h⟩:=hr9 k hk;exact ⟨cs,_,fr,h,t1⟩)).keptT hs (fun k hk=>by obtain ⟨cs,t,fr,h,rfl⟩:=hrs k hk;exact ⟨cs,_,fr,h,t3⟩);have o3:OwA ws B (.slice a3 d.2.2.length c3) d.2.2:=(h3.keptT hg9 (fun k hk=>by obtain ⟨cs,fr,h⟩:=hr9 k hk;exact ⟨cs,_,fr,h,t1,t4⟩)).keptT hs (fun k hk=>by obtain ⟨cs,t,fr,h,rfl⟩:=hrs k hk;exact ⟨cs,_,fr,h,t3,t6⟩)
 have ob:∀{b q l},OwB w8 b q l→OwB ws b q l:=fun h=>(h.keptT hg9 (fun k hk=>by obtain ⟨cs,fr,h⟩:=hr9 k hk;exact ⟨cs,_,fr,h,t1⟩)).keptT hs (fun k hk=>by obtain ⟨cs,t,fr,h,rfl⟩:=hrs k hk;exact ⟨cs,_,fr,h,t3⟩)
 have o2r:=qfl hown hs (fun k hk=>by obtain ⟨cs,t,fr,h,rfl⟩:=hrs k hk;exact ⟨cs,_,fr,h,t5⟩)
 have hle:(d.2.1++[(N,l)]).length=d.2.1.length+1:=by simp
 have o2:OwW ws B v' (d.2.1++[(N,l)]):=by
  refine ⟨z++[((N,l),p)],by simp [hz],by rw [hle,qgs];exact o2r,fun q hq=>?_⟩
  rcases List.mem_append.1 hq with h | h
  ·exact ob (h2' q h)
  ·rw [List.mem_singleton.1 h];exact ob hp
 obtain ⟨a2',c2',rfl⟩:=o2.rd.form;exact ⟨g0,cap,a2',c2',a3,c3,hws,hB,hB2,Nat.le_trans hB3 (Nat.le_trans hg9.size hs.size),hgD,o1,o2,o3⟩
theorem Dp.did {w w8 w9 ws:World} {base gD B g0 cap:Nat} {a2 a3:Option Addr} {c2 c3:Nat} {d:Dk} {s:Bool} {N:Int} {l:List UInt8} {p:Value} {v':Value}
  (hB:base≤g0) (hB2:g0<B) (hB3:B≤w8.heap.size) (hgD:base≤gD)
  (hd:w8.heap[gD]? =some (.cells #[.slice (some ⟨g0,0,none⟩) d.1.length cap,.slice a2 d.2.1.length c2,.slice a3 d.2.2.length c3] 27 (0,0)))
  (h1:OwB w8 base (.slice (some ⟨g0,0,none⟩) d.1.length cap) d.1) {z:List (Ac × Value)} (hz:z.map (·.1)=d.2.2) (h2:w8.ownsRow B 103 3 (.slice a3 d.2.2.length c3) d.2.2.length (qd9 z)) (h2':∀p∈z,OwB w8 B p.2 p.1.2.2) (h3:OwW w8 B (.slice a2 d.2.1.length c2) d.2.1)
  (hp:OwB w8 B p l) (hown:w9.ownsRow B 103 3 v' (d.2.2.length+1) (qd9 z++[.bool s,.int .i64 N,p])) (hg9:w8.grownBy w9 (Value.slice a3 d.2.2.length c3).ownBlock) (hs:w9.grownBy ws (some gD))
  (hws:ws.heap[gD]? =some (.cells #[.slice (some ⟨g0,0,none⟩) d.1.length cap,.slice a2 d.2.1.length c2,v'] 27 (0,0))):
  Dp ws base gD B (d.1,d.2.1,d.2.2++[(s,N,l)]):=by
 obtain ⟨⟨t1,t2,t3⟩,t4,t5,t6⟩:=qmw
 have hr9:∀k,(Value.slice a3 d.2.2.length c3).ownBlock=some k→∃cs fr,w8.heap[k]? =some (.cells cs 103 fr):=fun k hk=>by
  obtain ⟨cs,h⟩:=qfm h2 k hk;exact ⟨cs,_,h⟩
 have hd9:w9.heap[gD]? =some (.cells #[.slice (some ⟨g0,0,none⟩) d.1.length cap,.slice a2 d.2.1.length c2,.slice a3 d.2.2.length c3] 27 (0,0)):=by
  refine (hg9.block gD (Array.getElem?_eq_some_iff.1 hd).1 ?_).trans hd;intro e;obtain ⟨cs,fr,h⟩:=hr9 gD e.symm;rw [hd] at h;cases h
 have hrs:∀k,some gD=some k→∃cs t fr,w9.heap[k]? =some (.cells cs t fr)∧t=27:=fun k hk=>by cases hk;exact ⟨_,_,_,hd9,rfl⟩
 have ob:∀{b q l},OwB w8 b q l→OwB ws b q l:=fun h=>(h.keptT hg9 (fun k hk=>by obtain ⟨cs,fr,h⟩:=hr9 k hk;exact ⟨cs,_,fr,h,t2⟩)).keptT hs (fun k hk=>by obtain ⟨cs,t,fr,h,rfl⟩:=hrs k hk;exact ⟨cs,_,fr,h,t3⟩)
 have o1:=ob h1;have o3:OwW ws B (.slice a2 d.2.1.length c2) d.2.1:=(h3.keptT hg9 (fun k hk=>by obtain ⟨cs,fr,h⟩:=hr9 k hk;exact ⟨cs,_,fr,h,t2,Ne.symm t4⟩)).keptT hs (fun k hk=>by obtain ⟨cs,t,fr,h,rfl⟩:=hrs k hk;exact ⟨cs,_,fr,h,t3,t5⟩);have o2r:=qfl hown hs (fun k hk=>by obtain ⟨cs,t,fr,h,rfl⟩:=hrs k hk;exact ⟨cs,_,fr,h,t6⟩)
 have hle:(d.2.2++[(s,N,l)]).length=d.2.2.length+1:=by simp
 have o2:OwA ws B v' (d.2.2++[(s,N,l)]):=by
  refine ⟨z++[((s,N,l),p)],by simp [hz],by rw [hle,qj2];exact o2r,fun q hq=>?_⟩
  rcases List.mem_append.1 hq with h | h
  ·exact ob (h2' q h)
  ·rw [List.mem_singleton.1 h];exact ob hp
 obtain ⟨a3',c3',rfl⟩:=o2.rd.form;exact ⟨g0,cap,a2,c2,a3',c3',hws,hB,hB2,Nat.le_trans hB3 (Nat.le_trans hg9.size hs.size),hgD,o1,o3,o2⟩
theorem qqo {w7:World} {base gD B g0 cap:Nat} {a2 a3:Option Addr} {c2 c3:Nat} {d:Dk} {N:Int} {l:List UInt8} {p7:Option Addr} {k7:Nat}
  (hB:base≤g0) (hB2:g0<B) (hB3:B≤w7.heap.size) (hgD:base≤gD)
  (hd:w7.heap[gD]? =some (.cells #[.slice (some ⟨g0,0,none⟩) d.1.length cap,.slice a2 d.2.1.length c2,.slice a3 d.2.2.length c3] 27 (0,0)))
  (h1:OwB w7 base (.slice (some ⟨g0,0,none⟩) d.1.length cap) d.1) (h2:OwW w7 B (.slice a2 d.2.1.length c2) d.2.1) (h3:OwA w7 B (.slice a3 d.2.2.length c3) d.2.2) (hp:OwB w7 B (.slice p7 l.length k7) l) (hl:d.2.1.length≤1000000):
  ∃a9 c9 w9,(Builtin.append_ #[24,24] 24 #[.slice a2 d.2.1.length c2,.slice (some ⟨w7.heap.size,0,none⟩) 1 1]).run Tryz.prog (w7.alloc (.cells #[.int .i64 N,.slice p7 l.length k7] 77))=.ok (.slice a9 (d.2.1.length+1) c9) w9∧w7.grownBy w9 (Value.slice a2 d.2.1.length c2).ownBlock∧
   w9.heap[gD]? =some (.cells #[.slice (some ⟨g0,0,none⟩) d.1.length cap,.slice a2 d.2.1.length c2,.slice a3 d.2.2.length c3] 27 (0,0))∧
   ∀ws,w9.grownBy ws (some gD)→ws.heap[gD]? =some (.cells #[.slice (some ⟨g0,0,none⟩) d.1.length cap,.slice a9 (d.2.1.length+1) c9,.slice a3 d.2.2.length c3] 27 (0,0))→Dp ws base gD B (d.1,d.2.1++[(N,l)],d.2.2):=by
 obtain ⟨w8,ew8⟩:∃w8,w8=w7.alloc (.cells #[.int .i64 N,.slice p7 l.length k7] 77):=⟨_,rfl⟩;rw [←ew8]
 have hb8:Below w7.heap.size w7 w8:=by rw [ew8];exact (Below.refl _ _).alloc (Nat.le_refl _) _
 have hn8:∀j u,([Value.int .i64 N,.slice p7 l.length k7]:List Value)[j]? =some u→w8.cell? ((⟨w7.heap.size,0,none⟩:Addr).add j)=some u:=by
  intro j u hj;rw [ew8]
  have:=World.news_of_block (w:=w7.alloc (.cells #[.int .i64 N,.slice p7 l.length k7] 77)) (heap_alloc_new w7 _) j u (by simpa using hj)
  simpa using this
 obtain ⟨i0,hi,hz0,hz1,hz2⟩:=info_parts Tryz.infoPut;obtain ⟨z,q1,q2,q3⟩:=h2.carry hb8;obtain ⟨v9,w9,hrun9,hown9,hg9,_⟩:=run_append_own (P:=Tryz.prog) w8 B 24 24 77 i0 _ 2 32 Tryz.underlying24 hi hz0 hz1 hz2 rfl (by decide) _ _ _ q2 ⟨w7.heap.size,0,none⟩ 1 1 [.int .i64 N,.slice p7 l.length k7] rfl hn8 (by intro u hu;simp at hu;rcases hu with rfl | rfl<;>rfl) (by unfold maxLen;omega) (by omega) (Nat.le_trans hB3 hb8.size);have hd8:=qag _ _ _ _ hd hb8
 have hd9:w9.heap[gD]? =some (.cells #[.slice (some ⟨g0,0,none⟩) d.1.length cap,.slice a2 d.2.1.length c2,.slice a3 d.2.2.length c3] 27 (0,0)):=by
  refine (hg9.block gD (Array.getElem?_eq_some_iff.1 hd8).1 ?_).trans hd8;intro e;obtain ⟨cs,h⟩:=qfm q2 gD e.symm;rw [hd8] at h;cases h
 obtain ⟨a9,c9,rfl⟩:∃a9 c9,v9=.slice a9 (d.2.1.length+1) c9:=by
  rcases hown9.2 with ⟨_,h⟩ | ⟨g,cap,cur,h,_⟩
  ·exact absurd h (by omega)
  ·exact ⟨_,_,h⟩
 refine ⟨a9,c9,w9,hrun9, ?_,hd9,fun ws hs hws=>Dp.waited (w:=w7) hB hB2 (Nat.le_trans hB3 hb8.size) hgD hd8 (h1.carry hb8) q1 q2 q3 (h3.carry hb8) (hp.carry hb8) hown9 hg9 hs hws⟩
 have:=qbz hb8
 exact ⟨hg9.os.trans this.os,hg9.tape.trans this.tape,hg9.output.trans this.output,Nat.le_trans this.size hg9.size,fun i hi hr=>(hg9.block i (Nat.lt_of_lt_of_le hi this.size) hr).trans (this.block i hi (by simp))⟩
theorem qr8 {w7:World} {base gD B g0 cap:Nat} {a2 a3:Option Addr} {c2 c3:Nat} {d:Dk} {s:Bool} {N:Int} {l:List UInt8} {p7:Option Addr} {k7:Nat}
  (hB:base≤g0) (hB2:g0<B) (hB3:B≤w7.heap.size) (hgD:base≤gD)
  (hd:w7.heap[gD]? =some (.cells #[.slice (some ⟨g0,0,none⟩) d.1.length cap,.slice a2 d.2.1.length c2,.slice a3 d.2.2.length c3] 27 (0,0)))
  (h1:OwB w7 base (.slice (some ⟨g0,0,none⟩) d.1.length cap) d.1) (h2:OwW w7 B (.slice a2 d.2.1.length c2) d.2.1) (h3:OwA w7 B (.slice a3 d.2.2.length c3) d.2.2) (hp:OwB w7 B (.slice p7 l.length k7) l) (hl:d.2.2.length≤1000000):
  ∃a9 c9 w9,(Builtin.append_ #[25,25] 25 #[.slice a3 d.2.2.length c3,.slice (some ⟨w7.heap.size,0,none⟩) 1 1]).run Tryz.prog (w7.alloc (.cells #[.bool s,.int .i64 N,.slice p7 l.length k7] 103))=.ok (.slice a9 (d.2.2.length+1) c9) w9∧w7.grownBy w9 (Value.slice a3 d.2.2.length c3).ownBlock∧
   w9.heap[gD]? =some (.cells #[.slice (some ⟨g0,0,none⟩) d.1.length cap,.slice a2 d.2.1.length c2,.slice a3 d.2.2.length c3] 27 (0,0))∧
   ∀ws,w9.grownBy ws (some gD)→ws.heap[gD]? =some (.cells #[.slice (some ⟨g0,0,none⟩) d.1.length cap,.slice a2 d.2.1.length c2,.slice a9 (d.2.2.length+1) c9] 27 (0,0))→Dp ws base gD B (d.1,d.2.1,d.2.2++[(s,N,l)]):=by
 obtain ⟨w8,ew8⟩:∃w8,w8=w7.alloc (.cells #[.bool s,.int .i64 N,.slice p7 l.length k7] 103):=⟨_,rfl⟩;rw [←ew8]
 have hb8:Below w7.heap.size w7 w8:=by rw [ew8];exact (Below.refl _ _).alloc (Nat.le_refl _) _
 have hn8:∀j u,([Value.bool s,.int .i64 N,.slice p7 l.length k7]:List Value)[j]? =some u→w8.cell? ((⟨w7.heap.size,0,none⟩:Addr).add j)=some u:=by
  intro j u hj;rw [ew8]
  have:=World.news_of_block (w:=w7.alloc (.cells #[.bool s,.int .i64 N,.slice p7 l.length k7] 103)) (heap_alloc_new w7 _) j u (by simpa using hj)
  simpa using this
 obtain ⟨i0,hi,hz0,hz1,hz2⟩:=info_parts Tryz.infoAct;obtain ⟨z,q1,q2,q3⟩:=h3.carry hb8;obtain ⟨v9,w9,hrun9,hown9,hg9,_⟩:=run_append_own (P:=Tryz.prog) w8 B 25 25 103 i0 _ 3 40 Tryz.underlying25 hi hz0 hz1 hz2 rfl (by decide) _ _ _ q2 ⟨w7.heap.size,0,none⟩ 1 1 [.bool s,.int .i64 N,.slice p7 l.length k7] rfl hn8 (by intro u hu;simp at hu;rcases hu with rfl | rfl | rfl<;>rfl) (by unfold maxLen;omega) (by omega) (Nat.le_trans hB3 hb8.size);have hd8:=qag _ _ _ _ hd hb8
 have hd9:w9.heap[gD]? =some (.cells #[.slice (some ⟨g0,0,none⟩) d.1.length cap,.slice a2 d.2.1.length c2,.slice a3 d.2.2.length c3] 27 (0,0)):=by
  refine (hg9.block gD (Array.getElem?_eq_some_iff.1 hd8).1 ?_).trans hd8;intro e;obtain ⟨cs,h⟩:=qfm q2 gD e.symm;rw [hd8] at h;cases h
 obtain ⟨a9,c9,rfl⟩:∃a9 c9,v9=.slice a9 (d.2.2.length+1) c9:=by
  rcases hown9.2 with ⟨_,h⟩ | ⟨g,cap,cur,h,_⟩
  ·exact absurd h (by omega)
  ·exact ⟨_,_,h⟩
 refine ⟨a9,c9,w9,hrun9, ?_,hd9,fun ws hs hws=>Dp.did (w:=w7) hB hB2 (Nat.le_trans hB3 hb8.size) hgD hd8 (h1.carry hb8) q1 q2 q3 (h2.carry hb8) (hp.carry hb8) hown9 hg9 hs hws⟩
 have:=qbz hb8
 exact ⟨hg9.os.trans this.os,hg9.tape.trans this.tape,hg9.output.trans this.output,Nat.le_trans this.size hg9.size,fun i hi hr=>(hg9.block i (Nat.lt_of_lt_of_le hi this.size) hr).trans (this.block i hi (by simp))⟩
end Go.Proofs.YtpkdiododlhipaaGreat

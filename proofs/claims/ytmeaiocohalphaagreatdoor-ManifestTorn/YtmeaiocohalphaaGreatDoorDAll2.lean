/-
  What dev's Clear, New and Many do.
-/
import Derived.Test.YtmeaiocohalphaaGreatDoorDDo
set_option maxHeartbeats 1000000
set_option maxRecDepth 100000
namespace Go.Proofs.YtmeaiocohalphaaGreatDoor
open Go.RowKit
set_option linter.all false
def qeq (d:Dk):Dk × Int:=if chk d≠0 then (dz,chk d) else ((d.1,d.2.1,[]),0)
def newD (n:Int):Dk × Int:=if n<1∨4096<n then (dz,20) else ((List.replicate (n.toNat*128) 0,[],[]),0)
theorem qzl (w:World) (s:Bool) (N:Int) (x:Value) (l:List UInt8) (h:Rd w x l):RdA (w.alloc (.cells #[.bool s,.int .i64 N,x] 206)) (.slice (some ⟨w.heap.size,0,none⟩) 1 1) [(s,N,l)]:=by
 refine .inr ⟨w.heap.size,0,1,rfl,Nat.le_refl _,by unfold maxLen;decide,fun j hj=>?_⟩
 obtain rfl:j=0:=by simpa using hj
 exact ⟨by simp,by simp,x,by simp,h.alloc _⟩
theorem OwD.form {w:World} {base:Nat} {v:Value} {d:Dk} (h:OwD w base v d):∃a1 c1 a2 c2 a3 c3,v=.agg #[.slice a1 d.1.length c1,.slice a2 d.2.1.length c2,.slice a3 d.2.2.length c3]:=by
 obtain ⟨a1,c1,a2,c2,a3,c3,e,_⟩:=h.rd.form;exact ⟨a1,c1,a2,c2,a3,c3,e⟩
theorem qzm {d:Dk} {v:Value} (N:Int) (x:Option Addr) (m c:Nat) (l:List UInt8) (w:World) (hD:RdD w v d) (hrd:Rd w (.slice x m c) l):
  Calls Tryz.prog 228 #[v,.int .i64 N,.slice x m c] w fun e w'=>∃dv,e=.returned (.tuple #[dv,.int .i64 (doD d [(false,N,l)] 1).2])∧OwD w' w.heap.size dv (doD d [(false,N,l)] 1).1∧Below w.heap.size w w':=by
 obtain ⟨a1,c1,a2,c2,a3,c3,rfl,_,_,_⟩:=hD.form;have HD:=hide hD;clear hD;have HR:=hide hrd;clear hrd;obtain ⟨w1,ew⟩:∃w1,(w.alloc (.cells #[.slice a1 d.1.length c1,.slice a2 d.2.1.length c2,.slice a3 d.2.2.length c3] 27)).alloc (.cells #[.slice none 0 0,.slice none 0 0,.slice none 0 0] 27)=w1:=⟨_,rfl⟩
 have hb1:Below w.heap.size w w1:=by rw [←ew];exact ((Below.refl _ _).alloc (Nat.le_refl _) _).alloc (by simp) _
 have k0:w1.cell? ⟨w.heap.size,0,none⟩=some (.slice a1 d.1.length c1):=by rw [←ew];simp
 have k1:w1.cell? ⟨w.heap.size,1,none⟩=some (.slice a2 d.2.1.length c2):=by rw [←ew];simp
 have k2:w1.cell? ⟨w.heap.size,2,none⟩=some (.slice a3 d.2.2.length c3):=by rw [←ew];simp
 have hr1:w1.heap[w.heap.size+1]? =some (.cells #[.slice none 0 0,.slice none 0 0,.slice none 0 0] 27 (0,0)):=by rw [←ew];exact qb9 _ _ _
 have hs1:w.heap.size+2≤w1.heap.size:=by rw [←ew];simp
 have hl:=qzl w1 false N (.slice x m c) l (HR.out.carry hb1);obtain ⟨w2,ew2⟩:∃w2,w1.alloc (.cells #[.bool false,.int .i64 N,.slice x m c] 206)=w2:=⟨_,rfl⟩;rw [ew2] at hl;have HL:=hide hl
 have hb2:Below w1.heap.size w1 w2:=by rw [←ew2];exact (Below.refl _ _).alloc (Nat.le_refl _) _
 have hB2:Below w.heap.size w w2:=hb1.trans (hb2.mono hb1.size);have hr2:=qaj _ _ _ _ hr1 hb2;have hs2:=Nat.le_trans hs1 hb2.size;clear hl hb2 hr1 hs1
 go_enter Tryz.func228,Tryz.ntmps228
 go_wp2_with fail
 refine (qqt (d:=d) [(false,N,l)] _ 1 1 1 _ (HD.out.carry hB2) HL.out rfl).mono ?_
 clear ew ew2 k0 k1 k2;rintro e w3 ⟨dv,rfl,hO,hb3⟩;obtain ⟨p1,t1,p2,t2,p3,t3,rfl⟩:=hO.form;have hB3:Below w.heap.size w w3:=hB2.trans (hb3.mono hB2.size);have hr3:=qaj _ _ _ _ hr2 hb3;obtain ⟨r,er⟩:∃r,r=doD d [(false,N,l)] 1:=⟨_,rfl⟩;have HE:=hide er;rw [←er] at hO ⊢;clear er;obtain ⟨ws,ews,hws,hgs⟩:=qbh (.slice p1 r.1.1.length t1) (.slice p2 r.1.2.1.length t2) (.slice p3 r.1.2.2.length t3) hr3;obtain ⟨z1,z2,z3,z4⟩:=cells3 hr3;obtain ⟨q1,q2,q3,q4⟩:=cells3 hws;have hbs:=hB3.grown hgs hB3.size (fun k hk=>by cases hk;simp);have HO:=hide ((hO.grown hgs (by omega)).mono (by omega):OwD ws w.heap.size _ _);clear hws hgs hO hb3 hr3;go_wp2
 refine bodyPost_ret (v:=.tuple #[.agg #[.slice p1 r.1.1.length t1,.slice p2 r.1.2.1.length t2,.slice p3 r.1.2.2.length t3],.int .i64 r.2]) ?_ rfl ?_
 ·simp [results,Tryz.results228,go_sem, *]
 ·rw [←HE.out];exact ⟨_,rfl,HO.out,hbs⟩
theorem qaem {d:Dk} {v:Value} (w:World) (hD:RdD w v d):
  Calls Tryz.prog 166 #[v] w fun e w'=>∃dv,e=.returned (.tuple #[dv,.int .i64 (doD d [(true,0,[])] 1).2])∧OwD w' w.heap.size dv (doD d [(true,0,[])] 1).1∧Below w.heap.size w w':=by
 obtain ⟨a1,c1,a2,c2,a3,c3,rfl,_,_,_⟩:=hD.form;have HD:=hide hD;clear hD;obtain ⟨w1,ew⟩:∃w1,(w.alloc (.cells #[.slice a1 d.1.length c1,.slice a2 d.2.1.length c2,.slice a3 d.2.2.length c3] 27)).alloc (.cells #[.slice none 0 0,.slice none 0 0,.slice none 0 0] 27)=w1:=⟨_,rfl⟩
 have hb1:Below w.heap.size w w1:=by rw [←ew];exact ((Below.refl _ _).alloc (Nat.le_refl _) _).alloc (by simp) _
 have k0:w1.cell? ⟨w.heap.size,0,none⟩=some (.slice a1 d.1.length c1):=by rw [←ew];simp
 have k1:w1.cell? ⟨w.heap.size,1,none⟩=some (.slice a2 d.2.1.length c2):=by rw [←ew];simp
 have k2:w1.cell? ⟨w.heap.size,2,none⟩=some (.slice a3 d.2.2.length c3):=by rw [←ew];simp
 have hr1:w1.heap[w.heap.size+1]? =some (.cells #[.slice none 0 0,.slice none 0 0,.slice none 0 0] 27 (0,0)):=by rw [←ew];exact qb9 _ _ _
 have hs1:w.heap.size+2≤w1.heap.size:=by rw [←ew];simp
 have hl:=qzl w1 true 0 (.slice none 0 0) [] (.inl ⟨rfl,.inl rfl⟩);obtain ⟨w2,ew2⟩:∃w2,w1.alloc (.cells #[.bool true,.int .i64 0,.slice none 0 0] 206)=w2:=⟨_,rfl⟩;rw [ew2] at hl;have HL:=hide hl
 have hb2:Below w1.heap.size w1 w2:=by rw [←ew2];exact (Below.refl _ _).alloc (Nat.le_refl _) _
 have hB2:Below w.heap.size w w2:=hb1.trans (hb2.mono hb1.size);have hr2:=qaj _ _ _ _ hr1 hb2;have hs2:=Nat.le_trans hs1 hb2.size;clear hl hb2 hr1 hs1
 go_enter Tryz.func166,Tryz.ntmps166
 go_wp2_with fail
 refine (qqt (d:=d) [(true,0,[])] _ 1 1 1 _ (HD.out.carry hB2) HL.out rfl).mono ?_
 clear ew ew2 k0 k1 k2;rintro e w3 ⟨dv,rfl,hO,hb3⟩;obtain ⟨p1,t1,p2,t2,p3,t3,rfl⟩:=hO.form;have hB3:Below w.heap.size w w3:=hB2.trans (hb3.mono hB2.size);have hr3:=qaj _ _ _ _ hr2 hb3;obtain ⟨r,er⟩:∃r,r=doD d [(true,0,[])] 1:=⟨_,rfl⟩;have HE:=hide er;rw [←er] at hO ⊢;clear er;obtain ⟨ws,ews,hws,hgs⟩:=qbh (.slice p1 r.1.1.length t1) (.slice p2 r.1.2.1.length t2) (.slice p3 r.1.2.2.length t3) hr3;obtain ⟨z1,z2,z3,z4⟩:=cells3 hr3;obtain ⟨q1,q2,q3,q4⟩:=cells3 hws;have hbs:=hB3.grown hgs hB3.size (fun k hk=>by cases hk;simp);have HO:=hide ((hO.grown hgs (by omega)).mono (by omega):OwD ws w.heap.size _ _);clear hws hgs hO hb3 hr3;go_wp2
 refine bodyPost_ret (v:=.tuple #[.agg #[.slice p1 r.1.1.length t1,.slice p2 r.1.2.1.length t2,.slice p3 r.1.2.2.length t3],.int .i64 r.2]) ?_ rfl ?_
 ·simp [results,Tryz.results166,go_sem, *]
 ·rw [←HE.out];exact ⟨_,rfl,HO.out,hbs⟩
theorem qqu {d:Dk} {v:Value} (w:World) (hD:RdD w v d):
  Calls Tryz.prog 80 #[v] w fun e w'=>∃dv,e=.returned (.tuple #[dv,.int .i64 (qeq d).2])∧OwD w' w.heap.size dv (qeq d).1∧Below w.heap.size w w':=by
 obtain ⟨a1,c1,a2,c2,a3,c3,rfl,_,_,_⟩:=hD.form;have HD:=hide hD;clear hD;obtain ⟨w1,ew⟩:∃w1,(w.alloc (.cells #[.slice a1 d.1.length c1,.slice a2 d.2.1.length c2,.slice a3 d.2.2.length c3] 27)).alloc (.cells #[.slice none 0 0,.slice none 0 0,.slice none 0 0] 27)=w1:=⟨_,rfl⟩
 have hb1:Below w.heap.size w w1:=by rw [←ew];exact ((Below.refl _ _).alloc (Nat.le_refl _) _).alloc (by simp) _
 have k0:w1.cell? ⟨w.heap.size,0,none⟩=some (.slice a1 d.1.length c1):=by rw [←ew];simp
 have k1:w1.cell? ⟨w.heap.size,1,none⟩=some (.slice a2 d.2.1.length c2):=by rw [←ew];simp
 have k2:w1.cell? ⟨w.heap.size,2,none⟩=some (.slice a3 d.2.2.length c3):=by rw [←ew];simp
 have hr1:w1.heap[w.heap.size+1]? =some (.cells #[.slice none 0 0,.slice none 0 0,.slice none 0 0] 27 (0,0)):=by rw [←ew];exact qb9 _ _ _
 have hs1:w.heap.size+2≤w1.heap.size:=by rw [←ew];simp
 go_enter Tryz.func80,Tryz.ntmps80
 go_wp2_with fail
 refine (qf6 (d:=d) _ (HD.out.carry hb1)).mono ?_
 rintro e w2 ⟨rfl,hb2⟩;have hB2:Below w.heap.size w w2:=hb1.trans (hb2.mono hb1.size);have k0':=qaa _ _ _ _ k0 hb2;have k1':=qaa _ _ _ _ k1 hb2;have k2':=qaa _ _ _ _ k2 hb2;have hr2:=qaj _ _ _ _ hr1 hb2;have hs2:=Nat.le_trans hs1 hb2.size;clear ew k0 k1 k2 hr1 hb1 hb2 hs1
 rcases qei d with ⟨hok,hck⟩ | ⟨hok,hck⟩
 ·rw [hck]
  obtain ⟨hfine,hc1,hc2⟩:=Fine.of_ok hok;have HE:=hide (show qeq d=((d.1,d.2.1,[]),0) by unfold qeq;rw [if_neg (by rw [hck];decide)]);obtain ⟨_,_,_,eD,h1,h2,_⟩:=HD.out;cases eD;have H1:=hide h1;have H2:=hide h2;have B1:=hide (show d.1.length≤1000000000 by have:=hfine.1;omega);have B2:=hide (show d.2.1.length≤1000000 by have:=hfine.2.1;omega);have D2:=hide (show ∀p∈d.2.1,p.2.length≤1000000000 from fun p hp=>by have:=qda (hfine.2.2.2 p hp);omega);clear h1 h2 hfine hck hok;go_wp2;have hK:Keeps (fun wx=>wx.cell? ⟨w.heap.size,0,none⟩=some (.slice a1 d.1.length c1)∧wx.cell? ⟨w.heap.size,1,none⟩=some (.slice a2 d.2.1.length c2)∧wx.cell? ⟨w.heap.size,2,none⟩=some (.slice a3 d.2.2.length c3)∧(∃y1 y2 y3,wx.heap[w.heap.size+1]? =some (.cells #[y1,y2,y3] 27 (0,0)))∧Below w.heap.size w wx∧w.heap.size+2≤wx.heap.size):=(qaa _ _).and ((qaa _ _).and ((qaa _ _).and ((qf1 _ _).and ((qbl w).and (qgp _)))))
  refine qay hK (by kernel_rfl) ⟨k0',k1',k2',⟨_,_,_,hr2⟩,hB2,hs2⟩ ?_
  intro hS
  refine qai [0,1,3,4] (fuel:=5) (a':=?zp1a) (by kernel_rfl) (by kernel_rfl) (by kernel_rfl) ?zp1p hS ?zp1n
  case zp1p=>
   iterate 4 (apply Yl.cons rfl (by kernel_rfl);focus (rintro wx ⟨x1,x2,x2',x3,x4,x5⟩;go_simp;all_goals (with_reducible rfl));try simp only [Act.put,sA,sB,sC])
   exact Yl.nil
  refine qco hK (i:=2) (R:=fun v wy=>OwB wy (w.heap.size+2) v d.1) rfl (by kernel_rfl) (by rfl) (by go_simp) hS ((qf0 a1 c1 _ d.1 _ rfl B1.out (H1.out.carry hS.2.2.2.2.1)).mono fun e w1 ⟨v,h1,h2,h3⟩=>⟨v,h1,h2.mono hS.2.2.2.2.2,h3⟩) (fun v _ _ h hb=>h.carry hb) ?_
  intro v13 w13 hKn hRn hSn;clear hK hS;have hK:=hKn;have hS:=hSn;clear hKn hSn;obtain ⟨p5,k5,rfl⟩:=hRn.form
  try simp only [Act.put,sA,sB,sC]
  refine qco hK (i:=5) (R:=fun v wy=>OwW wy (w.heap.size+2) v d.2.1) rfl (by kernel_rfl) (by rfl) (by go_simp) hS ((qjl a2 _ c2 d.2.1 _ rfl B2.out D2.out (H2.out.carry hS.1.2.2.2.2.1)).mono fun e w1 ⟨v,h1,h2,h3⟩=>⟨v,h1,h2.mono hS.1.2.2.2.2.2,h3⟩) (fun v _ _ h hb=>h.carry hb) ?_
  intro v16 w16 hKn hRn hSn;clear hK hS;have hK:=hKn;have hS:=hSn;clear hKn hSn;obtain ⟨p8,k8,rfl⟩:=hRn.rd.form
  try simp only [Act.put,sA,sB,sC]
  refine qa9 (i:=6) (v:=?qav6) rfl (by kernel_rfl) (by kernel_rfl) (by kernel_rfl) (by rfl) ?qay6 hS ?qar6
  case qay6=>(rintro wx ⟨⟨⟨x1,x2,x2',x3,x4,x5⟩,_⟩,_⟩;go_simp;all_goals (with_reducible rfl))
  try simp only [Act.put,sA,sB,sC]
  obtain ⟨⟨⟨x1,x2,x2',⟨y1,y2,y3,x3⟩,x4,x5⟩,r1⟩,r2⟩:=hS;obtain ⟨ws,ews,hws,hgs⟩:=qbh (.slice p5 d.1.length k5) (.slice p8 d.2.1.length k8) (.slice none 0 0) x3;obtain ⟨z1,z2,z3,z4⟩:=cells3 x3;have hSn:((fun wx=>wx.cell? ⟨w.heap.size,0,none⟩=some (.slice a1 d.1.length c1)∧wx.cell? ⟨w.heap.size,1,none⟩=some (.slice a2 d.2.1.length c2)∧wx.cell? ⟨w.heap.size,2,none⟩=some (.slice a3 d.2.2.length c3)∧(∃y1 y2 y3,wx.heap[w.heap.size+1]? =some (.cells #[y1,y2,y3] 27 (0,0)))∧Below w.heap.size w wx∧w.heap.size+2≤wx.heap.size) ws∧OwB ws (w.heap.size+2) (.slice p5 d.1.length k5) d.1)∧OwW ws (w.heap.size+2) (.slice p8 d.2.1.length k8) d.2.1:=⟨⟨⟨hgs.cell x1 (by simp),hgs.cell x2 (by simp),hgs.cell x2' (by simp),⟨_,_,_,hws⟩,x4.grown hgs x4.size (fun k hk=>by cases hk;simp),Nat.le_trans x5 hgs.size⟩,r1.grown hgs (by simp)⟩,r2.grown hgs (by simp)⟩
  refine qcg (i:=7) (w':=ws) rfl (by kernel_rfl) (by rfl) (by rw [←ews];go_simp) hSn ?_
  have hS:=hSn;clear hSn
  try simp only [Act.put,sA,sB,sC]
  refine qa9 (i:=8) (v:=?qav8) rfl (by kernel_rfl) (by kernel_rfl) (by kernel_rfl) (by rfl) ?qay8 hS ?qar8
  case qay8=>(rintro wx ⟨⟨⟨x1,x2,x2',x3,x4,x5⟩,_⟩,_⟩;go_simp;all_goals (with_reducible rfl))
  try simp only [Act.put,sA,sB,sC]
  refine wpAnyH_done (by kernel_rfl) ?_ _
  refine NoPanic.normal ?_
  have o1:=r1.grown hgs (by simp);have o2:=r2.grown hgs (by simp);have hb:Below w.heap.size w ws:=x4.grown hgs x4.size (fun k hk=>by cases hk;simp);obtain ⟨q1,q2,q3,_⟩:=cells3 hws;have HO:Hid (OwD ws w.heap.size (.agg #[.slice p5 d.1.length k5,.slice p8 d.2.1.length k8,.slice none 0 0]) (d.1,d.2.1,[])):=⟨_,_,_,rfl,o1.mono (by omega),o2.mono (by omega),⟨[],rfl,World.ownsRow_nil _ _ _ _,by simp⟩⟩;clear ews hS o1 o2 hK hgs hws r1 r2;go_wp2
  refine bodyPost_ret (v:=.tuple #[.agg #[.slice p5 d.1.length k5,.slice p8 d.2.1.length k8,.slice none 0 0],.int .i64 0]) ?_ rfl ?_
  ·simp [results,Tryz.results80,go_sem, *]
  ·rw [HE.out];exact ⟨_,rfl,HO.out,hb⟩
 ·rw [hck]
  have HE:=hide (show qeq d=(dz,20) by unfold qeq;rw [if_pos (by rw [hck];decide),hck]);clear hck hok;obtain ⟨ws,ews,hws,hgs⟩:=qbh (.slice none 0 0) (.slice none 0 0) (.slice none 0 0) hr2;obtain ⟨z1,z2,z3,z4⟩:=cells3 hr2;obtain ⟨q1,q2,q3,q4⟩:=cells3 hws;have hbs:=hB2.grown hgs hB2.size (fun k hk=>by cases hk;simp);clear hws hgs;go_wp2
  refine bodyPost_ret (v:=.tuple #[.agg #[.slice none 0 0,.slice none 0 0,.slice none 0 0],.int .i64 20]) ?_ rfl ?_
  ·simp [results,Tryz.results80,go_sem, *]
  ·rw [HE.out];exact ⟨_,rfl,qbr _ _,hbs⟩
theorem qajw (n:Int) (w:World):
  Calls Tryz.prog 37 #[.int .i64 n] w fun e w'=>∃dv,e=.returned (.tuple #[dv,.int .i64 (newD n).2])∧OwD w' w.heap.size dv (newD n).1∧Below w.heap.size w w':=by
 obtain ⟨w1,ew⟩:∃w1,w.alloc (.cells #[.slice none 0 0,.slice none 0 0,.slice none 0 0] 27)=w1:=⟨_,rfl⟩
 have hb1:Below w.heap.size w w1:=by rw [←ew];exact (Below.refl _ _).alloc (Nat.le_refl _) _
 have hr1:w1.heap[w.heap.size]? =some (.cells #[.slice none 0 0,.slice none 0 0,.slice none 0 0] 27 (0,0)):=by rw [←ew];exact heap_alloc_new _ _
 have hs1:w1.heap.size=w.heap.size+1:=by rw [←ew];simp
 by_cases h0:n<1
 ·have HE:=hide (show newD n=(dz,20) by unfold newD;rw [if_pos (.inl h0)])
  clear hs1
  go_enter Tryz.func37,Tryz.ntmps37
  obtain ⟨ws,ews,hws,hgs⟩:=qbh (.slice none 0 0) (.slice none 0 0) (.slice none 0 0) hr1;obtain ⟨z1,z2,z3,z4⟩:=cells3 hr1;obtain ⟨q1,q2,q3,q4⟩:=cells3 hws;have hbs:=hb1.grown hgs hb1.size (fun k hk=>by cases hk;exact Nat.le_refl _);clear hws hgs;go_wp2
  refine bodyPost_ret (v:=.tuple #[.agg #[.slice none 0 0,.slice none 0 0,.slice none 0 0],.int .i64 20]) ?_ rfl ?_
  ·simp [results,Tryz.results37,go_sem, *]
  ·rw [HE.out];exact ⟨_,rfl,qbr _ _,hbs⟩
 ·have h0':decide (n<1)=false:=by simpa using h0
  by_cases h1:4096<n
  ·have HE:=hide (show newD n=(dz,20) by unfold newD;rw [if_pos (.inr h1)])
   clear hs1
   go_enter Tryz.func37,Tryz.ntmps37
   obtain ⟨ws,ews,hws,hgs⟩:=qbh (.slice none 0 0) (.slice none 0 0) (.slice none 0 0) hr1;obtain ⟨z1,z2,z3,z4⟩:=cells3 hr1;obtain ⟨q1,q2,q3,q4⟩:=cells3 hws;have hbs:=hb1.grown hgs hb1.size (fun k hk=>by cases hk;exact Nat.le_refl _);clear hws hgs;go_wp2
   refine bodyPost_ret (v:=.tuple #[.agg #[.slice none 0 0,.slice none 0 0,.slice none 0 0],.int .i64 20]) ?_ rfl ?_
   ·simp [results,Tryz.results37,go_sem, *]
   ·rw [HE.out];exact ⟨_,rfl,qbr _ _,hbs⟩
  ·have h1':decide (4096<n)=false:=by simpa using h1
   obtain ⟨k,rfl⟩:∃k:Nat,n=k:=⟨n.toNat,by omega⟩;have HE:=hide (show newD k=((List.replicate (k*128) 0,[],[]),0) by unfold newD;rw [if_neg (by omega)];rfl)
   have hw:wrap64 ((k:Int)*128)=((k*128:Nat):Int):=by unfold wrap64;omega
   obtain ⟨i0,hi,hz0,hz1,hz2⟩:=info_parts Tryz.infoB;obtain ⟨w2,hmake,hown2,hg2⟩:=run_make_full (P:=Tryz.prog) w1 w1.heap.size 23 5 i0 _ 1 Tryz.underlying23 hi hz0 hz1 .i64 .i64 (k*128) (by rw [hz2];omega) (by unfold maxLen;omega) (Nat.le_refl _);have hb2:Below w1.heap.size w1 w2:=(Below.refl _ _).grown hg2 (Nat.le_refl _) (fun k hk=>by cases hk)
   have hO2:OwB w2 w1.heap.size (.slice (some ⟨w1.heap.size,0,none⟩) (k*128) (k*128)) (List.replicate (k*128) 0):=by
    show w2.ownsRow _ _ _ _ _ _
    rw [List.length_replicate]
    have e:(madeCells (Value.int IntKind.u8 0).cells (k*128*1)).toList=u8v (List.replicate (k*128) 0):=by
     show (madeCells #[Value.int .u8 0] (k*128*1)).toList=_
     rw [toList_madeCells_one]
     simp [u8v]
    rw [←e];exact hown2
   have hr2:=qaj _ _ _ _ hr1 hb2;have hB2:Below w.heap.size w w2:=hb1.trans (hb2.mono hb1.size);obtain ⟨ws,ews,hws,hgs⟩:=qbh (.slice (some ⟨w1.heap.size,0,none⟩) (k*128) (k*128)) (.slice none 0 0) (.slice none 0 0) hr2;obtain ⟨z1,z2,z3,z4⟩:=cells3 hr2;obtain ⟨q1,q2,q3,q4⟩:=cells3 hws;have hbs:=hB2.grown hgs hB2.size (fun k hk=>by cases hk;exact Nat.le_refl _);have HO:Hid (OwD ws w.heap.size (.agg #[.slice (some ⟨w1.heap.size,0,none⟩) (k*128) (k*128),.slice none 0 0,.slice none 0 0]) (List.replicate (k*128) 0,[],[])):=⟨_,_,_,rfl,(hO2.grown hgs (by omega)).mono (by omega),⟨[],rfl,World.ownsRow_nil _ _ _ _,by simp⟩,⟨[],rfl,World.ownsRow_nil _ _ _ _,by simp⟩⟩;rw [show ((k*128:Nat):Int)=(k:Int)*128 by omega] at hmake;clear hs1 hi hz0 hz1 hz2 hown2 hg2 hb2 hO2 hr2 hws hgs hr1 hB2 hw
   go_enter Tryz.func37,Tryz.ntmps37
   go_wp2
   refine bodyPost_ret (v:=.tuple #[.agg #[.slice (some ⟨w1.heap.size,0,none⟩) (k*128) (k*128),.slice none 0 0,.slice none 0 0],.int .i64 0]) ?_ rfl ?_
   ·simp [results,Tryz.results37,go_sem, *]
   ·rw [HE.out];exact ⟨_,rfl,HO.out,hbs⟩
end Go.Proofs.YtmeaiocohalphaaGreatDoor

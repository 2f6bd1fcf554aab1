/-
  Plain mathematics for the statements of layer 2: what acts leave.
-/
import Derived.Test.YthilibleedbchaaGreatDDo
set_option maxHeartbeats 1000000
set_option maxRecDepth 100000
namespace Go.Proofs.YthilibleedbchaaGreat
open Go.RowKit
set_option linter.all false
def qf2 (d:Dk):Dk × Int:=if chk d≠0 then (dz,chk d) else ((d.1,d.2.1,[]),0)
def newD (n:Int):Dk × Int:=if n<1∨4096<n then (dz,20) else ((List.replicate (n.toNat*128) 0,[],[]),0)
theorem qxo (w:World) (s:Bool) (N:Int) (x:Value) (l:List UInt8) (h:Rd w x l):RdA (w.alloc (.cells #[.bool s,.int .i64 N,x] 161)) (.slice (some ⟨w.heap.size,0,none⟩) 1 1) [(s,N,l)]:=by
 refine .inr ⟨w.heap.size,0,1,rfl,Nat.le_refl _,by unfold maxLen;decide,fun j hj=>?_⟩
 obtain rfl:j=0:=by simpa using hj
 exact ⟨by simp,by simp,x,by simp,h.alloc _⟩
theorem OwD.form {w:World} {base:Nat} {v:Value} {d:Dk} (h:OwD w base v d):∃a1 c1 a2 c2 a3 c3,v=.agg #[.slice a1 d.1.length c1,.slice a2 d.2.1.length c2,.slice a3 d.2.2.length c3]:=by
 obtain ⟨a1,c1,a2,c2,a3,c3,e,_⟩:=h.rd.form;exact ⟨a1,c1,a2,c2,a3,c3,e⟩
theorem qxp {d:Dk} {v:Value} (N:Int) (x:Option Addr) (m c:Nat) (l:List UInt8) (w:World) (hD:RdD w v d) (hrd:Rd w (.slice x m c) l):
  Calls Tryz.prog 205 #[v,.int .i64 N,.slice x m c] w fun e w'=>∃dv,e=.returned (.tuple #[dv,.int .i64 (doD d [(false,N,l)] 1).2])∧OwD w' w.heap.size dv (doD d [(false,N,l)] 1).1∧Below w.heap.size w w':=by
 obtain ⟨a1,c1,a2,c2,a3,c3,rfl,_,_,_⟩:=hD.form;have HD:=hide hD;clear hD;have HR:=hide hrd;clear hrd;obtain ⟨w1,ew⟩:∃w1,(w.alloc (.cells #[.slice a1 d.1.length c1,.slice a2 d.2.1.length c2,.slice a3 d.2.2.length c3] 26)).alloc (.cells #[.slice none 0 0,.slice none 0 0,.slice none 0 0] 26)=w1:=⟨_,rfl⟩
 have hb1:Below w.heap.size w w1:=by rw [←ew];exact ((Below.refl _ _).alloc (Nat.le_refl _) _).alloc (by simp) _
 have k0:w1.cell? ⟨w.heap.size,0,none⟩=some (.slice a1 d.1.length c1):=by rw [←ew];simp
 have k1:w1.cell? ⟨w.heap.size,1,none⟩=some (.slice a2 d.2.1.length c2):=by rw [←ew];simp
 have k2:w1.cell? ⟨w.heap.size,2,none⟩=some (.slice a3 d.2.2.length c3):=by rw [←ew];simp
 have hr1:w1.heap[w.heap.size+1]? =some (.cells #[.slice none 0 0,.slice none 0 0,.slice none 0 0] 26 (0,0)):=by rw [←ew];exact qau _ _ _
 have hs1:w.heap.size+2≤w1.heap.size:=by rw [←ew];simp
 have hl:=qxo w1 false N (.slice x m c) l (HR.out.carry hb1);obtain ⟨w2,ew2⟩:∃w2,w1.alloc (.cells #[.bool false,.int .i64 N,.slice x m c] 161)=w2:=⟨_,rfl⟩;rw [ew2] at hl;have HL:=hide hl
 have hb2:Below w1.heap.size w1 w2:=by rw [←ew2];exact (Below.refl _ _).alloc (Nat.le_refl _) _
 have hB2:Below w.heap.size w w2:=hb1.trans (hb2.mono hb1.size);have hr2:=qac _ _ _ _ hr1 hb2;have hs2:=Nat.le_trans hs1 hb2.size;clear hl hb2 hr1 hs1
 go_enter Tryz.func205,Tryz.ntmps205
 go_wp2_with fail
 refine (qxn (d:=d) [(false,N,l)] _ 1 1 1 _ (HD.out.carry hB2) HL.out rfl).mono ?_
 clear ew ew2 k0 k1 k2;rintro e w3 ⟨dv,rfl,hO,hb3⟩;obtain ⟨p1,t1,p2,t2,p3,t3,rfl⟩:=hO.form;have hB3:Below w.heap.size w w3:=hB2.trans (hb3.mono hB2.size);have hr3:=qac _ _ _ _ hr2 hb3;obtain ⟨r,er⟩:∃r,r=doD d [(false,N,l)] 1:=⟨_,rfl⟩;have HE:=hide er;rw [←er] at hO ⊢;clear er;obtain ⟨ws,ews,hws,hgs⟩:=qbi (.slice p1 r.1.1.length t1) (.slice p2 r.1.2.1.length t2) (.slice p3 r.1.2.2.length t3) hr3;obtain ⟨z1,z2,z3,z4⟩:=cells3 hr3;obtain ⟨q1,q2,q3,q4⟩:=cells3 hws;have hbs:=hB3.grown hgs hB3.size (fun k hk=>by cases hk;simp);have HO:=hide ((hO.grown hgs (by omega)).mono (by omega):OwD ws w.heap.size _ _);clear hws hgs hO hb3 hr3;go_wp2
 refine bodyPost_ret (v:=.tuple #[.agg #[.slice p1 r.1.1.length t1,.slice p2 r.1.2.1.length t2,.slice p3 r.1.2.2.length t3],.int .i64 r.2]) ?_ rfl ?_
 ·simp [results,Tryz.results205,go_sem, *]
 ·rw [←HE.out];exact ⟨_,rfl,HO.out,hbs⟩
theorem qabc {d:Dk} {v:Value} (w:World) (hD:RdD w v d):
  Calls Tryz.prog 108 #[v] w fun e w'=>∃dv,e=.returned (.tuple #[dv,.int .i64 (doD d [(true,0,[])] 1).2])∧OwD w' w.heap.size dv (doD d [(true,0,[])] 1).1∧Below w.heap.size w w':=by
 obtain ⟨a1,c1,a2,c2,a3,c3,rfl,_,_,_⟩:=hD.form;have HD:=hide hD;clear hD;obtain ⟨w1,ew⟩:∃w1,(w.alloc (.cells #[.slice a1 d.1.length c1,.slice a2 d.2.1.length c2,.slice a3 d.2.2.length c3] 26)).alloc (.cells #[.slice none 0 0,.slice none 0 0,.slice none 0 0] 26)=w1:=⟨_,rfl⟩
 have hb1:Below w.heap.size w w1:=by rw [←ew];exact ((Below.refl _ _).alloc (Nat.le_refl _) _).alloc (by simp) _
 have k0:w1.cell? ⟨w.heap.size,0,none⟩=some (.slice a1 d.1.length c1):=by rw [←ew];simp
 have k1:w1.cell? ⟨w.heap.size,1,none⟩=some (.slice a2 d.2.1.length c2):=by rw [←ew];simp
 have k2:w1.cell? ⟨w.heap.size,2,none⟩=some (.slice a3 d.2.2.length c3):=by rw [←ew];simp
 have hr1:w1.heap[w.heap.size+1]? =some (.cells #[.slice none 0 0,.slice none 0 0,.slice none 0 0] 26 (0,0)):=by rw [←ew];exact qau _ _ _
 have hs1:w.heap.size+2≤w1.heap.size:=by rw [←ew];simp
 have hl:=qxo w1 true 0 (.slice none 0 0) [] (.inl ⟨rfl,.inl rfl⟩);obtain ⟨w2,ew2⟩:∃w2,w1.alloc (.cells #[.bool true,.int .i64 0,.slice none 0 0] 161)=w2:=⟨_,rfl⟩;rw [ew2] at hl;have HL:=hide hl
 have hb2:Below w1.heap.size w1 w2:=by rw [←ew2];exact (Below.refl _ _).alloc (Nat.le_refl _) _
 have hB2:Below w.heap.size w w2:=hb1.trans (hb2.mono hb1.size);have hr2:=qac _ _ _ _ hr1 hb2;have hs2:=Nat.le_trans hs1 hb2.size;clear hl hb2 hr1 hs1
 go_enter Tryz.func108,Tryz.ntmps108
 go_wp2_with fail
 refine (qxn (d:=d) [(true,0,[])] _ 1 1 1 _ (HD.out.carry hB2) HL.out rfl).mono ?_
 clear ew ew2 k0 k1 k2;rintro e w3 ⟨dv,rfl,hO,hb3⟩;obtain ⟨p1,t1,p2,t2,p3,t3,rfl⟩:=hO.form;have hB3:Below w.heap.size w w3:=hB2.trans (hb3.mono hB2.size);have hr3:=qac _ _ _ _ hr2 hb3;obtain ⟨r,er⟩:∃r,r=doD d [(true,0,[])] 1:=⟨_,rfl⟩;have HE:=hide er;rw [←er] at hO ⊢;clear er;obtain ⟨ws,ews,hws,hgs⟩:=qbi (.slice p1 r.1.1.length t1) (.slice p2 r.1.2.1.length t2) (.slice p3 r.1.2.2.length t3) hr3;obtain ⟨z1,z2,z3,z4⟩:=cells3 hr3;obtain ⟨q1,q2,q3,q4⟩:=cells3 hws;have hbs:=hB3.grown hgs hB3.size (fun k hk=>by cases hk;simp);have HO:=hide ((hO.grown hgs (by omega)).mono (by omega):OwD ws w.heap.size _ _);clear hws hgs hO hb3 hr3;go_wp2
 refine bodyPost_ret (v:=.tuple #[.agg #[.slice p1 r.1.1.length t1,.slice p2 r.1.2.1.length t2,.slice p3 r.1.2.2.length t3],.int .i64 r.2]) ?_ rfl ?_
 ·simp [results,Tryz.results108,go_sem, *]
 ·rw [←HE.out];exact ⟨_,rfl,HO.out,hbs⟩
theorem qxq {d:Dk} {v:Value} (w:World) (hD:RdD w v d):
  Calls Tryz.prog 80 #[v] w fun e w'=>∃dv,e=.returned (.tuple #[dv,.int .i64 (qf2 d).2])∧OwD w' w.heap.size dv (qf2 d).1∧Below w.heap.size w w':=by
 obtain ⟨a1,c1,a2,c2,a3,c3,rfl,_,_,_⟩:=hD.form;have HD:=hide hD;clear hD;obtain ⟨w1,ew⟩:∃w1,(w.alloc (.cells #[.slice a1 d.1.length c1,.slice a2 d.2.1.length c2,.slice a3 d.2.2.length c3] 26)).alloc (.cells #[.slice none 0 0,.slice none 0 0,.slice none 0 0] 26)=w1:=⟨_,rfl⟩
 have hb1:Below w.heap.size w w1:=by rw [←ew];exact ((Below.refl _ _).alloc (Nat.le_refl _) _).alloc (by simp) _
 have k0:w1.cell? ⟨w.heap.size,0,none⟩=some (.slice a1 d.1.length c1):=by rw [←ew];simp
 have k1:w1.cell? ⟨w.heap.size,1,none⟩=some (.slice a2 d.2.1.length c2):=by rw [←ew];simp
 have k2:w1.cell? ⟨w.heap.size,2,none⟩=some (.slice a3 d.2.2.length c3):=by rw [←ew];simp
 have hr1:w1.heap[w.heap.size+1]? =some (.cells #[.slice none 0 0,.slice none 0 0,.slice none 0 0] 26 (0,0)):=by rw [←ew];exact qau _ _ _
 have hs1:w.heap.size+2≤w1.heap.size:=by rw [←ew];simp
 go_enter Tryz.func80,Tryz.ntmps80
 go_wp2_with fail
 refine (qk4 (d:=d) _ (HD.out.carry hb1)).mono ?_
 rintro e w2 ⟨rfl,hb2⟩;have hB2:Below w.heap.size w w2:=hb1.trans (hb2.mono hb1.size);have k0':=qaa _ _ _ _ k0 hb2;have k1':=qaa _ _ _ _ k1 hb2;have k2':=qaa _ _ _ _ k2 hb2;have hr2:=qac _ _ _ _ hr1 hb2;have hs2:=Nat.le_trans hs1 hb2.size;clear ew k0 k1 k2 hr1 hb1 hb2 hs1
 rcases qdw d with ⟨hok,hck⟩ | ⟨hok,hck⟩
 ·rw [hck]
  obtain ⟨hfine,hc1,hc2⟩:=Fine.of_ok hok;have HE:=hide (show qf2 d=((d.1,d.2.1,[]),0) by unfold qf2;rw [if_neg (by rw [hck];decide)]);obtain ⟨_,_,_,eD,h1,h2,_⟩:=HD.out;cases eD;have H1:=hide h1;have H2:=hide h2;have B1:=hide (show d.1.length≤1000000000 by have:=hfine.1;omega);have B2:=hide (show d.2.1.length≤1000000 by have:=hfine.2.1;omega);have D2:=hide (show ∀p∈d.2.1,p.2.length≤1000000000 from fun p hp=>by have:=qd9 (hfine.2.2.2 p hp);omega);clear h1 h2 hfine hck hok;go_wp2;have hK:Keeps (fun wx=>wx.cell? ⟨w.heap.size,0,none⟩=some (.slice a1 d.1.length c1)∧wx.cell? ⟨w.heap.size,1,none⟩=some (.slice a2 d.2.1.length c2)∧wx.cell? ⟨w.heap.size,2,none⟩=some (.slice a3 d.2.2.length c3)∧(∃y1 y2 y3,wx.heap[w.heap.size+1]? =some (.cells #[y1,y2,y3] 26 (0,0)))∧Below w.heap.size w wx∧w.heap.size+2≤wx.heap.size):=(qaa _ _).and ((qaa _ _).and ((qaa _ _).and ((qgg _ _).and ((qal w).and (qfj _)))))
  refine qaj hK (by kernel_rfl) ⟨k0',k1',k2',⟨_,_,_,hr2⟩,hB2,hs2⟩ ?_
  intro hS
  refine qah [0,1,3,4] (fuel:=5) (a':=?zp1a) (by kernel_rfl) (by kernel_rfl) (by kernel_rfl) ?zp1p hS ?zp1n
  case zp1p=>
   iterate 4 (apply Yl.cons rfl (by kernel_rfl);focus (rintro wx ⟨x1,x2,x2',x3,x4,x5⟩;go_simp;all_goals (with_reducible rfl));try simp only [Act.put,sA,sB,sC])
   exact Yl.nil
  refine qdf hK (i:=2) (R:=fun v wy=>OwB wy (w.heap.size+2) v d.1) rfl (by kernel_rfl) (by rfl) (by go_simp) hS ((qk0 a1 c1 _ d.1 _ rfl B1.out (H1.out.carry hS.2.2.2.2.1)).mono fun e w1 ⟨v,h1,h2,h3⟩=>⟨v,h1,h2.mono hS.2.2.2.2.2,h3⟩) (fun v _ _ h hb=>h.carry hb) ?_
  intro v13 w13 hKn hRn hSn;clear hK hS;have hK:=hKn;have hS:=hSn;clear hKn hSn;obtain ⟨p5,k5,rfl⟩:=hRn.form
  try simp only [Act.put,sA,sB,sC]
  refine qdf hK (i:=5) (R:=fun v wy=>OwW wy (w.heap.size+2) v d.2.1) rfl (by kernel_rfl) (by rfl) (by go_simp) hS ((qjh a2 _ c2 d.2.1 _ rfl B2.out D2.out (H2.out.carry hS.1.2.2.2.2.1)).mono fun e w1 ⟨v,h1,h2,h3⟩=>⟨v,h1,h2.mono hS.1.2.2.2.2.2,h3⟩) (fun v _ _ h hb=>h.carry hb) ?_
  intro v16 w16 hKn hRn hSn;clear hK hS;have hK:=hKn;have hS:=hSn;clear hKn hSn;obtain ⟨p8,k8,rfl⟩:=hRn.rd.form
  try simp only [Act.put,sA,sB,sC]
  refine qad (i:=6) (v:=?qav6) rfl (by kernel_rfl) (by kernel_rfl) (by kernel_rfl) (by rfl) ?qay6 hS ?qar6
  case qay6=>(rintro wx ⟨⟨⟨x1,x2,x2',x3,x4,x5⟩,_⟩,_⟩;go_simp;all_goals (with_reducible rfl))
  try simp only [Act.put,sA,sB,sC]
  obtain ⟨⟨⟨x1,x2,x2',⟨y1,y2,y3,x3⟩,x4,x5⟩,r1⟩,r2⟩:=hS;obtain ⟨ws,ews,hws,hgs⟩:=qbi (.slice p5 d.1.length k5) (.slice p8 d.2.1.length k8) (.slice none 0 0) x3;obtain ⟨z1,z2,z3,z4⟩:=cells3 x3;have hSn:((fun wx=>wx.cell? ⟨w.heap.size,0,none⟩=some (.slice a1 d.1.length c1)∧wx.cell? ⟨w.heap.size,1,none⟩=some (.slice a2 d.2.1.length c2)∧wx.cell? ⟨w.heap.size,2,none⟩=some (.slice a3 d.2.2.length c3)∧(∃y1 y2 y3,wx.heap[w.heap.size+1]? =some (.cells #[y1,y2,y3] 26 (0,0)))∧Below w.heap.size w wx∧w.heap.size+2≤wx.heap.size) ws∧OwB ws (w.heap.size+2) (.slice p5 d.1.length k5) d.1)∧OwW ws (w.heap.size+2) (.slice p8 d.2.1.length k8) d.2.1:=⟨⟨⟨hgs.cell x1 (by simp),hgs.cell x2 (by simp),hgs.cell x2' (by simp),⟨_,_,_,hws⟩,x4.grown hgs x4.size (fun k hk=>by cases hk;simp),Nat.le_trans x5 hgs.size⟩,r1.grown hgs (by simp)⟩,r2.grown hgs (by simp)⟩
  refine qbx (i:=7) (w':=ws) rfl (by kernel_rfl) (by rfl) (by rw [←ews];go_simp) hSn ?_
  have hS:=hSn;clear hSn
  try simp only [Act.put,sA,sB,sC]
  refine qad (i:=8) (v:=?qav8) rfl (by kernel_rfl) (by kernel_rfl) (by kernel_rfl) (by rfl) ?qay8 hS ?qar8
  case qay8=>(rintro wx ⟨⟨⟨x1,x2,x2',x3,x4,x5⟩,_⟩,_⟩;go_simp;all_goals (with_reducible rfl))
  try simp only [Act.put,sA,sB,sC]
  refine wpAnyH_done (by kernel_rfl) ?_ _
  refine NoPanic.normal ?_
  have o1:=r1.grown hgs (by simp);have o2:=r2.grown hgs (by simp);have hb:Below w.heap.size w ws:=x4.grown hgs x4.size (fun k hk=>by cases hk;simp);obtain ⟨q1,q2,q3,_⟩:=cells3 hws;have HO:Hid (OwD ws w.heap.size (.agg #[.slice p5 d.1.length k5,.slice p8 d.2.1.length k8,.slice none 0 0]) (d.1,d.2.1,[])):=⟨_,_,_,rfl,o1.mono (by omega),o2.mono (by omega),⟨[],rfl,World.ownsRow_nil _ _ _ _,by simp⟩⟩;clear ews hS o1 o2 hK hgs hws r1 r2;go_wp2
  refine bodyPost_ret (v:=.tuple #[.agg #[.slice p5 d.1.length k5,.slice p8 d.2.1.length k8,.slice none 0 0],.int .i64 0]) ?_ rfl ?_
  ·simp [results,Tryz.results80,go_sem, *]
  ·rw [HE.out];exact ⟨_,rfl,HO.out,hb⟩
 ·rw [hck]
  have HE:=hide (show qf2 d=(dz,20) by unfold qf2;rw [if_pos (by rw [hck];decide),hck]);clear hck hok;obtain ⟨ws,ews,hws,hgs⟩:=qbi (.slice none 0 0) (.slice none 0 0) (.slice none 0 0) hr2;obtain ⟨z1,z2,z3,z4⟩:=cells3 hr2;obtain ⟨q1,q2,q3,q4⟩:=cells3 hws;have hbs:=hB2.grown hgs hB2.size (fun k hk=>by cases hk;simp);clear hws hgs;go_wp2
  refine bodyPost_ret (v:=.tuple #[.agg #[.slice none 0 0,.slice none 0 0,.slice none 0 0],.int .i64 20]) ?_ rfl ?_
  ·simp [results,Tryz.results80,go_sem, *]
  ·rw [HE.out];exact ⟨_,rfl,qb3 _ _,hbs⟩
theorem qaed (n:Int) (w:World):
  Calls Tryz.prog 56 #[.int .i64 n] w fun e w'=>∃dv,e=.returned (.tuple #[dv,.int .i64 (newD n).2])∧OwD w' w.heap.size dv (newD n).1∧Below w.heap.size w w':=by
 obtain ⟨w1,ew⟩:∃w1,w.alloc (.cells #[.slice none 0 0,.slice none 0 0,.slice none 0 0] 26)=w1:=⟨_,rfl⟩
 have hb1:Below w.heap.size w w1:=by rw [←ew];exact (Below.refl _ _).alloc (Nat.le_refl _) _
 have hr1:w1.heap[w.heap.size]? =some (.cells #[.slice none 0 0,.slice none 0 0,.slice none 0 0] 26 (0,0)):=by rw [←ew];exact heap_alloc_new _ _
 have hs1:w1.heap.size=w.heap.size+1:=by rw [←ew];simp
 by_cases h0:n<1
 ·have HE:=hide (show newD n=(dz,20) by unfold newD;rw [if_pos (.inl h0)])
  clear hs1
  go_enter Tryz.func56,Tryz.ntmps56
  obtain ⟨ws,ews,hws,hgs⟩:=qbi (.slice none 0 0) (.slice none 0 0) (.slice none 0 0) hr1;obtain ⟨z1,z2,z3,z4⟩:=cells3 hr1;obtain ⟨q1,q2,q3,q4⟩:=cells3 hws;have hbs:=hb1.grown hgs hb1.size (fun k hk=>by cases hk;exact Nat.le_refl _);clear hws hgs;go_wp2
  refine bodyPost_ret (v:=.tuple #[.agg #[.slice none 0 0,.slice none 0 0,.slice none 0 0],.int .i64 20]) ?_ rfl ?_
  ·simp [results,Tryz.results56,go_sem, *]
  ·rw [HE.out];exact ⟨_,rfl,qb3 _ _,hbs⟩
 ·have h0':decide (n<1)=false:=by simpa using h0
  by_cases h1:4096<n
  ·have HE:=hide (show newD n=(dz,20) by unfold newD;rw [if_pos (.inr h1)])
   clear hs1
   go_enter Tryz.func56,Tryz.ntmps56
   obtain ⟨ws,ews,hws,hgs⟩:=qbi (.slice none 0 0) (.slice none 0 0) (.slice none 0 0) hr1;obtain ⟨z1,z2,z3,z4⟩:=cells3 hr1;obtain ⟨q1,q2,q3,q4⟩:=cells3 hws;have hbs:=hb1.grown hgs hb1.size (fun k hk=>by cases hk;exact Nat.le_refl _);clear hws hgs;go_wp2
   refine bodyPost_ret (v:=.tuple #[.agg #[.slice none 0 0,.slice none 0 0,.slice none 0 0],.int .i64 20]) ?_ rfl ?_
   ·simp [results,Tryz.results56,go_sem, *]
   ·rw [HE.out];exact ⟨_,rfl,qb3 _ _,hbs⟩
  ·have h1':decide (4096<n)=false:=by simpa using h1
   obtain ⟨k,rfl⟩:∃k:Nat,n=k:=⟨n.toNat,by omega⟩;have HE:=hide (show newD k=((List.replicate (k*128) 0,[],[]),0) by unfold newD;rw [if_neg (by omega)];rfl)
   have hw:wrap64 ((k:Int)*128)=((k*128:Nat):Int):=by unfold wrap64;omega
   obtain ⟨i0,hi,hz0,hz1,hz2⟩:=info_parts Tryz.infoB;obtain ⟨w2,hmake,hown2,hg2⟩:=run_make_full (P:=Tryz.prog) w1 w1.heap.size 22 5 i0 _ 1 Tryz.underlying22 hi hz0 hz1 .i64 .i64 (k*128) (by rw [hz2];omega) (by unfold maxLen;omega) (Nat.le_refl _);have hb2:Below w1.heap.size w1 w2:=(Below.refl _ _).grown hg2 (Nat.le_refl _) (fun k hk=>by cases hk)
   have hO2:OwB w2 w1.heap.size (.slice (some ⟨w1.heap.size,0,none⟩) (k*128) (k*128)) (List.replicate (k*128) 0):=by
    show w2.ownsRow _ _ _ _ _ _
    rw [List.length_replicate]
    have e:(madeCells (Value.int IntKind.u8 0).cells (k*128*1)).toList=u8v (List.replicate (k*128) 0):=by
     show (madeCells #[Value.int .u8 0] (k*128*1)).toList=_
     rw [toList_madeCells_one]
     simp [u8v]
    rw [←e];exact hown2
   have hr2:=qac _ _ _ _ hr1 hb2;have hB2:Below w.heap.size w w2:=hb1.trans (hb2.mono hb1.size);obtain ⟨ws,ews,hws,hgs⟩:=qbi (.slice (some ⟨w1.heap.size,0,none⟩) (k*128) (k*128)) (.slice none 0 0) (.slice none 0 0) hr2;obtain ⟨z1,z2,z3,z4⟩:=cells3 hr2;obtain ⟨q1,q2,q3,q4⟩:=cells3 hws;have hbs:=hB2.grown hgs hB2.size (fun k hk=>by cases hk;exact Nat.le_refl _);have HO:Hid (OwD ws w.heap.size (.agg #[.slice (some ⟨w1.heap.size,0,none⟩) (k*128) (k*128),.slice none 0 0,.slice none 0 0]) (List.replicate (k*128) 0,[],[])):=⟨_,_,_,rfl,(hO2.grown hgs (by omega)).mono (by omega),⟨[],rfl,World.ownsRow_nil _ _ _ _,by simp⟩,⟨[],rfl,World.ownsRow_nil _ _ _ _,by simp⟩⟩;rw [show ((k*128:Nat):Int)=(k:Int)*128 by omega] at hmake;clear hs1 hi hz0 hz1 hz2 hown2 hg2 hb2 hO2 hr2 hws hgs hr1 hB2 hw
   go_enter Tryz.func56,Tryz.ntmps56
   go_wp2
   refine bodyPost_ret (v:=.tuple #[.agg #[.slice (some ⟨w1.heap.size,0,none⟩) (k*128) (k*128),.slice none 0 0,.slice none 0 0],.int .i64 0]) ?_ rfl ?_
   ·simp [results,Tryz.results56,go_sem, *]
   ·rw [HE.out];exact ⟨_,rfl,HO.out,hbs⟩
theorem qxr {a b:Bool} (h:a=b):Ending.returned (.bool a)=.returned (.bool b):=by rw [h]
theorem qmz (l m:List UInt8):((bs l).toList==(bs m).toList)=decide (l=m):=by
 have e:∀x:List UInt8,(bs x).toList=x:=fun x=>by rw [ByteArray.toList_eq];simp [bs]
 rw [e,e]
 by_cases h:l=m<;>simp [h]
theorem qxs (a b:Value) (l m:List UInt8) (w:World) (h:Rd w a l) (k:Rd w b m):
  Calls Tryz.prog 141 #[a,b] w fun e w'=>e=.returned (.bool (decide (l=m)))∧w'=w:=by
 have h1:=qd4 (P:=Tryz.prog) 22 5 9 Tryz.underlying22 Tryz.underlying5 Tryz.underlying9 h;have h2:=qd4 (P:=Tryz.prog) 22 5 9 Tryz.underlying22 Tryz.underlying5 Tryz.underlying9 k;clear h k
 go_enter Tryz.func141,Tryz.ntmps141
 go_wp2;go_ret;exact ⟨qxr (qmz l m),rfl⟩
def readD (d:Dk) (n:Int):List UInt8 × Int:=if chk d≠0 then ([],chk d) else if n<0∨(mny d:Int)≤n then ([],2) else (nowD d n.toNat,0)
def qjl (d:Dk):Int × Int:=if chk d≠0 then (0,chk d) else (mny d,0)
theorem qk5 {w:World} {a:Option Addr} {n c:Nat} {l:List UInt8} (h:Rd w (.slice a n c) l) (lo hi:Nat) (h1:lo<hi) (h2:hi≤l.length):∃b off,a=some ⟨b,off,none⟩∧n=l.length∧n≤c∧Rd w (.slice (some ⟨b,off+lo,none⟩) (hi - lo) (c - lo)) ((l.drop lo).take (hi - lo)):=by
 rcases h with ⟨rfl,_⟩ | ⟨b,off,c',e,e1,e2,hc⟩
 ·simp at h2;omega
 ·cases e
  refine ⟨b,off,rfl,rfl,e1, ?_⟩
  have hl:((l.drop lo).take (hi - lo)).length=hi - lo:=by rw [List.length_take,List.length_drop];omega
  refine .inr ⟨b,off+lo,c - lo,by rw [hl],by rw [hl];omega,by omega,fun j hj=>?_⟩;rw [hl] at hj
  have:=hc (lo+j) (by omega)
  rw [Nat.add_assoc];rw [this]
  simp
theorem wrapk (k:Nat) (h:k≤1000000):wrap64 ((k:Int)*128)=((k*128:Nat):Int)∧wrap64 (((k:Int)+1)*128)=(((k+1)*128:Nat):Int)∧wrap64 ((k:Int)+1)=(k:Int)+1:=by
 unfold wrap64;refine ⟨by omega,by omega,by omega⟩
theorem qtw {d:Dk} {v:Value} (w:World) (hD:RdD w v d):
  Calls Tryz.prog 147 #[v] w fun e w'=>e=.returned (.tuple #[.int .i64 (qjl d).1,.int .i64 (qjl d).2])∧Below w.heap.size w w':=by
 obtain ⟨a1,c1,a2,c2,a3,c3,rfl,h1,h2,_⟩:=hD.form;have hn1:d.1.length≤maxLen:=h1.len_le;have HD:=hide hD;clear hD h1 h2;generalize e1:d.1.length=n1 at *;generalize e2:d.2.1.length=n2 at *;generalize e3:d.2.2.length=n3 at *;have E1:=hide e1;clear e1 e2 e3;obtain ⟨q,eq⟩:∃q,q=n1 / 128:=⟨_,rfl⟩;have HM:=hide (show mny d=q by rw [mny,E1.out,eq]);have HC:=hide (fun wx=>eq ▸ qib a1 a2 a3 n1 c1 n2 c2 n3 c3 hn1 wx:∀wx,Calls Tryz.prog 185 #[.agg #[.slice a1 n1 c1,.slice a2 n2 c2,.slice a3 n3 c3]] wx fun e w'=>e=.returned (.int .i64 q)∧Below wx.heap.size wx w');clear eq;obtain ⟨w1,ew⟩:∃w1,w.alloc (.cells #[.slice a1 n1 c1,.slice a2 n2 c2,.slice a3 n3 c3] 26)=w1:=⟨_,rfl⟩
 have hb1:Below w.heap.size w w1:=by rw [←ew];exact (Below.refl _ _).alloc (Nat.le_refl _) _
 have k0:w1.cell? ⟨w.heap.size,0,none⟩=some (.slice a1 n1 c1):=by rw [←ew];simp
 have k1:w1.cell? ⟨w.heap.size,1,none⟩=some (.slice a2 n2 c2):=by rw [←ew];simp
 have k2:w1.cell? ⟨w.heap.size,2,none⟩=some (.slice a3 n3 c3):=by rw [←ew];simp
 go_enter Tryz.func147,Tryz.ntmps147
 go_wp2_with fail
 refine (qk4 (d:=d) _ (HD.out.carry hb1)).mono ?_
 rintro e w2 ⟨rfl,hb2⟩;have hB2:Below w.heap.size w w2:=hb1.trans (hb2.mono hb1.size);have k0':=qaa _ _ _ _ k0 hb2;have k1':=qaa _ _ _ _ k1 hb2;have k2':=qaa _ _ _ _ k2 hb2;clear ew k0 k1 k2 hb1 hb2
 rcases qdw d with ⟨hok,hck⟩ | ⟨hok,hck⟩
 ·rw [hck]
  have HE:=hide (show qjl d=((q:Int),0) by unfold qjl;rw [if_neg (by rw [hck];decide),HM.out]);clear hck hok
  go_wp2_with fail
  refine (HC.out _).mono ?_
  rintro e w3 ⟨rfl,hb3⟩;have hB3:Below w.heap.size w w3:=hB2.trans (hb3.mono hB2.size);go_wp2;go_ret2;rw [HE.out];exact ⟨rfl,hB3⟩
 ·rw [hck]
  have HE:=hide (show qjl d=(0,20) by unfold qjl;rw [if_pos (by rw [hck];decide),hck]);clear hck hok;go_wp2;go_ret2;rw [HE.out];exact ⟨rfl,hB2⟩
theorem qok {P:Program} (w:World) {ops:Array Oper} {rest:List Oper} {o:Oper} {a:Act} {Q:Exit→Act→World→Prop} (hgd:o.guard=none) (s x:Operand) (t:TypeId) (ho:o.op=.call {callee:=.builtin .append,args:=#[s,x],argTypes:=#[t,t]})
  {v y v':Value} {w':World} (hs:a.eval s=v) (hx:a.eval x=y) (hrun:(Builtin.append_ #[t,t] o.type #[v,y]).run P w=.ok v' w') (h:wpList P ops Q rest (a.put o.dst v') w'):wpList P ops Q (o::rest) a w:=by
 refine wpList_plain hgd fun K' hK'=>?_
 unfold Oper.wp;rw [qfa ho hs hx hrun];exact hK' _ _ h
theorem qxt (m:Nat):∃u:Nat,u≤100000∧(if (100000:Int)<(m:Int) then (100000:Int) else (m:Int))=(u:Int):=by
 by_cases h:(100000:Int)<m
 ·exact ⟨100000,by omega,by rw [if_pos h];rfl⟩
 ·exact ⟨m,by omega,by rw [if_neg h]⟩
theorem qvh (l:List Ac) (a:Option Addr) (n c:Nat) (w:World) (h:RdA w (.slice a n c) l) (hn:n=l.length):
  Calls Tryz.prog 81 #[.slice a n c] w fun e w'=>(∃r,e=.returned (.bool r)∧(r=false→l.length≤2000))∧w'=w:=by
 have H:=hide h;have HN:=hide hn;have hnm:n≤maxLen:=hn ▸ h.len_le;unfold maxLen at hnm;clear h hn
 go_enter Tryz.func81,Tryz.ntmps81
 go_wp2
 go_loopw [3,4] (fun s i wr=>∃k t:Nat,k≤n∧k≤3000∧t≤k*100000∧s=.int .i64 t∧i=.int .i64 k∧wr=w) (fun _ i _=>3000 - (intOf i).toNat)
 case atStart=>exact ⟨0,0,by omega,by omega,by omega,rfl,rfl,rfl⟩
 case round=>
  obtain ⟨k,t,hk,hk3,ht,rfl,rfl,rfl⟩:=hrel
  by_cases hlt:k<n
  ·have hlt':(k:Int)<n:=by omega
   by_cases h3:k<3000
   ·have h3':(k:Int)<3000:=by omega
    obtain ⟨b,off,rfl,q0,q0',x,m,d,q1,q2,q3⟩:=H.out.at k (by have:=HN.out;omega);clear q2 q3;obtain ⟨u,hu,hu'⟩:=qxt m;go_wp2;refine ⟨⟨k+1,t+u,by omega,by omega,by omega,by go_num,by go_num,trivial⟩,by simp [intOf]<;>omega⟩
   ·have h3':decide ((k:Int)<3000)=false:=by simpa using (by omega:¬(k:Int)<3000)
    have hn':(2000:Int)<n:=by omega
    go_wp2;go_ret;exact ⟨⟨_,rfl,by intro h;cases h⟩,rfl⟩
  ·have hlt':decide ((k:Int)<n)=false:=by simpa using (by omega:¬(k:Int)<n)
   by_cases h2:2000<n
   ·have hn':(2000:Int)<n:=by omega
    go_wp2;go_ret;exact ⟨⟨_,rfl,by intro h;cases h⟩,rfl⟩
   ·have hn':decide ((2000:Int)<n)=false:=by simpa using (by omega:¬(2000:Int)<n)
    go_wp2;go_ret;exact ⟨⟨_,rfl,fun _=>by have:=HN.out;omega⟩,rfl⟩
theorem qxu {d:Dk} {v:Value} (w:World) (hD:RdD w v d):
  Calls Tryz.prog 29 #[v] w fun e w'=>(∃r,e=.returned (.bool r)∧(r=false→d.1.length≤100000∧d.2.1.length≤2000∧d.2.2.length≤2000))∧Below w.heap.size w w':=by
 obtain ⟨a1,c1,a2,c2,a3,c3,rfl,h1,h2,h3⟩:=hD.form;have hn1:d.1.length≤maxLen:=h1.len_le;have hn2:d.2.1.length≤maxLen:=h2.len_le;have hn3:d.2.2.length≤maxLen:=h3.len_le;have H2:=hide h2;have H3:=hide h3;clear hD h1 h2 h3;unfold maxLen at hn1 hn2 hn3;generalize e1:d.1.length=n1 at *;generalize e2:d.2.1.length=n2 at *;generalize e3:d.2.2.length=n3 at *;have E1:=hide e1;have E2:=hide e2;have E3:=hide e3;clear e1 e2 e3;obtain ⟨w1,ew⟩:∃w1,w.alloc (.cells #[.slice a1 n1 c1,.slice a2 n2 c2,.slice a3 n3 c3] 26)=w1:=⟨_,rfl⟩
 have hb1:Below w.heap.size w w1:=by rw [←ew];exact (Below.refl _ _).alloc (Nat.le_refl _) _
 have k0:w1.cell? ⟨w.heap.size,0,none⟩=some (.slice a1 n1 c1):=by rw [←ew];simp
 have k1:w1.cell? ⟨w.heap.size,1,none⟩=some (.slice a2 n2 c2):=by rw [←ew];simp
 have k2:w1.cell? ⟨w.heap.size,2,none⟩=some (.slice a3 n3 c3):=by rw [←ew];simp
 have HH:=hide (qvh d.2.2 a3 n3 c3 w1 (H3.out.carry hb1) E3.out.symm);have H2':=hide (H2.out.carry hb1)
 go_enter Tryz.func29,Tryz.ntmps29
 go_wp2;clear ew
 go_loopw [3,4] (fun s i wr=>∃k t:Nat,k≤n2∧k≤3000∧t≤k*100000∧s=.int .i64 t∧i=.int .i64 k∧wr=w1) (fun _ i _=>3000 - (intOf i).toNat)
 case atStart=>exact ⟨0,0,by omega,by omega,by omega,rfl,rfl,rfl⟩
 case round=>
  obtain ⟨k,t,hk,hk3,ht,rfl,rfl,rfl⟩:=hrel
  by_cases hlt:k<n2∧k<3000
  ·obtain ⟨hlt,h3⟩:=hlt
   have hlt':(k:Int)<n2:=by omega
   have h3':(k:Int)<3000:=by omega
   obtain ⟨b,off,rfl,q0,x,m,dd,q1,q2,q3⟩:=H2'.out.at k (by have:=E2.out;omega);obtain ⟨u,hu,hu'⟩:=qxt m;clear q2 q3;go_wp2;refine ⟨⟨k+1,t+u,by omega,by omega,by omega,by go_num,by go_num,trivial⟩,by simp [intOf]<;>omega⟩
  ·by_cases g1:100000<n1
   ·have g1':(100000:Int)<n1:=by omega
    by_cases hl2:k<n2
    ·have hl2':(k:Int)<n2:=by omega
     have h3':decide ((k:Int)<3000)=false:=by simpa using (by omega:¬(k:Int)<3000)
     go_wp2;go_ret;exact ⟨⟨_,rfl,by intro h;cases h⟩,hb1⟩
    ·have hl2':decide ((k:Int)<n2)=false:=by simpa using (by omega:¬(k:Int)<n2)
     go_wp2;go_ret;exact ⟨⟨_,rfl,by intro h;cases h⟩,hb1⟩
   ·have g1':decide ((100000:Int)<n1)=false:=by simpa using (by omega:¬(100000:Int)<n1)
    by_cases hl2:k<n2
    ·have hl2':(k:Int)<n2:=by omega
     have h3':decide ((k:Int)<3000)=false:=by simpa using (by omega:¬(k:Int)<3000)
     have g2':(2000:Int)<n2:=by omega
     go_wp2;go_ret;exact ⟨⟨_,rfl,by intro h;cases h⟩,hb1⟩
    ·have hl2':decide ((k:Int)<n2)=false:=by simpa using (by omega:¬(k:Int)<n2)
     by_cases g2:2000<n2
     ·have g2':(2000:Int)<n2:=by omega
      go_wp2;go_ret;exact ⟨⟨_,rfl,by intro h;cases h⟩,hb1⟩
     ·have g2':decide ((2000:Int)<n2)=false:=by simpa using (by omega:¬(2000:Int)<n2)
      by_cases g3:400000<t
      ·have g3':(400000:Int)<t:=by omega
       go_wp2;go_ret;exact ⟨⟨_,rfl,by intro h;cases h⟩,hb1⟩
      ·have g3':decide ((400000:Int)<t)=false:=by simpa using (by omega:¬(400000:Int)<t)
       go_wp2_with fail
       refine HH.out.mono ?_
       rintro e w3 ⟨⟨r,rfl,hr⟩,rfl⟩;have HR:=hide hr;clear hr;cases r
       ·go_wp2
        go_ret;exact ⟨⟨_,rfl,fun _=>⟨by have:=E1.out;omega,by have:=E2.out;omega,by have:=HR.out (by first | rfl | trivial);have:=E3.out;omega⟩⟩,hb1⟩
       ·go_wp2
        go_ret;exact ⟨⟨_,rfl,by intro h;cases h⟩,hb1⟩
def qhf (d:Dk) (n:Int):List UInt8:=(readD d n).1
def ones:List UInt8:=List.replicate 128 1
theorem qqd {d:Dk} (h:okD d=true):chk d=0:=by unfold chk;rw [h];rfl
theorem qxv {d:Dk} (h:chk d=0):okD d=true:=by
 rcases qdw d with ⟨h1,_⟩ | ⟨_,h2⟩
 ·exact h1
 ·rw [h2] at h;cases h
theorem qew {d d':Dk} {a:Ac} (h:okD d=true) (ha:actE (mny d) a=0) (he:oneD d a=some d'):okD d'=true∧mny d'=mny d∧d'.2.2=d.2.2++[a]:=by
 obtain ⟨hf,h1,h2⟩:=Fine.of_ok h;obtain ⟨hf',hd⟩:=hf.one ha he
 have hm:mny d'=mny d:=by have:=hf'.1;unfold mny at *;omega
 refine ⟨?_,hm,hd⟩;obtain ⟨g1,_,_,_,_,_,g7⟩:=(qdh d).1 h;rw [qdh,hm];refine ⟨by have:=hf'.1;omega,h1,h2,hf'.2.1,hf'.2.2.1,hf'.2.2.2,fun b hb=>?_⟩;rw [hd] at hb
 rcases List.mem_append.1 hb with h | h
 ·exact g7 b h
 ·rw [List.mem_singleton.1 h];exact ha
theorem qtx:∀(l:List Ac) (d d':Dk),okD d=true→(∀a∈l,actE (mny d) a=0)→qbs d l=some d'→okD d'=true∧mny d'=mny d∧d'.2.2=d.2.2++l
 | [],d,d',h,_,he=>by cases he;exact ⟨h,rfl,by simp⟩
 | a::l,d,d',h,ha,he=>by
  have e:qbs d (a::l)=(match oneD d a with | none=>none | some x=>qbs x l):=rfl;rw [e] at he
  cases e1:oneD d a with
  | none=>rw [e1] at he;cases he
  | some x=>
   rw [e1] at he;obtain ⟨h1,h2,h3⟩:=qew h (ha a (List.mem_cons_self ..)) e1;obtain ⟨k1,k2,k3⟩:=qtx l x d' h1 (fun b hb=>by rw [h2];exact ha b (List.mem_cons_of_mem _ hb)) he;exact ⟨k1,k2.trans h2,by rw [k3,h3];simp⟩
theorem qgi {d:Dk} {n:Nat} (h:okD d=true) (hn:n<mny d):qhf d n=(qei n d.2.1).getD (blk d.1 n):=by
 unfold qhf readD;rw [if_neg (by rw [qqd h];simp),if_neg (by omega)];rfl
theorem qg4 {d d':Dk} {a:Ac} {n:Nat} (h:okD d=true) (ha:actE (mny d) a=0) (hs:a.1=true) (he:oneD d a=some d') (hn:n<mny d):qhf d' n=qhf d n∧d'.2.1=[]:=by
 obtain ⟨h1,h2,_⟩:=qew h ha he;obtain ⟨hf,_,_⟩:=Fine.of_ok h;unfold oneD at he
 split at he
 ·cases he
 ·try rw [if_pos hs] at he
  cases he;refine ⟨?_,rfl⟩;rw [qgi h1 (by rw [h2];exact hn),qgi h hn]
  show blk (qdv d.1 d.2.1) n=_
  rw [qk2 d.1 n d.2.1 d.1 rfl (fun p hp=>by
   have:=qd9 (hf.2.2.2 p hp)
   have:=hf.1
   omega)]
theorem qk6 {d d':Dk} {N:Int} {b:List UInt8} {n:Nat} (h:okD d=true) (ha:actE (mny d) (false,N,b)=0) (he:oneD d (false,N,b)=some d') (hn:n<mny d):qhf d' n=if (n:Int)=N then b else qhf d n:=by
 obtain ⟨h1,h2,_⟩:=qew h ha he;unfold oneD at he
 split at he
 ·cases he
 ·try rw [if_neg (by simp)] at he
  cases he;rw [qgi h1 (by rw [h2];exact hn),qgi h hn]
  show (qei n (d.2.1++[(N,b)])).getD (blk d.1 n)=_
  rw [qmx]
  split<;>rfl
end Go.Proofs.YthilibleedbchaaGreat

/-
  What dev's Read and Many do.
-/
import Derived.Test.YtmeaiocohalphaaGreatDoorDDo
set_option maxHeartbeats 1000000
set_option maxRecDepth 100000
namespace Go.Proofs.YtmeaiocohalphaaGreatDoor
open Go.RowKit
set_option linter.unusedVariables false
set_option linter.unusedSimpArgs false
def qfm (d:Dk):Dk × Int:=if chk d≠0 then (dz,chk d) else ((d.1,d.2.1,[]),0)
def newD (n:Int):Dk × Int:=if n<1∨4096<n then (dz,20) else ((List.replicate (n.toNat*128) 0,[],[]),0)
theorem qabh (w:World) (s:Bool) (N:Int) (x:Value) (l:List UInt8) (h:Rd w x l):RdA (w.alloc (.cells #[.bool s,.int .i64 N,x] 206)) (.slice (some ⟨w.heap.size,0,none⟩) 1 1) [(s,N,l)]:=by
 refine .inr ⟨w.heap.size,0,1,rfl,Nat.le_refl _,by unfold maxLen;decide,fun j hj=>?_⟩
 obtain rfl:j=0:=by simpa using hj
 exact ⟨by simp,by simp,x,by simp,h.alloc _⟩
theorem OwD.form {w:World} {base:Nat} {v:Value} {d:Dk} (h:OwD w base v d):∃a1 c1 a2 c2 a3 c3,v=.agg #[.slice a1 d.1.length c1,.slice a2 d.2.1.length c2,.slice a3 d.2.2.length c3]:=by
 obtain ⟨a1,c1,a2,c2,a3,c3,e,_⟩:=h.rd.form;exact ⟨a1,c1,a2,c2,a3,c3,e⟩
theorem qabi {d:Dk} {v:Value} (N:Int) (x:Option Addr) (m c:Nat) (l:List UInt8) (w:World) (hD:RdD w v d) (hrd:Rd w (.slice x m c) l):
  Calls Tryz.prog 228 #[v,.int .i64 N,.slice x m c] w fun e w'=>∃dv,e=.returned (.tuple #[dv,.int .i64 (doD d [(false,N,l)] 1).2])∧OwD w' w.heap.size dv (doD d [(false,N,l)] 1).1∧Below w.heap.size w w':=by
 obtain ⟨a1,c1,a2,c2,a3,c3,rfl,_,_,_⟩:=hD.form;have HD:=hide hD;clear hD;have HR:=hide hrd;clear hrd;obtain ⟨w1,ew⟩:∃w1,(w.alloc (.cells #[.slice a1 d.1.length c1,.slice a2 d.2.1.length c2,.slice a3 d.2.2.length c3] 27)).alloc (.cells #[.slice none 0 0,.slice none 0 0,.slice none 0 0] 27)=w1:=⟨_,rfl⟩
 have hb1:Below w.heap.size w w1:=by rw [←ew];exact ((Below.refl _ _).alloc (Nat.le_refl _) _).alloc (by simp) _
 have k0:w1.cell? ⟨w.heap.size,0,none⟩=some (.slice a1 d.1.length c1):=by rw [←ew];simp
 have k1:w1.cell? ⟨w.heap.size,1,none⟩=some (.slice a2 d.2.1.length c2):=by rw [←ew];simp
 have k2:w1.cell? ⟨w.heap.size,2,none⟩=some (.slice a3 d.2.2.length c3):=by rw [←ew];simp
 have hr1:w1.heap[w.heap.size+1]? =some (.cells #[.slice none 0 0,.slice none 0 0,.slice none 0 0] 27 (0,0)):=by rw [←ew];exact qco _ _ _
 have hs1:w.heap.size+2≤w1.heap.size:=by rw [←ew];simp
 have hl:=qabh w1 false N (.slice x m c) l (HR.out.carry hb1);obtain ⟨w2,ew2⟩:∃w2,w1.alloc (.cells #[.bool false,.int .i64 N,.slice x m c] 206)=w2:=⟨_,rfl⟩;rw [ew2] at hl;have HL:=hide hl
 have hb2:Below w1.heap.size w1 w2:=by rw [←ew2];exact (Below.refl _ _).alloc (Nat.le_refl _) _
 have hB2:Below w.heap.size w w2:=hb1.trans (hb2.mono hb1.size);have hr2:=qak _ _ _ _ hr1 hb2;have hs2:=Nat.le_trans hs1 hb2.size;clear hl hb2 hr1 hs1
 go_enter Tryz.func228,Tryz.ntmps228
 go_wp2_with fail
 refine (qabg (d:=d) [(false,N,l)] _ 1 1 1 _ (HD.out.carry hB2) HL.out rfl).mono ?_
 clear ew ew2 k0 k1 k2;rintro e w3 ⟨dv,rfl,hO,hb3⟩;obtain ⟨p1,t1,p2,t2,p3,t3,rfl⟩:=hO.form;have hB3:Below w.heap.size w w3:=hB2.trans (hb3.mono hB2.size);have hr3:=qak _ _ _ _ hr2 hb3;obtain ⟨r,er⟩:∃r,r=doD d [(false,N,l)] 1:=⟨_,rfl⟩;have HE:=hide er;rw [←er] at hO ⊢;clear er;obtain ⟨ws,ews,hws,hgs⟩:=qcp (.slice p1 r.1.1.length t1) (.slice p2 r.1.2.1.length t2) (.slice p3 r.1.2.2.length t3) hr3;obtain ⟨z1,z2,z3,z4⟩:=cells3 hr3;obtain ⟨q1,q2,q3,q4⟩:=cells3 hws;have hbs:=hB3.grown hgs hB3.size (fun k hk=>by cases hk;simp);have HO:=hide ((hO.grown hgs (by omega)).mono (by omega):OwD ws w.heap.size _ _);clear hws hgs hO hb3 hr3;go_wp2
 refine bodyPost_ret (v:=.tuple #[.agg #[.slice p1 r.1.1.length t1,.slice p2 r.1.2.1.length t2,.slice p3 r.1.2.2.length t3],.int .i64 r.2]) ?_ rfl ?_
 ·simp [results,Tryz.results228,go_sem, *]
 ·rw [←HE.out];exact ⟨_,rfl,HO.out,hbs⟩
theorem qafp {d:Dk} {v:Value} (w:World) (hD:RdD w v d):
  Calls Tryz.prog 166 #[v] w fun e w'=>∃dv,e=.returned (.tuple #[dv,.int .i64 (doD d [(true,0,[])] 1).2])∧OwD w' w.heap.size dv (doD d [(true,0,[])] 1).1∧Below w.heap.size w w':=by
 obtain ⟨a1,c1,a2,c2,a3,c3,rfl,_,_,_⟩:=hD.form;have HD:=hide hD;clear hD;obtain ⟨w1,ew⟩:∃w1,(w.alloc (.cells #[.slice a1 d.1.length c1,.slice a2 d.2.1.length c2,.slice a3 d.2.2.length c3] 27)).alloc (.cells #[.slice none 0 0,.slice none 0 0,.slice none 0 0] 27)=w1:=⟨_,rfl⟩
 have hb1:Below w.heap.size w w1:=by rw [←ew];exact ((Below.refl _ _).alloc (Nat.le_refl _) _).alloc (by simp) _
 have k0:w1.cell? ⟨w.heap.size,0,none⟩=some (.slice a1 d.1.length c1):=by rw [←ew];simp
 have k1:w1.cell? ⟨w.heap.size,1,none⟩=some (.slice a2 d.2.1.length c2):=by rw [←ew];simp
 have k2:w1.cell? ⟨w.heap.size,2,none⟩=some (.slice a3 d.2.2.length c3):=by rw [←ew];simp
 have hr1:w1.heap[w.heap.size+1]? =some (.cells #[.slice none 0 0,.slice none 0 0,.slice none 0 0] 27 (0,0)):=by rw [←ew];exact qco _ _ _
 have hs1:w.heap.size+2≤w1.heap.size:=by rw [←ew];simp
 have hl:=qabh w1 true 0 (.slice none 0 0) [] (.inl ⟨rfl,.inl rfl⟩);obtain ⟨w2,ew2⟩:∃w2,w1.alloc (.cells #[.bool true,.int .i64 0,.slice none 0 0] 206)=w2:=⟨_,rfl⟩;rw [ew2] at hl;have HL:=hide hl
 have hb2:Below w1.heap.size w1 w2:=by rw [←ew2];exact (Below.refl _ _).alloc (Nat.le_refl _) _
 have hB2:Below w.heap.size w w2:=hb1.trans (hb2.mono hb1.size);have hr2:=qak _ _ _ _ hr1 hb2;have hs2:=Nat.le_trans hs1 hb2.size;clear hl hb2 hr1 hs1
 go_enter Tryz.func166,Tryz.ntmps166
 go_wp2_with fail
 refine (qabg (d:=d) [(true,0,[])] _ 1 1 1 _ (HD.out.carry hB2) HL.out rfl).mono ?_
 clear ew ew2 k0 k1 k2;rintro e w3 ⟨dv,rfl,hO,hb3⟩;obtain ⟨p1,t1,p2,t2,p3,t3,rfl⟩:=hO.form;have hB3:Below w.heap.size w w3:=hB2.trans (hb3.mono hB2.size);have hr3:=qak _ _ _ _ hr2 hb3;obtain ⟨r,er⟩:∃r,r=doD d [(true,0,[])] 1:=⟨_,rfl⟩;have HE:=hide er;rw [←er] at hO ⊢;clear er;obtain ⟨ws,ews,hws,hgs⟩:=qcp (.slice p1 r.1.1.length t1) (.slice p2 r.1.2.1.length t2) (.slice p3 r.1.2.2.length t3) hr3;obtain ⟨z1,z2,z3,z4⟩:=cells3 hr3;obtain ⟨q1,q2,q3,q4⟩:=cells3 hws;have hbs:=hB3.grown hgs hB3.size (fun k hk=>by cases hk;simp);have HO:=hide ((hO.grown hgs (by omega)).mono (by omega):OwD ws w.heap.size _ _);clear hws hgs hO hb3 hr3;go_wp2
 refine bodyPost_ret (v:=.tuple #[.agg #[.slice p1 r.1.1.length t1,.slice p2 r.1.2.1.length t2,.slice p3 r.1.2.2.length t3],.int .i64 r.2]) ?_ rfl ?_
 ·simp [results,Tryz.results166,go_sem, *]
 ·rw [←HE.out];exact ⟨_,rfl,HO.out,hbs⟩
theorem qabj {d:Dk} {v:Value} (w:World) (hD:RdD w v d):
  Calls Tryz.prog 80 #[v] w fun e w'=>∃dv,e=.returned (.tuple #[dv,.int .i64 (qfm d).2])∧OwD w' w.heap.size dv (qfm d).1∧Below w.heap.size w w':=by
 obtain ⟨a1,c1,a2,c2,a3,c3,rfl,_,_,_⟩:=hD.form;have HD:=hide hD;clear hD;obtain ⟨w1,ew⟩:∃w1,(w.alloc (.cells #[.slice a1 d.1.length c1,.slice a2 d.2.1.length c2,.slice a3 d.2.2.length c3] 27)).alloc (.cells #[.slice none 0 0,.slice none 0 0,.slice none 0 0] 27)=w1:=⟨_,rfl⟩
 have hb1:Below w.heap.size w w1:=by rw [←ew];exact ((Below.refl _ _).alloc (Nat.le_refl _) _).alloc (by simp) _
 have k0:w1.cell? ⟨w.heap.size,0,none⟩=some (.slice a1 d.1.length c1):=by rw [←ew];simp
 have k1:w1.cell? ⟨w.heap.size,1,none⟩=some (.slice a2 d.2.1.length c2):=by rw [←ew];simp
 have k2:w1.cell? ⟨w.heap.size,2,none⟩=some (.slice a3 d.2.2.length c3):=by rw [←ew];simp
 have hr1:w1.heap[w.heap.size+1]? =some (.cells #[.slice none 0 0,.slice none 0 0,.slice none 0 0] 27 (0,0)):=by rw [←ew];exact qco _ _ _
 have hs1:w.heap.size+2≤w1.heap.size:=by rw [←ew];simp
 go_enter Tryz.func80,Tryz.ntmps80
 go_wp2_with fail
 refine (qhw (d:=d) _ (HD.out.carry hb1)).mono ?_
 rintro e w2 ⟨rfl,hb2⟩;have hB2:Below w.heap.size w w2:=hb1.trans (hb2.mono hb1.size);have k0':=qaa _ _ _ _ k0 hb2;have k1':=qaa _ _ _ _ k1 hb2;have k2':=qaa _ _ _ _ k2 hb2;have hr2:=qak _ _ _ _ hr1 hb2;have hs2:=Nat.le_trans hs1 hb2.size;clear ew k0 k1 k2 hr1 hb1 hb2 hs1
 rcases qep d with ⟨hok,hck⟩ | ⟨hok,hck⟩
 ·rw [hck]
  obtain ⟨hfine,hc1,hc2⟩:=Fine.of_ok hok;have HE:=hide (show qfm d=((d.1,d.2.1,[]),0) by unfold qfm;rw [if_neg (by rw [hck];decide)]);obtain ⟨_,_,_,eD,h1,h2,_⟩:=HD.out;cases eD;have H1:=hide h1;have H2:=hide h2;have B1:=hide (show d.1.length≤1000000000 by have:=hfine.1;omega);have B2:=hide (show d.2.1.length≤1000000 by have:=hfine.2.1;omega);have D2:=hide (show ∀p∈d.2.1,p.2.length≤1000000000 from fun p hp=>by have:=qd3 (hfine.2.2.2 p hp);omega);clear h1 h2 hfine hck hok;go_wp2;have hK:Keeps (fun wx=>wx.cell? ⟨w.heap.size,0,none⟩=some (.slice a1 d.1.length c1)∧wx.cell? ⟨w.heap.size,1,none⟩=some (.slice a2 d.2.1.length c2)∧wx.cell? ⟨w.heap.size,2,none⟩=some (.slice a3 d.2.2.length c3)∧(∃y1 y2 y3,wx.heap[w.heap.size+1]? =some (.cells #[y1,y2,y3] 27 (0,0)))∧Below w.heap.size w wx∧w.heap.size+2≤wx.heap.size):=(qaa _ _).and ((qaa _ _).and ((qaa _ _).and ((qfi _ _).and ((qbj w).and (qge _)))))
  refine qas hK (by kernel_rfl) ⟨k0',k1',k2',⟨_,_,_,hr2⟩,hB2,hs2⟩ ?_
  intro hS
  refine qae [0,1,3,4] (fuel:=5) (a':=?zp1a) (by kernel_rfl) (by kernel_rfl) (by kernel_rfl) ?zp1p hS ?zp1n
  case zp1p=>
   iterate 4 (apply Yl.cons rfl (by kernel_rfl);focus (rintro wx ⟨x1,x2,x2',x3,x4,x5⟩;go_simp;all_goals (with_reducible rfl));try simp only [Act.put,List.setIfInBounds_toArray,List.set_cons_zero,List.set_cons_succ])
   exact Yl.nil
  refine qci hK (i:=2) (R:=fun v wy=>OwB wy (w.heap.size+2) v d.1) rfl (by kernel_rfl) (by rfl) (by go_simp) hS ((qhv a1 c1 _ d.1 _ rfl B1.out (H1.out.carry hS.2.2.2.2.1)).mono fun e w1 ⟨v,h1,h2,h3⟩=>⟨v,h1,h2.mono hS.2.2.2.2.2,h3⟩) (fun v _ _ h hb=>h.carry hb) ?_
  intro v13 w13 hKn hRn hSn;clear hK hS;have hK:=hKn;have hS:=hSn;clear hKn hSn;obtain ⟨p5,k5,rfl⟩:=hRn.form
  try simp only [Act.put,List.setIfInBounds_toArray,List.set_cons_zero,List.set_cons_succ]
  refine qci hK (i:=5) (R:=fun v wy=>OwW wy (w.heap.size+2) v d.2.1) rfl (by kernel_rfl) (by rfl) (by go_simp) hS ((qjk a2 _ c2 d.2.1 _ rfl B2.out D2.out (H2.out.carry hS.1.2.2.2.2.1)).mono fun e w1 ⟨v,h1,h2,h3⟩=>⟨v,h1,h2.mono hS.1.2.2.2.2.2,h3⟩) (fun v _ _ h hb=>h.carry hb) ?_
  intro v16 w16 hKn hRn hSn;clear hK hS;have hK:=hKn;have hS:=hSn;clear hKn hSn;obtain ⟨p8,k8,rfl⟩:=hRn.rd.form
  try simp only [Act.put,List.setIfInBounds_toArray,List.set_cons_zero,List.set_cons_succ]
  refine qa6 (i:=6) (v:=?qav6) rfl (by kernel_rfl) (by kernel_rfl) (by kernel_rfl) (by rfl) ?qay6 hS ?qar6
  case qay6=>(rintro wx ⟨⟨⟨x1,x2,x2',x3,x4,x5⟩,_⟩,_⟩;go_simp;all_goals (with_reducible rfl))
  try simp only [Act.put,List.setIfInBounds_toArray,List.set_cons_zero,List.set_cons_succ]
  obtain ⟨⟨⟨x1,x2,x2',⟨y1,y2,y3,x3⟩,x4,x5⟩,r1⟩,r2⟩:=hS;obtain ⟨ws,ews,hws,hgs⟩:=qcp (.slice p5 d.1.length k5) (.slice p8 d.2.1.length k8) (.slice none 0 0) x3;obtain ⟨z1,z2,z3,z4⟩:=cells3 x3;have hSn:((fun wx=>wx.cell? ⟨w.heap.size,0,none⟩=some (.slice a1 d.1.length c1)∧wx.cell? ⟨w.heap.size,1,none⟩=some (.slice a2 d.2.1.length c2)∧wx.cell? ⟨w.heap.size,2,none⟩=some (.slice a3 d.2.2.length c3)∧(∃y1 y2 y3,wx.heap[w.heap.size+1]? =some (.cells #[y1,y2,y3] 27 (0,0)))∧Below w.heap.size w wx∧w.heap.size+2≤wx.heap.size) ws∧OwB ws (w.heap.size+2) (.slice p5 d.1.length k5) d.1)∧OwW ws (w.heap.size+2) (.slice p8 d.2.1.length k8) d.2.1:=⟨⟨⟨hgs.cell x1 (by simp),hgs.cell x2 (by simp),hgs.cell x2' (by simp),⟨_,_,_,hws⟩,x4.grown hgs x4.size (fun k hk=>by cases hk;simp),Nat.le_trans x5 hgs.size⟩,r1.grown hgs (by simp)⟩,r2.grown hgs (by simp)⟩
  refine qb8 (i:=7) (w':=ws) rfl (by kernel_rfl) (by rfl) (by rw [←ews];go_simp) hSn ?_
  have hS:=hSn;clear hSn
  try simp only [Act.put,List.setIfInBounds_toArray,List.set_cons_zero,List.set_cons_succ]
  refine qa6 (i:=8) (v:=?qav8) rfl (by kernel_rfl) (by kernel_rfl) (by kernel_rfl) (by rfl) ?qay8 hS ?qar8
  case qay8=>(rintro wx ⟨⟨⟨x1,x2,x2',x3,x4,x5⟩,_⟩,_⟩;go_simp;all_goals (with_reducible rfl))
  try simp only [Act.put,List.setIfInBounds_toArray,List.set_cons_zero,List.set_cons_succ]
  refine wpAnyH_done (by kernel_rfl) ?_ _
  refine NoPanic.normal ?_
  have o1:=r1.grown hgs (by simp);have o2:=r2.grown hgs (by simp);have hb:Below w.heap.size w ws:=x4.grown hgs x4.size (fun k hk=>by cases hk;simp);obtain ⟨q1,q2,q3,_⟩:=cells3 hws;have HO:Hid (OwD ws w.heap.size (.agg #[.slice p5 d.1.length k5,.slice p8 d.2.1.length k8,.slice none 0 0]) (d.1,d.2.1,[])):=⟨_,_,_,rfl,o1.mono (by omega),o2.mono (by omega),⟨[],rfl,World.ownsRow_nil _ _ _ _,by simp⟩⟩;clear ews hS o1 o2 hK hgs hws r1 r2;go_wp2
  refine bodyPost_ret (v:=.tuple #[.agg #[.slice p5 d.1.length k5,.slice p8 d.2.1.length k8,.slice none 0 0],.int .i64 0]) ?_ rfl ?_
  ·simp [results,Tryz.results80,go_sem, *]
  ·rw [HE.out];exact ⟨_,rfl,HO.out,hb⟩
 ·rw [hck]
  have HE:=hide (show qfm d=(dz,20) by unfold qfm;rw [if_pos (by rw [hck];decide),hck]);clear hck hok;obtain ⟨ws,ews,hws,hgs⟩:=qcp (.slice none 0 0) (.slice none 0 0) (.slice none 0 0) hr2;obtain ⟨z1,z2,z3,z4⟩:=cells3 hr2;obtain ⟨q1,q2,q3,q4⟩:=cells3 hws;have hbs:=hB2.grown hgs hB2.size (fun k hk=>by cases hk;simp);clear hws hgs;go_wp2
  refine bodyPost_ret (v:=.tuple #[.agg #[.slice none 0 0,.slice none 0 0,.slice none 0 0],.int .i64 20]) ?_ rfl ?_
  ·simp [results,Tryz.results80,go_sem, *]
  ·rw [HE.out];exact ⟨_,rfl,qdr _ _,hbs⟩
theorem qajs (n:Int) (w:World):
  Calls Tryz.prog 37 #[.int .i64 n] w fun e w'=>∃dv,e=.returned (.tuple #[dv,.int .i64 (newD n).2])∧OwD w' w.heap.size dv (newD n).1∧Below w.heap.size w w':=by
 obtain ⟨w1,ew⟩:∃w1,w.alloc (.cells #[.slice none 0 0,.slice none 0 0,.slice none 0 0] 27)=w1:=⟨_,rfl⟩
 have hb1:Below w.heap.size w w1:=by rw [←ew];exact (Below.refl _ _).alloc (Nat.le_refl _) _
 have hr1:w1.heap[w.heap.size]? =some (.cells #[.slice none 0 0,.slice none 0 0,.slice none 0 0] 27 (0,0)):=by rw [←ew];exact heap_alloc_new _ _
 have hs1:w1.heap.size=w.heap.size+1:=by rw [←ew];simp
 by_cases h0:n<1
 ·have HE:=hide (show newD n=(dz,20) by unfold newD;rw [if_pos (.inl h0)])
  clear hs1
  go_enter Tryz.func37,Tryz.ntmps37
  obtain ⟨ws,ews,hws,hgs⟩:=qcp (.slice none 0 0) (.slice none 0 0) (.slice none 0 0) hr1;obtain ⟨z1,z2,z3,z4⟩:=cells3 hr1;obtain ⟨q1,q2,q3,q4⟩:=cells3 hws;have hbs:=hb1.grown hgs hb1.size (fun k hk=>by cases hk;exact Nat.le_refl _);clear hws hgs;go_wp2
  refine bodyPost_ret (v:=.tuple #[.agg #[.slice none 0 0,.slice none 0 0,.slice none 0 0],.int .i64 20]) ?_ rfl ?_
  ·simp [results,Tryz.results37,go_sem, *]
  ·rw [HE.out];exact ⟨_,rfl,qdr _ _,hbs⟩
 ·have h0':decide (n<1)=false:=by simpa using h0
  by_cases h1:4096<n
  ·have HE:=hide (show newD n=(dz,20) by unfold newD;rw [if_pos (.inr h1)])
   clear hs1
   go_enter Tryz.func37,Tryz.ntmps37
   obtain ⟨ws,ews,hws,hgs⟩:=qcp (.slice none 0 0) (.slice none 0 0) (.slice none 0 0) hr1;obtain ⟨z1,z2,z3,z4⟩:=cells3 hr1;obtain ⟨q1,q2,q3,q4⟩:=cells3 hws;have hbs:=hb1.grown hgs hb1.size (fun k hk=>by cases hk;exact Nat.le_refl _);clear hws hgs;go_wp2
   refine bodyPost_ret (v:=.tuple #[.agg #[.slice none 0 0,.slice none 0 0,.slice none 0 0],.int .i64 20]) ?_ rfl ?_
   ·simp [results,Tryz.results37,go_sem, *]
   ·rw [HE.out];exact ⟨_,rfl,qdr _ _,hbs⟩
  ·have h1':decide (4096<n)=false:=by simpa using h1
   obtain ⟨k,rfl⟩:∃k:Nat,n=k:=⟨n.toNat,by omega⟩;have HE:=hide (show newD k=((List.replicate (k*128) 0,[],[]),0) by unfold newD;rw [if_neg (by omega)];rfl)
   have hw:wrap64 ((k:Int)*128)=((k*128:Nat):Int):=by unfold wrap64;omega
   obtain ⟨i0,hi,hz0,hz1,hz2⟩:=info_parts Tryz.infoB;obtain ⟨w2,hmake,hown2,hg2⟩:=run_make_full (P:=Tryz.prog) w1 w1.heap.size 23 5 i0 _ 1 Tryz.underlying23 hi hz0 hz1 .i64 .i64 (k*128) (by rw [hz2];omega) (by unfold maxLen;omega) (Nat.le_refl _);have hb2:Below w1.heap.size w1 w2:=(Below.refl _ _).grown hg2 (Nat.le_refl _) (fun k hk=>by cases hk)
   have hO2:OwB w2 w1.heap.size (.slice (some ⟨w1.heap.size,0,none⟩) (k*128) (k*128)) (List.replicate (k*128) 0):=by
    show w2.ownsRow _ _ _ _ _ _
    rw [List.length_replicate]
    have e:(madeCells (Value.int IntKind.u8 0).cells (k*128*1)).toList=u8v (List.replicate (k*128) 0):=by
     show (madeCells #[Value.int .u8 0] (k*128*1)).toList=_
     rw [toList_madeCells_one]
     simp [u8v]
    rw [←e];exact hown2
   have hr2:=qak _ _ _ _ hr1 hb2;have hB2:Below w.heap.size w w2:=hb1.trans (hb2.mono hb1.size);obtain ⟨ws,ews,hws,hgs⟩:=qcp (.slice (some ⟨w1.heap.size,0,none⟩) (k*128) (k*128)) (.slice none 0 0) (.slice none 0 0) hr2;obtain ⟨z1,z2,z3,z4⟩:=cells3 hr2;obtain ⟨q1,q2,q3,q4⟩:=cells3 hws;have hbs:=hB2.grown hgs hB2.size (fun k hk=>by cases hk;exact Nat.le_refl _);have HO:Hid (OwD ws w.heap.size (.agg #[.slice (some ⟨w1.heap.size,0,none⟩) (k*128) (k*128),.slice none 0 0,.slice none 0 0]) (List.replicate (k*128) 0,[],[])):=⟨_,_,_,rfl,(hO2.grown hgs (by omega)).mono (by omega),⟨[],rfl,World.ownsRow_nil _ _ _ _,by simp⟩,⟨[],rfl,World.ownsRow_nil _ _ _ _,by simp⟩⟩;rw [show ((k*128:Nat):Int)=(k:Int)*128 by omega] at hmake;clear hs1 hi hz0 hz1 hz2 hown2 hg2 hb2 hO2 hr2 hws hgs hr1 hB2 hw
   go_enter Tryz.func37,Tryz.ntmps37
   go_wp2
   refine bodyPost_ret (v:=.tuple #[.agg #[.slice (some ⟨w1.heap.size,0,none⟩) (k*128) (k*128),.slice none 0 0,.slice none 0 0],.int .i64 0]) ?_ rfl ?_
   ·simp [results,Tryz.results37,go_sem, *]
   ·rw [HE.out];exact ⟨_,rfl,HO.out,hbs⟩
theorem qabk {a b:Bool} (h:a=b):Ending.returned (.bool a)=.returned (.bool b):=by rw [h]
theorem bs_beq (l m:List UInt8):((bs l).toList==(bs m).toList)=decide (l=m):=by
 have e:∀x:List UInt8,(bs x).toList=x:=fun x=>by rw [ByteArray.toList_eq];simp [bs]
 rw [e,e]
 by_cases h:l=m<;>simp [h]
theorem qrn (a b:Value) (l m:List UInt8) (w:World) (h:Rd w a l) (k:Rd w b m):
  Calls Tryz.prog 106 #[a,b] w fun e w'=>e=.returned (.bool (decide (l=m)))∧w'=w:=by
 have h1:=qio (P:=Tryz.prog) 23 5 9 Tryz.underlying23 Tryz.underlying5 Tryz.underlying9 h;have h2:=qio (P:=Tryz.prog) 23 5 9 Tryz.underlying23 Tryz.underlying5 Tryz.underlying9 k;clear h k
 go_enter Tryz.func106,Tryz.ntmps106
 go_wp2;go_ret;exact ⟨qabk (bs_beq l m),rfl⟩
def qfe (d:Dk) (n:Int):List UInt8 × Int:=if chk d≠0 then ([],chk d) else if n<0∨(mny d:Int)≤n then ([],2) else (nowD d n.toNat,0)
def qjw (d:Dk):Int × Int:=if chk d≠0 then (0,chk d) else (mny d,0)
theorem qajt {w:World} {base g:Nat} {l:List UInt8} (h:Blk w base g l):OwB w base (.slice (some ⟨g,0,none⟩) 128 128) l:=by
 obtain ⟨h1,h2,h3⟩:=h
 show w.ownsRow _ _ _ _ _ _
 rw [h2];refine ⟨by simp [u8v,h2],.inr ⟨g,128,_,rfl,h1,h3,Nat.le_refl _,by unfold maxLen;decide,by simp [u8v,h2], ?_⟩⟩;rw [List.take_of_length_le (by simp [u8v,h2])]
theorem qro {w:World} {a:Option Addr} {n c:Nat} {l:List UInt8} (h:Rd w (.slice a n c) l) (lo hi:Nat) (h1:lo<hi) (h2:hi≤l.length):∃b off,a=some ⟨b,off,none⟩∧n=l.length∧n≤c∧Rd w (.slice (some ⟨b,off+lo,none⟩) (hi - lo) (c - lo)) ((l.drop lo).take (hi - lo)):=by
 rcases h with ⟨rfl,_⟩ | ⟨b,off,c',e,e1,e2,hc⟩
 ·simp at h2;omega
 ·cases e
  refine ⟨b,off,rfl,rfl,e1, ?_⟩
  have hl:((l.drop lo).take (hi - lo)).length=hi - lo:=by rw [List.length_take,List.length_drop];omega
  refine .inr ⟨b,off+lo,c - lo,by rw [hl],by rw [hl];omega,by omega,fun j hj=>?_⟩;rw [hl] at hj
  have:=hc (lo+j) (by omega)
  rw [Nat.add_assoc];rw [this]
  simp
theorem wrapq {k q n1 c1:Nat} (h:n1=128*q) (hk:k<q) (hc:n1≤c1):(k+1)*128≤n1∧¬k*128=c1∧(k+1)*128≤c1:=by omega
theorem wrapk (k:Nat) (h:k≤1000000):wrap64 ((k:Int)*128)=((k*128:Nat):Int)∧wrap64 (((k:Int)+1)*128)=(((k+1)*128:Nat):Int)∧wrap64 ((k:Int)+1)=(k:Int)+1:=by
 unfold wrap64;refine ⟨by omega,by omega,by omega⟩
theorem qafq {d:Dk} {v:Value} (n:Int) (w:World) (hD:RdD w v d):
  Calls Tryz.prog 104 #[v,.int .i64 n] w fun e w'=>∃bv,e=.returned (.tuple #[bv,.int .i64 (qfe d n).2])∧OwB w' w.heap.size bv (qfe d n).1∧Below w.heap.size w w':=by
 obtain ⟨a1,c1,a2,c2,a3,c3,rfl,h1,h2,_⟩:=hD.form;have hn1:d.1.length≤maxLen:=h1.len_le;have HD:=hide hD;have H1:=hide h1;have H2:=hide h2;clear hD h1 h2;generalize e1:d.1.length=n1 at *;generalize e2:d.2.1.length=n2 at *;generalize e3:d.2.2.length=n3 at *;have E1:=hide e1;have E2:=hide e2;clear e1 e2 e3;obtain ⟨q,eq⟩:∃q,q=n1 / 128:=⟨_,rfl⟩;have HM:=hide (show mny d=q by rw [mny,E1.out,eq]);have HC:=hide (fun wx=>eq ▸ qfg a1 a2 a3 n1 c1 n2 c2 n3 c3 hn1 wx:∀wx,Calls Tryz.prog 182 #[.agg #[.slice a1 n1 c1,.slice a2 n2 c2,.slice a3 n3 c3]] wx fun e w'=>e=.returned (.int .i64 q)∧Below wx.heap.size wx w');clear eq;obtain ⟨w1,ew⟩:∃w1,w.alloc (.cells #[.slice a1 n1 c1,.slice a2 n2 c2,.slice a3 n3 c3] 27)=w1:=⟨_,rfl⟩
 have hb1:Below w.heap.size w w1:=by rw [←ew];exact (Below.refl _ _).alloc (Nat.le_refl _) _
 have k0:w1.cell? ⟨w.heap.size,0,none⟩=some (.slice a1 n1 c1):=by rw [←ew];simp
 have k1:w1.cell? ⟨w.heap.size,1,none⟩=some (.slice a2 n2 c2):=by rw [←ew];simp
 have k2:w1.cell? ⟨w.heap.size,2,none⟩=some (.slice a3 n3 c3):=by rw [←ew];simp
 go_enter Tryz.func104,Tryz.ntmps104
 go_wp2_with fail
 refine (qhw (d:=d) _ (HD.out.carry hb1)).mono ?_
 rintro e w2 ⟨rfl,hb2⟩;have hB2:Below w.heap.size w w2:=hb1.trans (hb2.mono hb1.size);have k0':=qaa _ _ _ _ k0 hb2;have k1':=qaa _ _ _ _ k1 hb2;have k2':=qaa _ _ _ _ k2 hb2;clear ew k0 k1 k2 hb1 hb2
 rcases qep d with ⟨hok,hck⟩ | ⟨hok,hck⟩
 ·rw [hck]
  by_cases hn0:n<0
  ·have HE:=hide (show qfe d n=([],2) by unfold qfe;rw [if_neg (by rw [hck];decide),if_pos (.inl hn0)])
   clear hck hok;go_wp2;go_ret2;rw [HE.out];exact ⟨_,rfl,World.ownsRow_nil _ _ _ _,hB2⟩
  ·have hn0':decide (n<0)=false:=by simpa using hn0
   obtain ⟨hfine,hc1,hc2⟩:=Fine.of_ok hok;have HF:=hide hfine;have HK:=hide hck;clear hck hok hfine
   go_wp2_with fail
   refine (HC.out _).mono ?_
   rintro e w3 ⟨rfl,hb3⟩;have hB3:Below w.heap.size w w3:=hB2.trans (hb3.mono hB2.size);have l0:=qaa _ _ _ _ k0' hb3;have l1:=qaa _ _ _ _ k1' hb3;clear k0' k1' k2' hb3 hB2
   by_cases hn1':(q:Int)≤n
   ·have HE:=hide (show qfe d n=([],2) by unfold qfe;rw [if_neg (by rw [HK.out];decide),if_pos (.inr (by rw [HM.out];exact hn1'))])
    go_wp2;go_ret2;rw [HE.out];exact ⟨_,rfl,World.ownsRow_nil _ _ _ _,hB3⟩
   ·obtain ⟨k,rfl⟩:∃k:Nat,n=k:=⟨n.toNat,by omega⟩
    have hkq:k<q:=by omega
    have hnq:decide ((q:Int)≤k)=false:=by simpa using hn1'
    have HE:=hide (show qfe d k=(nowD d k,0) by unfold qfe;rw [if_neg (by rw [HK.out];decide),if_neg (by rw [HM.out];omega)];rfl);clear hn0 hn1'
    go_wp2_with fail
    refine (qwx a2 n2 c2 d.2.1 _ E2.out.symm (by have:=HF.out.2.1;omega) (fun p hp=>by have:=qd3 (HF.out.2.2.2 p hp);omega) (H2.out.carry hB3)).mono ?_
    rintro e w4 ⟨b,rfl,hm4,hb4⟩;have hB4:Below w.heap.size w w4:=hB3.trans (hb4.mono hB3.size);have m0:=qaa _ _ _ _ l0 hb4;have hkey:keyOf Tryz.prog 3 (.int .i64 (k:Int))=some (.int .i64 (k:Int)):=Maps.keyOf_int_mk Tryz.underlying3 (wf64 (by omega) (by have:=HM.out;omega));obtain ⟨D,G,g1,g2,g3,g4,g5,g6⟩:=hm4;obtain ⟨u,ps,hlook,hv⟩:=g1.look_ok (t:=214) (e:=23) qn0 Tryz.underlying214 (qabd _) (zd:=.nil) (zp:=[]) rfl hkey;rw [g3] at hv
    cases hl:qcn k d.2.1 with
    | some l=>
     obtain ⟨g,eg,hB⟩:=g5 k l hl;rw [eg] at hv;have hhas:Maps.has D (.int .i64 (k:Int))=true:=Maps.has_true_of_atKey (y:=.lit (.int .i64 g)) (fun z=>by rw [g3,eg]);rw [hhas] at hlook
     obtain rfl:u=.slice (some ⟨g,0,none⟩) 128 128:=by
      rcases qe0 hv with ⟨_,h⟩ | ⟨g',h,h'⟩
      ·cases h
      ·cases h';exact h
     have HO:=hide (qajt hB);have HR:=hide (show nowD d k=l by unfold nowD;rw [hl];rfl);have hsz3:=hB3.size;clear hl g1 g2 g3 g4 g5 g6 hkey hv hhas hB eg hb4;go_wp2;go_ret2;rw [HE.out,HR.out];exact ⟨_,rfl,HO.out.mono hsz3,hB4⟩
    | none=>
     have eg:=g4 k hl;rw [eg] at hv;have hhas:Maps.has D (.int .i64 (k:Int))=false:=Maps.has_false_of_atKey (fun z=>by rw [g3,eg]);rw [hhas] at hlook
     obtain rfl:u=.slice none 0 0:=by
      rcases qe0 hv with ⟨h,_⟩ | ⟨g',_,h'⟩
      ·exact h
      ·cases h'
     have HR:=hide (show nowD d k=blk d.1 k by unfold nowD;rw [hl];rfl)
     have hlen:d.1.length=128*q:=by have:=HF.out.1;rw [HM.out] at this;exact this
     obtain ⟨b9,o9,rfl,en,hnc,hrd⟩:=qro (H1.out.carry hB4) (k*128) ((k+1)*128) (by omega) (by omega)
     have eb:(d.1.drop (k*128)).take ((k+1)*128 - k*128)=blk d.1 k:=by
      unfold blk;rw [show (k+1)*128 - k*128=128 by omega,Nat.mul_comm]
     rw [eb] at hrd
     have hx:(k+1)*128 - k*128=128:=by omega
     rw [hx] at hrd;have HRD:=hide hrd
     have hn1q:n1=128*q:=by rw [en];exact hlen
     have HLB:=hide (show (blk d.1 k).length=128 by unfold blk;rw [List.length_take,List.length_drop];omega);obtain ⟨hw1,hw2,hw3⟩:=wrapk k (by have:=HM.out;omega);obtain ⟨hh1,hh2,hh3⟩:=wrapq hn1q hkq hnc;have hsz3:=hB4.size;clear hl g1 g2 g3 g4 g5 g6 hkey hv hhas eg hrd hn1q en hlen hb4 eb l0 l1
     go_wp2_with fail
     refine (qhv _ (c1 - k*128) 128 (blk d.1 k) _ HLB.out.symm (by rw [HLB.out];decide) HRD.out).mono ?_
     rintro e w5 ⟨bv,rfl,hO5,hb5⟩;have HO:=hide (hO5.mono hsz3);have hB5:Below w.heap.size w w5:=hB4.trans (hb5.mono hsz3);clear hO5 hb5 hh1 hh2 hh3 hw1 hw2 hw3 hx;go_wp2;go_ret2;rw [HE.out,HR.out];exact ⟨_,rfl,HO.out,hB5⟩
 ·rw [hck]
  have HE:=hide (show qfe d n=([],20) by unfold qfe;rw [if_pos (by rw [hck];decide),hck]);clear hck hok;go_wp2;go_ret2;rw [HE.out];exact ⟨_,rfl,World.ownsRow_nil _ _ _ _,hB2⟩
theorem qw0 {d:Dk} {v:Value} (w:World) (hD:RdD w v d):
  Calls Tryz.prog 150 #[v] w fun e w'=>e=.returned (.tuple #[.int .i64 (qjw d).1,.int .i64 (qjw d).2])∧Below w.heap.size w w':=by
 obtain ⟨a1,c1,a2,c2,a3,c3,rfl,h1,h2,_⟩:=hD.form;have hn1:d.1.length≤maxLen:=h1.len_le;have HD:=hide hD;clear hD h1 h2;generalize e1:d.1.length=n1 at *;generalize e2:d.2.1.length=n2 at *;generalize e3:d.2.2.length=n3 at *;have E1:=hide e1;clear e1 e2 e3;obtain ⟨q,eq⟩:∃q,q=n1 / 128:=⟨_,rfl⟩;have HM:=hide (show mny d=q by rw [mny,E1.out,eq]);have HC:=hide (fun wx=>eq ▸ qfg a1 a2 a3 n1 c1 n2 c2 n3 c3 hn1 wx:∀wx,Calls Tryz.prog 182 #[.agg #[.slice a1 n1 c1,.slice a2 n2 c2,.slice a3 n3 c3]] wx fun e w'=>e=.returned (.int .i64 q)∧Below wx.heap.size wx w');clear eq;obtain ⟨w1,ew⟩:∃w1,w.alloc (.cells #[.slice a1 n1 c1,.slice a2 n2 c2,.slice a3 n3 c3] 27)=w1:=⟨_,rfl⟩
 have hb1:Below w.heap.size w w1:=by rw [←ew];exact (Below.refl _ _).alloc (Nat.le_refl _) _
 have k0:w1.cell? ⟨w.heap.size,0,none⟩=some (.slice a1 n1 c1):=by rw [←ew];simp
 have k1:w1.cell? ⟨w.heap.size,1,none⟩=some (.slice a2 n2 c2):=by rw [←ew];simp
 have k2:w1.cell? ⟨w.heap.size,2,none⟩=some (.slice a3 n3 c3):=by rw [←ew];simp
 go_enter Tryz.func150,Tryz.ntmps150
 go_wp2_with fail
 refine (qhw (d:=d) _ (HD.out.carry hb1)).mono ?_
 rintro e w2 ⟨rfl,hb2⟩;have hB2:Below w.heap.size w w2:=hb1.trans (hb2.mono hb1.size);have k0':=qaa _ _ _ _ k0 hb2;have k1':=qaa _ _ _ _ k1 hb2;have k2':=qaa _ _ _ _ k2 hb2;clear ew k0 k1 k2 hb1 hb2
 rcases qep d with ⟨hok,hck⟩ | ⟨hok,hck⟩
 ·rw [hck]
  have HE:=hide (show qjw d=((q:Int),0) by unfold qjw;rw [if_neg (by rw [hck];decide),HM.out]);clear hck hok
  go_wp2_with fail
  refine (HC.out _).mono ?_
  rintro e w3 ⟨rfl,hb3⟩;have hB3:Below w.heap.size w w3:=hB2.trans (hb3.mono hB2.size);go_wp2;go_ret2;rw [HE.out];exact ⟨rfl,hB3⟩
 ·rw [hck]
  have HE:=hide (show qjw d=(0,20) by unfold qjw;rw [if_pos (by rw [hck];decide),hck]);clear hck hok;go_wp2;go_ret2;rw [HE.out];exact ⟨rfl,hB2⟩
end Go.Proofs.YtmeaiocohalphaaGreatDoor

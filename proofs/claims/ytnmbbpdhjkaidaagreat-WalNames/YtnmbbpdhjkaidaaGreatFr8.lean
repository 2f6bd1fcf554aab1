/-
  What frame's Read does: the log of some blocks.
-/
import Derived.Test.YtnmbbpdhjkaidaaGreatFr7
set_option maxHeartbeats 4000000
set_option maxRecDepth 100000
namespace Go.Proofs.YtnmbbpdhjkaidaaGreat
open Go.RowKit
set_option linter.all false
def LogAt (w:World) (B:Nat) (rv:Value) (k p m:Nat):Prop:=w.heap[B]? =some (.cells #[rv,.int .i64 k,.int .u32 p,.int .u32 m] 76 (0,0))
theorem LogAt.cells {w:World} {B:Nat} {rv:Value} {k p m:Nat} (h:LogAt w B rv k p m):w.cell? ⟨B,0,none⟩=some rv∧w.cell? ⟨B,1,none⟩=some (.int .i64 k)∧w.cell? ⟨B,2,none⟩=some (.int .u32 p)∧w.cell? ⟨B,3,none⟩=some (.int .u32 m)∧∀j,w.frozen? ⟨B,j,none⟩=false:=qcy h
theorem LogAt.lt {w:World} {B:Nat} {rv:Value} {k p m:Nat} (h:LogAt w B rv k p m):B<w.heap.size:=(Array.getElem?_eq_some_iff.1 h).1
theorem LogAt.carry {w w':World} {B base:Nat} {rv:Value} {k p m:Nat} (h:LogAt w B rv k p m) (hb:Below base w w') (hB:B<base) (hbs:base≤w.heap.size):LogAt w' B rv k p m:=by
 unfold LogAt at *
 rw [hb.block B (by omega)];exact h
theorem LogAt.set0 {w:World} {B:Nat} {rv:Value} {k p m:Nat} (h:LogAt w B rv k p m) (v:Value):LogAt (w.setCell ⟨B,0,none⟩ v) B v k p m:=heap_setCell_same _ _ 0 _ _ _ h
theorem LogAt.set1 {w:World} {B:Nat} {rv:Value} {k p m:Nat} (h:LogAt w B rv k p m) (k':Nat):LogAt (w.setCell ⟨B,1,none⟩ (.int .i64 k')) B rv k' p m:=heap_setCell_same _ _ 1 _ _ _ h
theorem LogAt.set2 {w:World} {B:Nat} {rv:Value} {k p m:Nat} (h:LogAt w B rv k p m) (p':Nat):LogAt (w.setCell ⟨B,2,none⟩ (.int .u32 p')) B rv k p' m:=heap_setCell_same _ _ 2 _ _ _ h
theorem LogAt.set3 {w:World} {B:Nat} {rv:Value} {k p m:Nat} (h:LogAt w B rv k p m) (m':Nat):LogAt (w.setCell ⟨B,3,none⟩ (.int .u32 m')) B rv k p m':=heap_setCell_same _ _ 3 _ _ _ h
abbrev Lg:=List (List UInt8) × Nat × Nat × Nat
def rdE (g:Nat) (l:List (List UInt8)):Int:=if g=0 then 2 else chkL l
def rdG (g:Nat) (l:List (List UInt8)):Lg:=if rdE g l≠0 then ([],0,0,0) else ((logO g l).map (·.1),sumO (logO g l),endO 0 (logO g l),qb0 g (l.drop (sumO (logO g l))))
def qy6 (g:Nat) (l:List (List UInt8)) (S:List Op):Prop:=
 logO g l=S++qbc g (l.length+1 - S.length) (1+S.length) (endO 0 S) (l.drop (sumO S))∧S.length≤sumO S∧sumO S≤l.length∧endO 0 S<4294967296
theorem qy7 (g:Nat) (l:List (List UInt8)):qy6 g l []:=⟨by simp [logO,endO,sumO],Nat.le_refl _,Nat.zero_le _,by show (0:Nat)<_;omega⟩
theorem qlq {g:Nat} {l:List (List UInt8)} {S:List Op} (h:qy6 g l S) (h0:(opn g (1+S.length) (endO 0 S) (l.drop (sumO S))).2.2=0):logO g l=S:=by
 rw [h.1,qiz h0,List.append_nil]
theorem qvq {g:Nat} {l:List (List UInt8)} {S:List Op} (h:qy6 g l S) (h0:(opn g (1+S.length) (endO 0 S) (l.drop (sumO S))).2.2≠0):qy6 g l (S++[opn g (1+S.length) (endO 0 S) (l.drop (sumO S))]):=by
 obtain ⟨h1,h2,h3,h4⟩:=h;have hle:=qg9 g (1+S.length) (endO 0 S) (l.drop (sumO S));rw [List.length_drop] at hle;have hsa:=qh9 g (1+S.length) (endO 0 S) (l.drop (sumO S));generalize ho:opn g (1+S.length) (endO 0 S) (l.drop (sumO S))=o at *;refine ⟨?_, ?_, ?_, ?_⟩
 ·rw [qeo,qgi,List.length_append,List.length_singleton]
  obtain ⟨f,hf⟩:∃f,l.length+1 - S.length=f+1:=⟨l.length - S.length,by omega⟩;rw [h1,hf,qbc,ho,if_neg h0,List.drop_drop,List.append_assoc];rw [show l.length+1 - (S.length+1)=f by omega,show 1+S.length+1=1+(S.length+1) by omega];rfl
 ·rw [qeo,List.length_append,List.length_singleton];omega
 ·rw [qeo];omega
 ·rw [qgi];exact hsa
theorem num_fr (N N1:Nat) (h:N1=1+N) (hN:N≤4096):IntKind.i64.wrap ((N:Int)+1)=(N1:Int)∧wrap64 ((N:Int)+1)=(N1:Int)∧IntKind.u32.wrap (N1:Int)=(N1:Int)∧N1<4294967296:=by
 refine ⟨?_, ?_, ?_,by omega⟩
 ·rw [IntKind.wrap_i64];omega
 ·unfold wrap64;omega
 ·rw [IntKind.wrap_u32'];omega
theorem qade (k oK kk n:Nat) (h:kk=k+oK) (h1:oK≤n - k) (h2:k≤n) (h3:oK≠0) (hn:n≤4096):wrap64 ((k:Int)+(oK:Int))=(kk:Int)∧IntKind.i64.wrap ((k:Int)+(oK:Int))=(kk:Int)∧n+1 - kk<n+1 - k:=by
 refine ⟨?_, ?_,by omega⟩
 ·unfold wrap64;omega
 ·rw [IntKind.wrap_i64];omega
theorem LogAt.other {w:World} {B:Nat} {rv:Value} {k p m:Nat} (h:LogAt w B rv k p m) (a:Addr) (v:Value) (hne:B≠a.block):LogAt (w.setCell a v) B rv k p m:=by
 unfold LogAt at *
 rw [heap_setCell_other w a B v hne];exact h
theorem qif {l:List (List UInt8)} {k:Nat} (h:l.length≤4096):(l.drop k).length≤4096:=by rw [List.length_drop];omega
def lgK:Option Value→Nat
 | some (.int _ k)=>k.toNat
 | _=>0
theorem qafv (gn:Nat) (a:Option Addr) (n c:Nat) (l:List (List UInt8)) (w:World) (hg:gn<4294967296) (hrd:RdL w (.slice a n c) l):
  Calls Tryz.prog 28 #[.int .u32 gn,.slice a n c] w fun e w'=>∃rv,e=.returned (.tuple #[.agg #[rv,.int .i64 (rdG gn l).2.1,.int .u32 (rdG gn l).2.2.1,.int .u32 (rdG gn l).2.2.2],.int .i64 (rdE gn l)])∧OwBB w' w.heap.size rv (rdG gn l).1∧Below w.heap.size w w':=by
 have HN:=hide hrd.le.1;have HR:=hide hrd;have HGN:=hide hg;clear hrd hg
 by_cases h0:gn=0
 ·have HE:=hide (show rdE gn l=2 by unfold rdE;rw [if_pos h0])
  have HV:=hide (show rdG gn l=([],0,0,0) by unfold rdG;rw [if_pos (by rw [HE.out];decide)])
  have h0':((gn:Int)==0)=true:=by simpa using h0
  have hB:∀o,Below w.heap.size w (w.alloc o):=fun o=>(Below.refl _ _).alloc (Nat.le_refl _) o
  clear h0
  go_enter Tryz.func28,Tryz.ntmps28
  go_wp2
  refine bodyPost_ret (v:=.tuple #[.agg #[.slice none 0 0,.int .i64 0,.int .u32 0,.int .u32 0],.int .i64 2]) ?_ rfl ⟨.slice none 0 0, ?_, ?_,hB _⟩
  ·simp [results,Tryz.results28,go_sem]
  ·rw [HE.out,HV.out];rfl
  ·rw [HV.out];exact OwBB.nil _ _
 ·have h0':((gn:Int)==0)=false:=by simpa using (by omega:¬(gn:Int)=0)
  by_cases he:chkL l=0
  ·have HE:=hide (show rdE gn l=0 by unfold rdE;rw [if_neg h0,he])
   have HRG:=hide (show rdG gn l=((logO gn l).map (·.1),sumO (logO gn l),endO 0 (logO gn l),qb0 gn (l.drop (sumO (logO gn l)))) by unfold rdG;rw [if_neg (fun h=>h HE.out)]);have HL4:=hide (qoj he).1;have HA:=hide (qoj he).2;have HC:=hide he
   have hn4:n≤4096:=by have:=HL4.out;have:=HN.out;omega
   clear he h0
   go_enter Tryz.func28,Tryz.ntmps28
   go_wp2_with fail
   have hb1:∀o,Below w.heap.size w (w.alloc o):=fun o=>(Below.refl _ _).alloc (Nat.le_refl _) o
   refine (qj5 a n c l _ (HR.out.carry (hb1 _))).mono ?_
   rintro e w1 ⟨rfl,rfl⟩;rw [HC.out];go_wp2;clear h0' hb1
   go_loopw [10] (fun _ wr=>∃(S:List Op) (rva:Option Addr) (rc:Nat),Hid (qy6 gn l S)∧Hid (LogAt wr (w.heap.size+1) (.slice rva S.length rc) (sumO S) (endO 0 S) 0)∧Hid (OwBB wr (w.heap.size+2) (.slice rva S.length rc) (S.map (·.1)))∧Hid (LogAt wr w.heap.size (.slice none 0 0) 0 0 0)∧Below w.heap.size w wr∧w.heap.size+2≤wr.heap.size) (fun _ wr=>n+1 - lgK (wr.cell? ⟨w.heap.size+1,1,none⟩))
   case atStart=>
    refine ⟨[],none,0,hide (qy7 _ _),hide ?_,hide (OwBB.nil _ _),hide ?_,((Below.refl _ _).alloc (Nat.le_refl _) _).alloc (by simp) _,by simp⟩
    ·exact qch _ _ _
    ·unfold LogAt
     rw [((Below.refl _ (w.alloc (.cells #[.slice none 0 0,.int .i64 0,.int .u32 0,.int .u32 0] 76))).alloc (Nat.le_refl _) _).block _ (by simp)];exact heap_alloc_new w _
   case round=>
    obtain ⟨S,rva,rc,HSF,hlog,hrow,hres,hbel,hsz⟩:=hrel;obtain ⟨recs,hrecs⟩:∃recs,recs=S.map (·.1):=⟨_,rfl⟩;obtain ⟨N,hN⟩:∃N,N=S.length:=⟨_,rfl⟩;obtain ⟨k,hk⟩:∃k,k=sumO S:=⟨_,rfl⟩;obtain ⟨p,hp⟩:∃p,p=endO 0 S:=⟨_,rfl⟩;obtain ⟨N1,hN1⟩:∃N1,N1=1+N:=⟨_,rfl⟩;obtain ⟨⟨orec,os,oK⟩,ho⟩:∃o,o=opn gn N1 p (l.drop k):=⟨_,rfl⟩
    have hkn:k≤n:=by rw [hk,HN.out];exact HSF.out.2.2.1
    have hNk:N≤k:=by rw [hN,hk];exact HSF.out.2.1
    have HO:=hide (show sumO S=k∧endO 0 S=p∧S.map (·.1)=recs∧(orec,os,oK)=opn gn (1+S.length) (endO 0 S) (l.drop (sumO S)) from ⟨hk.symm,hp.symm,hrecs.symm,by rw [ho,hN1,hN,hp,hk]⟩);have HNN:=hide (show S.length=N from hN.symm)
    have hpl:p<4294967296:=by rw [hp];exact HSF.out.2.2.2
    rw [←hN,←hk,←hp] at hlog;rw [←hN,←hrecs] at hrow;obtain ⟨ha1,ha2,ha3,ha4⟩:=num_fr N N1 hN1 (Nat.le_trans hNk (Nat.le_trans hkn hn4));have hki:(k:Int)≤n:=Int.ofNat_le.2 hkn
    have HOP:=hide (show ∀(wx:World),Below w.heap.size w wx→∀(sa:Option Addr) (sn sc:Nat),RdL wx (.slice sa sn sc) (l.drop k)→Calls Tryz.prog 75 #[.int .u32 gn,.int .u32 N1,.int .u32 p,.slice sa sn sc] wx fun e w'=>∃v,e=.returned (.tuple #[v,.int .u32 os,.int .i64 oK])∧OwB w' wx.heap.size v orec∧Below wx.heap.size wx w' by
     intro wx hx sa sn sc hr;have hh:=qvo gn N1 p sa sn sc (l.drop k) wx HGN.out ha4 hpl hr (qif HL4.out) (fun b hb=>HA.out b (List.mem_of_mem_drop hb));rw [←ho] at hh
     exact hh)
    obtain ⟨hnc,hcut⟩:=HR.out.cut k (by rw [←HN.out];exact hkn);have HM:=hide (show lgK (wr.cell? ⟨w.heap.size+1,1,none⟩)=k by rw [hlog.out.cells.2.1];rfl);have HOK:=hide (show oK≤n - k∧os<4294967296 from ⟨by have:=qg9 gn N1 p (l.drop k);rwa [List.length_drop,←HN.out,←ho] at this,by have:=qh9 gn N1 p (l.drop k);rwa [←ho] at this⟩);clear hrecs hN hk hp hN1
    rcases hcut with ⟨rfl,rfl,hR⟩ | ⟨b,off,rfl,hcq,hR⟩ | ⟨ad,rfl,rfl,rfl,hcq,hlz⟩
    ·have HZ:=hide (show l.drop c=[] by rw [List.drop_of_length_le (by rw [←HN.out];exact Nat.le_refl _)])
     have HSL:=hide hR;have hk0:=(show oK=0 by have:=congrArg (fun x:Op=>x.2.2) ho;rw [HZ.out,qr8] at this;exact this);clear hR ho;go_wp2;have hK:Keeps (fun wx=>LogAt wx (w.heap.size+1) (.slice rva N rc) c p 0∧LogAt wx w.heap.size (.slice none 0 0) 0 0 0∧OwBB wx (w.heap.size+2) (.slice rva N rc) recs∧Below w.heap.size w wx∧w.heap.size+2≤wx.heap.size):=(qah _ _).and ((qah _ _).and (Keeps.and (fun _ _ h hb=>h.carry hb) ((qa9 w).and (qdn _))));have hS0:(fun wx=>LogAt wx (w.heap.size+1) (.slice rva N rc) c p 0∧LogAt wx w.heap.size (.slice none 0 0) 0 0 0∧OwBB wx (w.heap.size+2) (.slice rva N rc) recs∧Below w.heap.size w wx∧w.heap.size+2≤wx.heap.size) wr:=⟨hlog.out,hres.out,hrow.out,hbel,hsz⟩
     refine qaq hK (by kernel_rfl) hS0 ?_
     clear hS0;intro hS;generalize wr.drew=wd at *
     refine qad [0,1,2,3,4,5,6,7,8,9,10,11] (fuel:=8) (a':=?zp1a) (by kernel_rfl) (by kernel_rfl) (by kernel_rfl) ?zp1p hS ?zp1n
     case zp1p=>
      iterate 12 (apply Yl.cons rfl (by kernel_rfl);focus (rintro wx ⟨x1,x2,x3,x4,x5⟩;obtain ⟨y0,y1,y2,y3,y4⟩:=x1.cells;go_simp;all_goals (with_reducible rfl));try simp only [Act.put,sA,sB,sC])
      exact Yl.nil
     refine qb4 hK (i:=12) (R:=fun v wy=>∃pa pc,v=.tuple #[.slice pa orec.length pc,.int .u32 os,.int .i64 oK]∧OwB wy (w.heap.size+2) (.slice pa orec.length pc) orec) rfl (by kernel_rfl) (by rfl) (by go_simp) hS ((HOP.out _ hS.2.2.2.1 a 0 0 (by exact HSL.out.carry hS.2.2.2.1)).mono fun e w1 ⟨v,h1,h2,h3⟩=>by obtain ⟨pa,pc,rfl⟩:=h2.form;exact ⟨_,h1,⟨pa,pc,rfl,h2.mono hS.2.2.2.2⟩,h3⟩) (fun v _ _ ⟨pa,pc,h,h'⟩ hb=>⟨pa,pc,h,h'.carry hb⟩) ?_
     intro v33 w33 hKn hRn hSn;clear hK hS;have hK:=hKn;have hS:=hSn;clear hKn hSn;obtain ⟨pa,pc,rfl,hV⟩:=hRn
     try simp only [Act.put,sA,sB,sC]
     refine qad [13,14,15,16,17,18,19] (fuel:=0) (a':=?zp2a) (by kernel_rfl) (by kernel_rfl) (by kernel_rfl) ?zp2p hS ?zp2n
     case zp2p=>
      iterate 7 (apply Yl.cons rfl (by kernel_rfl);focus (rintro wx ⟨⟨x1,x2,x3,x4,x5⟩,_⟩;go_simp;all_goals (with_reducible rfl));try simp only [Act.put,sA,sB,sC])
      exact Yl.nil
     refine wpAnyH_done (by kernel_rfl) ?_ _
     refine NoPanic.normal ?_
     subst hk0;have HLG:=hide (qlq HSF.out (by have:=congrArg (fun x:Op=>x.2.2) HO.out.2.2.2;exact this.symm));obtain ⟨⟨u1,u2,u3,u4,u5⟩, -⟩:=hS;have HU1:=hide u1;have HU2:=hide u2;have HU3:=hide u3;obtain ⟨c0,c1,c2,c3,cf⟩:=u1.cells;clear hK hV u1 u2 u3 cf
     go_wp2_with fail
     refine (qgm gn a 0 0 (l.drop c) _ (HSL.out.carry u4) (qif HL4.out) (fun b hb=>HA.out b (List.mem_of_mem_drop hb))).mono ?_
     rintro e w5 ⟨rfl,hb5⟩;obtain ⟨G,hG⟩:∃G,G=qb0 gn (l.drop c):=⟨_,rfl⟩;rw [←hG];have h5:=HU1.out.carry hb5 HU1.out.lt (Nat.le_refl _);have h6:=HU2.out.carry hb5 HU2.out.lt (Nat.le_refl _);have h7:=HU3.out.carry hb5;have hB5:Below w.heap.size w w5:=u4.trans (hb5.mono u4.size);have hf3:=h5.cells.2.2.2.2 3;obtain ⟨d0,d1,d2,d3, -⟩:=h5.cells;have g1:=qaj w5 ⟨w.heap.size+1,3,none⟩ (.int .u32 G);have h8:=h5.set3 G
     have h9:LogAt (w5.setCell ⟨w.heap.size+1,3,none⟩ (.int .u32 G)) w.heap.size (.slice none 0 0) 0 0 0:=by
      unfold LogAt at *;rw [g1.block _ (Array.getElem?_eq_some_iff.1 h6).1 (by simp)];exact h6
     have h10:=h7.grown g1 (by show w.heap.size+1<_;omega);have hB6:Below w.heap.size w (w5.setCell ⟨w.heap.size+1,3,none⟩ (.int .u32 G)):=hB5.grown g1 hB5.size (fun i hi=>by cases hi;show w.heap.size≤w.heap.size+1;omega);have HW:=hide (⟨_,rfl⟩:∃w6,w6=w5.setCell ⟨w.heap.size+1,3,none⟩ (.int .u32 G));obtain ⟨ws,ews,hws,hgs⟩:=qj4 (.slice rva N rc) (.int .i64 c) (.int .u32 p) (.int .u32 G) h9;have h11:=h10.grown hgs (by omega);have hB7:Below w.heap.size w ws:=hB6.grown hgs hB6.size (fun i hi=>by cases hi;exact Nat.le_refl _);obtain ⟨p0,p1,p2,p3, -⟩:=qcy hws;obtain ⟨q0,q1,q2,q3,qf⟩:=h9.cells;obtain ⟨r0,r1,r2,r3, -⟩:=h8.cells;have EWS:=hide ews;have H11:=hide h11;have HGE:=hide hG;have f0:=qf 0;have f1:=qf 1;have f2:=qf 2;have f3:=qf 3;clear hws hgs ews h5 h6 h7 h8 h9 h10 h11 g1 hb5 HW hG qf c0 c1 c2 c3;go_wp2;rw [EWS.out]
     refine bodyPost_ret (v:=.tuple #[.agg #[.slice rva N rc,.int .i64 c,.int .u32 p,.int .u32 G],.int .i64 0]) ?_ rfl ⟨.slice rva N rc, ?_, ?_,hB7⟩
     ·simp [results,Tryz.results28,go_sem,p0,p1,p2,p3]
     ·rw [HE.out,HRG.out,HLG.out,HGE.out,HO.out.1,HO.out.2.1];try rfl
     ·rw [HRG.out,HLG.out,HO.out.2.2.1];exact H11.out.mono (by omega)
    ·have HSL:=hide hR
     have HRL:=hide (show recs.length=N by rw [←HO.out.2.2.1,List.length_map];exact HNN.out);clear hR ho;go_wp2;have hK:Keeps (fun wx=>LogAt wx (w.heap.size+1) (.slice rva N rc) k p 0∧LogAt wx w.heap.size (.slice none 0 0) 0 0 0∧OwBB wx (w.heap.size+2) (.slice rva N rc) recs∧Below w.heap.size w wx∧w.heap.size+2≤wx.heap.size):=(qah _ _).and ((qah _ _).and (Keeps.and (fun _ _ h hb=>h.carry hb) ((qa9 w).and (qdn _))));have hS0:(fun wx=>LogAt wx (w.heap.size+1) (.slice rva N rc) k p 0∧LogAt wx w.heap.size (.slice none 0 0) 0 0 0∧OwBB wx (w.heap.size+2) (.slice rva N rc) recs∧Below w.heap.size w wx∧w.heap.size+2≤wx.heap.size) wr:=⟨hlog.out,hres.out,hrow.out,hbel,hsz⟩
     refine qaq hK (by kernel_rfl) hS0 ?_
     clear hS0;intro hS;generalize wr.drew=wd at *
     refine qad [0,1,2,3,4,5,6,7,8,9,10,11] (fuel:=8) (a':=?zp3a) (by kernel_rfl) (by kernel_rfl) (by kernel_rfl) ?zp3p hS ?zp3n
     case zp3p=>
      iterate 12 (apply Yl.cons rfl (by kernel_rfl);focus (rintro wx ⟨x1,x2,x3,x4,x5⟩;obtain ⟨y0,y1,y2,y3,y4⟩:=x1.cells;go_simp;all_goals (with_reducible rfl));try simp only [Act.put,sA,sB,sC])
      exact Yl.nil
     refine qb4 hK (i:=12) (R:=fun v wy=>∃pa pc,v=.tuple #[.slice pa orec.length pc,.int .u32 os,.int .i64 oK]∧OwB wy (w.heap.size+2) (.slice pa orec.length pc) orec) rfl (by kernel_rfl) (by rfl) (by go_simp) hS ((HOP.out _ hS.2.2.2.1 (some ⟨b,off+k,none⟩) (n - k) (c - k) (by exact HSL.out.carry hS.2.2.2.1)).mono fun e w1 ⟨v,h1,h2,h3⟩=>by obtain ⟨pa,pc,rfl⟩:=h2.form;exact ⟨_,h1,⟨pa,pc,rfl,h2.mono hS.2.2.2.2⟩,h3⟩) (fun v _ _ ⟨pa,pc,h,h'⟩ hb=>⟨pa,pc,h,h'.carry hb⟩) ?_
     intro v33 w33 hKn hRn hSn;clear hK hS;have hK:=hKn;have hS:=hSn;clear hKn hSn;obtain ⟨pa,pc,rfl,hV⟩:=hRn
     try simp only [Act.put,sA,sB,sC]
     refine qad [13,14,15,16,17,18,19] (fuel:=0) (a':=?zp4a) (by kernel_rfl) (by kernel_rfl) (by kernel_rfl) ?zp4p hS ?zp4n
     case zp4p=>
      iterate 7 (apply Yl.cons rfl (by kernel_rfl);focus (rintro wx ⟨⟨x1,x2,x3,x4,x5⟩,_⟩;go_simp;all_goals (with_reducible rfl));try simp only [Act.put,sA,sB,sC])
      exact Yl.nil
     refine wpAnyH_done (by kernel_rfl) ?_ _
     refine NoPanic.normal ?_
     by_cases hk0:oK=0
     ·skip
      subst hk0;have HLG:=hide (qlq HSF.out (by have:=congrArg (fun x:Op=>x.2.2) HO.out.2.2.2;exact this.symm));obtain ⟨⟨u1,u2,u3,u4,u5⟩, -⟩:=hS;have HU1:=hide u1;have HU2:=hide u2;have HU3:=hide u3;obtain ⟨c0,c1,c2,c3,cf⟩:=u1.cells;clear hK hV u1 u2 u3 cf
      go_wp2_with fail
      refine (qgm gn (some ⟨b,off+k,none⟩) (n - k) (c - k) (l.drop k) _ (HSL.out.carry u4) (qif HL4.out) (fun b hb=>HA.out b (List.mem_of_mem_drop hb))).mono ?_
      rintro e w5 ⟨rfl,hb5⟩;obtain ⟨G,hG⟩:∃G,G=qb0 gn (l.drop k):=⟨_,rfl⟩;rw [←hG];have h5:=HU1.out.carry hb5 HU1.out.lt (Nat.le_refl _);have h6:=HU2.out.carry hb5 HU2.out.lt (Nat.le_refl _);have h7:=HU3.out.carry hb5;have hB5:Below w.heap.size w w5:=u4.trans (hb5.mono u4.size);have hf3:=h5.cells.2.2.2.2 3;obtain ⟨d0,d1,d2,d3, -⟩:=h5.cells;have g1:=qaj w5 ⟨w.heap.size+1,3,none⟩ (.int .u32 G);have h8:=h5.set3 G
      have h9:LogAt (w5.setCell ⟨w.heap.size+1,3,none⟩ (.int .u32 G)) w.heap.size (.slice none 0 0) 0 0 0:=by
       unfold LogAt at *;rw [g1.block _ (Array.getElem?_eq_some_iff.1 h6).1 (by simp)];exact h6
      have h10:=h7.grown g1 (by show w.heap.size+1<_;omega);have hB6:Below w.heap.size w (w5.setCell ⟨w.heap.size+1,3,none⟩ (.int .u32 G)):=hB5.grown g1 hB5.size (fun i hi=>by cases hi;show w.heap.size≤w.heap.size+1;omega);have HW:=hide (⟨_,rfl⟩:∃w6,w6=w5.setCell ⟨w.heap.size+1,3,none⟩ (.int .u32 G));obtain ⟨ws,ews,hws,hgs⟩:=qj4 (.slice rva N rc) (.int .i64 k) (.int .u32 p) (.int .u32 G) h9;have h11:=h10.grown hgs (by omega);have hB7:Below w.heap.size w ws:=hB6.grown hgs hB6.size (fun i hi=>by cases hi;exact Nat.le_refl _);obtain ⟨p0,p1,p2,p3, -⟩:=qcy hws;obtain ⟨q0,q1,q2,q3,qf⟩:=h9.cells;obtain ⟨r0,r1,r2,r3, -⟩:=h8.cells;have EWS:=hide ews;have H11:=hide h11;have HGE:=hide hG;have f0:=qf 0;have f1:=qf 1;have f2:=qf 2;have f3:=qf 3;clear hws hgs ews h5 h6 h7 h8 h9 h10 h11 g1 hb5 HW hG qf c0 c1 c2 c3;go_wp2;rw [EWS.out]
      refine bodyPost_ret (v:=.tuple #[.agg #[.slice rva N rc,.int .i64 k,.int .u32 p,.int .u32 G],.int .i64 0]) ?_ rfl ⟨.slice rva N rc, ?_, ?_,hB7⟩
      ·simp [results,Tryz.results28,go_sem,p0,p1,p2,p3]
      ·rw [HE.out,HRG.out,HLG.out,HGE.out,HO.out.1,HO.out.2.1];try rfl
      ·rw [HRG.out,HLG.out,HO.out.2.2.1];exact H11.out.mono (by omega)
     ·have hk1:((oK:Int)==0)=false:=by simpa using hk0
      obtain ⟨⟨u1,u2,u3,u4,u5⟩, -⟩:=hS;obtain ⟨g9,c9,w9,hrun,ho9,hb9⟩:=qrq u3 u5 (by rw [HRL.out];omega) pa orec.length pc orec hV;rw [HRL.out] at hrun ho9;have hkl:=HOK.out.1;have HMS:=hide (qade k oK (k+oK) n rfl hkl hkn hk0 hn4).2.2;have hadd:wrap64 ((k:Int)+(oK:Int))=(k:Int)+(oK:Int):=(qade k oK (k+oK) n rfl hkl hkn hk0 hn4).1;have h1:=u1.carry hb9 (Nat.lt_succ_self _) u5;have h2:=u2.carry hb9 (by omega) u5;obtain ⟨c0,c1,c2,c3,cf⟩:=u1.cells;obtain ⟨d0,d1,d2,d3,df⟩:=h1.cells;have f0:=df 0;have f1:=df 1;have f2:=df 2;have HLG:=hide (((h1.set0 (.slice (some ⟨g9,0,none⟩) (N+1) c9)).set1 (k+oK)).set2 os);have HRS:=hide (((h2.other ⟨w.heap.size+1,0,none⟩ (.slice (some ⟨g9,0,none⟩) (N+1) c9) (Nat.ne_of_lt (Nat.lt_succ_self _))).other ⟨w.heap.size+1,1,none⟩ (.int .i64 ((k+oK:Nat):Int)) (Nat.ne_of_lt (Nat.lt_succ_self _))).other ⟨w.heap.size+1,2,none⟩ (.int .u32 os) (Nat.ne_of_lt (Nat.lt_succ_self _)));have g0:=qaj w9 ⟨w.heap.size+1,0,none⟩ (.slice (some ⟨g9,0,none⟩) (N+1) c9);have g1:=qaj (w9.setCell ⟨w.heap.size+1,0,none⟩ (.slice (some ⟨g9,0,none⟩) (N+1) c9)) ⟨w.heap.size+1,1,none⟩ (.int .i64 ((k+oK:Nat):Int));have g2:=qaj ((w9.setCell ⟨w.heap.size+1,0,none⟩ (.slice (some ⟨g9,0,none⟩) (N+1) c9)).setCell ⟨w.heap.size+1,1,none⟩ (.int .i64 ((k+oK:Nat):Int))) ⟨w.heap.size+1,2,none⟩ (.int .u32 os);have hgg:=qa7 (qa7 g0 g1) g2;have HOW:=hide (ho9.grown hgg (Nat.lt_succ_self _));have hB9:Below w.heap.size w w9:=u4.trans (hb9.mono (by omega));have HBB:=hide (hB9.grown hgg hB9.size (fun i hi=>by cases hi;exact Nat.le_succ _));have HSZ:=hide (Nat.le_trans (Nat.le_trans u5 hb9.size) hgg.size);have HNX:=hide (qvq HSF.out (by rw [←HO.out.2.2.2];exact hk0));rw [←HO.out.2.2.2] at HNX;clear hK hV u1 u2 u3 u4 h1 h2 g0 g1 g2 hgg hb9 hB9 ho9 cf df hk0 ha1 ha2 ha3 ha4 hkl
      go_wp2_with (at_builtin;refine qak rfl (.tmp 40) (.tmp 42) 38 rfl rfl rfl rfl hrun ?_)
      have e1:(S++[(orec,os,oK)]).length=N+1:=by rw [List.length_append,HNN.out];rfl
      have e2:sumO (S++[(orec,os,oK)])=k+oK:=by rw [qeo,HO.out.1]
      have e3:endO 0 (S++[(orec,os,oK)])=os:=qgi _ _ _
      have e4:(S++[(orec,os,oK)]).map (·.1)=recs++[orec]:=by rw [List.map_append,HO.out.2.2.1];rfl
      refine ⟨⟨S++[(orec,os,oK)],some ⟨g9,0,none⟩,c9,HNX,hide (by rw [e1,e2,e3];exact HLG.out),hide (by rw [e1,e4];exact HOW.out),HRS,HBB.out,HSZ.out⟩, ?_⟩;have e5:=congrArg lgK HLG.out.cells.2.1;rw [HM.out];exact Nat.lt_of_le_of_lt (Nat.le_of_eq (congrArg (fun x=>n+1 - x) e5)) HMS.out
    ·have HZ:=hide (show l.drop 0=[] by rw [hlz];rfl)
     have HSL:=hide (show RdL w (.slice (some ad) 0 c) (l.drop 0) by rw [HZ.out];exact .inl ⟨rfl,.inr ⟨_,_,rfl⟩⟩);have hk0:=(show oK=0 by have:=congrArg (fun x:Op=>x.2.2) ho;rw [HZ.out,qr8] at this;exact this);clear ho hlz;go_wp2;have hK:Keeps (fun wx=>LogAt wx (w.heap.size+1) (.slice rva N rc) 0 p 0∧LogAt wx w.heap.size (.slice none 0 0) 0 0 0∧OwBB wx (w.heap.size+2) (.slice rva N rc) recs∧Below w.heap.size w wx∧w.heap.size+2≤wx.heap.size):=(qah _ _).and ((qah _ _).and (Keeps.and (fun _ _ h hb=>h.carry hb) ((qa9 w).and (qdn _))));have hS0:(fun wx=>LogAt wx (w.heap.size+1) (.slice rva N rc) 0 p 0∧LogAt wx w.heap.size (.slice none 0 0) 0 0 0∧OwBB wx (w.heap.size+2) (.slice rva N rc) recs∧Below w.heap.size w wx∧w.heap.size+2≤wx.heap.size) wr:=⟨hlog.out,hres.out,hrow.out,hbel,hsz⟩
     refine qaq hK (by kernel_rfl) hS0 ?_
     clear hS0;intro hS;generalize wr.drew=wd at *
     refine qad [0,1,2,3,4,5,6,7,8,9,10,11] (fuel:=8) (a':=?zp5a) (by kernel_rfl) (by kernel_rfl) (by kernel_rfl) ?zp5p hS ?zp5n
     case zp5p=>
      iterate 12 (apply Yl.cons rfl (by kernel_rfl);focus (rintro wx ⟨x1,x2,x3,x4,x5⟩;obtain ⟨y0,y1,y2,y3,y4⟩:=x1.cells;go_simp;all_goals (with_reducible rfl));try simp only [Act.put,sA,sB,sC])
      exact Yl.nil
     refine qb4 hK (i:=12) (R:=fun v wy=>∃pa pc,v=.tuple #[.slice pa orec.length pc,.int .u32 os,.int .i64 oK]∧OwB wy (w.heap.size+2) (.slice pa orec.length pc) orec) rfl (by kernel_rfl) (by rfl) (by go_simp) hS ((HOP.out _ hS.2.2.2.1 (some ad) 0 c (by exact HSL.out.carry hS.2.2.2.1)).mono fun e w1 ⟨v,h1,h2,h3⟩=>by obtain ⟨pa,pc,rfl⟩:=h2.form;exact ⟨_,h1,⟨pa,pc,rfl,h2.mono hS.2.2.2.2⟩,h3⟩) (fun v _ _ ⟨pa,pc,h,h'⟩ hb=>⟨pa,pc,h,h'.carry hb⟩) ?_
     intro v33 w33 hKn hRn hSn;clear hK hS;have hK:=hKn;have hS:=hSn;clear hKn hSn;obtain ⟨pa,pc,rfl,hV⟩:=hRn
     try simp only [Act.put,sA,sB,sC]
     refine qad [13,14,15,16,17,18,19] (fuel:=0) (a':=?zp6a) (by kernel_rfl) (by kernel_rfl) (by kernel_rfl) ?zp6p hS ?zp6n
     case zp6p=>
      iterate 7 (apply Yl.cons rfl (by kernel_rfl);focus (rintro wx ⟨⟨x1,x2,x3,x4,x5⟩,_⟩;go_simp;all_goals (with_reducible rfl));try simp only [Act.put,sA,sB,sC])
      exact Yl.nil
     refine wpAnyH_done (by kernel_rfl) ?_ _
     refine NoPanic.normal ?_
     subst hk0;have HLG:=hide (qlq HSF.out (by have:=congrArg (fun x:Op=>x.2.2) HO.out.2.2.2;exact this.symm));obtain ⟨⟨u1,u2,u3,u4,u5⟩, -⟩:=hS;have HU1:=hide u1;have HU2:=hide u2;have HU3:=hide u3;obtain ⟨c0,c1,c2,c3,cf⟩:=u1.cells;clear hK hV u1 u2 u3 cf
     go_wp2_with fail
     refine (qgm gn (some ad) 0 c (l.drop 0) _ (HSL.out.carry u4) (qif HL4.out) (fun b hb=>HA.out b (List.mem_of_mem_drop hb))).mono ?_
     rintro e w5 ⟨rfl,hb5⟩;obtain ⟨G,hG⟩:∃G,G=qb0 gn (l.drop 0):=⟨_,rfl⟩;rw [←hG];have h5:=HU1.out.carry hb5 HU1.out.lt (Nat.le_refl _);have h6:=HU2.out.carry hb5 HU2.out.lt (Nat.le_refl _);have h7:=HU3.out.carry hb5;have hB5:Below w.heap.size w w5:=u4.trans (hb5.mono u4.size);have hf3:=h5.cells.2.2.2.2 3;obtain ⟨d0,d1,d2,d3, -⟩:=h5.cells;have g1:=qaj w5 ⟨w.heap.size+1,3,none⟩ (.int .u32 G);have h8:=h5.set3 G
     have h9:LogAt (w5.setCell ⟨w.heap.size+1,3,none⟩ (.int .u32 G)) w.heap.size (.slice none 0 0) 0 0 0:=by
      unfold LogAt at *;rw [g1.block _ (Array.getElem?_eq_some_iff.1 h6).1 (by simp)];exact h6
     have h10:=h7.grown g1 (by show w.heap.size+1<_;omega);have hB6:Below w.heap.size w (w5.setCell ⟨w.heap.size+1,3,none⟩ (.int .u32 G)):=hB5.grown g1 hB5.size (fun i hi=>by cases hi;show w.heap.size≤w.heap.size+1;omega);have HW:=hide (⟨_,rfl⟩:∃w6,w6=w5.setCell ⟨w.heap.size+1,3,none⟩ (.int .u32 G));obtain ⟨ws,ews,hws,hgs⟩:=qj4 (.slice rva N rc) (.int .i64 0) (.int .u32 p) (.int .u32 G) h9;have h11:=h10.grown hgs (by omega);have hB7:Below w.heap.size w ws:=hB6.grown hgs hB6.size (fun i hi=>by cases hi;exact Nat.le_refl _);obtain ⟨p0,p1,p2,p3, -⟩:=qcy hws;obtain ⟨q0,q1,q2,q3,qf⟩:=h9.cells;obtain ⟨r0,r1,r2,r3, -⟩:=h8.cells;have EWS:=hide ews;have H11:=hide h11;have HGE:=hide hG;have f0:=qf 0;have f1:=qf 1;have f2:=qf 2;have f3:=qf 3;clear hws hgs ews h5 h6 h7 h8 h9 h10 h11 g1 hb5 HW hG qf c0 c1 c2 c3;go_wp2;rw [EWS.out]
     refine bodyPost_ret (v:=.tuple #[.agg #[.slice rva N rc,.int .i64 0,.int .u32 p,.int .u32 G],.int .i64 0]) ?_ rfl ⟨.slice rva N rc, ?_, ?_,hB7⟩
     ·simp [results,Tryz.results28,go_sem,p0,p1,p2,p3]
     ·rw [HE.out,HRG.out,HLG.out,HGE.out,HO.out.1,HO.out.2.1];try rfl
     ·rw [HRG.out,HLG.out,HO.out.2.2.1];exact H11.out.mono (by omega)
  ·have HE:=hide (show rdE gn l=chkL l by unfold rdE;rw [if_neg h0])
   have HV:=hide (show rdG gn l=([],0,0,0) by unfold rdG;rw [if_pos (by rw [HE.out];exact he)]);obtain ⟨E,hE⟩:∃E,E=chkL l:=⟨_,rfl⟩;have HEE:=hide hE;rw [←hE] at he
   have hne:(E !=0)=true:=by simpa using he
   clear hE he h0
   have hb1:∀o,Below w.heap.size w (w.alloc o):=fun o=>(Below.refl _ _).alloc (Nat.le_refl _) o
   go_enter Tryz.func28,Tryz.ntmps28
   go_wp2_with fail
   refine (qj5 a n c l _ (HR.out.carry (hb1 _))).mono ?_
   rintro e w1 ⟨rfl,rfl⟩;rw [←HEE.out];go_wp2
   refine bodyPost_ret (v:=.tuple #[.agg #[.slice none 0 0,.int .i64 0,.int .u32 0,.int .u32 0],.int .i64 E]) ?_ rfl ⟨.slice none 0 0, ?_, ?_,hb1 _⟩
   ·simp [results,Tryz.results28,go_sem]
   ·rw [HE.out,HV.out,HEE.out];rfl
   ·rw [HV.out];exact OwBB.nil _ _
end Go.Proofs.YtnmbbpdhjkaidaaGreat

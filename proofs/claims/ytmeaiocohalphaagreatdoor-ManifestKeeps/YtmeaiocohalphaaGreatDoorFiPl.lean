/-
  Where a name has its place: place, and the library's binary search.
-/
import Derived.Test.YtmeaiocohalphaaGreatDoorFiChk2
set_option maxHeartbeats 2000000
set_option maxRecDepth 100000
namespace Go.Proofs.YtmeaiocohalphaaGreatDoor
open Go.RowKit
set_option linter.unusedVariables false
set_option linter.unusedSimpArgs false
theorem qj9 (n:Nat) (w:World) (hn:n<18446744073709551616):Calls Tryz.prog 86 #[.int .u64 n] w fun e w'=>∃v,e=.returned v∧OwBy w' w.heap.size v (sm n)∧Below w.heap.size w w':=qlg n w hn
theorem qaj6 (s:List UInt8) (w:World) (hs:s.length≤1000000):Calls Tryz.prog 60 #[.string (bs s)] w fun e w'=>∃v,e=.returned v∧OwBy w' w.heap.size v (tx s)∧Below w.heap.size w w':=by
 have:=qw4 (bs s) w (by rw [qcl];omega)
 rwa [qbw] at this
theorem qll (a:Option Addr) (n c:Nat) (fs:List Fl) (w:World) (hrd:RdF w (.slice a n c) fs) (hn:n=fs.length) (hok:okB fs):
  Calls Tryz.prog 227 #[.slice a n c] w fun e w'=>∃v,e=.returned v∧OwBy w' w.heap.size v (bytF fs)∧Below w.heap.size w w':=by
 have hm:n≤1000:=hn ▸ hok.1;have HR:=hide hrd;have HN:=hide hn;have HK:=hide hok;clear hrd hn hok
 go_enter Tryz.func227,Tryz.ntmps227
 go_wp2_with fail
 refine (qj9 n _ (by omega)).mono ?_
 rintro e w1 ⟨v1,rfl,ho1,hb1⟩;go_wp2
 go_loopw [14,3] (fun i v wr=>∃k:Nat,k≤n∧i=.int .i64 k∧Hid (OwBy wr w.heap.size v (sm n++(fs.take k).flatMap qdg))∧Below w.heap.size w wr) (fun i _ _=>n - (intOf i).toNat)
 case atStart=>exact ⟨0,Nat.zero_le _,rfl,hide (by simpa using ho1),hb1⟩
 case round=>
  obtain ⟨k,hk,rfl,hown,hbel⟩:=hrel;clear ho1 hb1
  by_cases hlt:k<n
  ·have hlt':(k:Int)<n:=by omega
   have hkl:k<fs.length:=by have:=HN.out;omega
   have HU:=hide (qaaj fs k hkl);have HLL:=hide (qaf6 HK.out k);obtain ⟨b,off,a2,c2,rfl,q0,q1,q2⟩:=HR.out.atB hbel k hkl;have HQ:=hide q2;clear q2;have HFK:=hide (HK.out.2 _ (List.getElem_mem hkl));obtain ⟨f,hf⟩:∃f,f=fs[k]:=⟨_,rfl⟩;rw [←hf] at q0 q1 HQ HU HFK;clear hf;obtain ⟨L,hL⟩:∃L,L=(fs.take k).flatMap qdg:=⟨_,rfl⟩;rw [←hL] at hown HU HLL;clear hL;obtain ⟨m,hm2⟩:∃m,m=f.2.length:=⟨_,rfl⟩;rw [←hm2] at q1 HQ
   have hmm:m≤1000:=by rw [hm2];exact HFK.out.2.1
   have HM2:=hide hm2;clear hm2;have HSM:=hide (qaf (n:=n) (by omega));have HSM2:=hide (qaf (n:=m) (by omega))
   have HTX:=hide (show (tx f.1).length≤1010 by
    have h1:=HFK.out.1
    have:=qaf (n:=f.1.length) (by omega)
    simp only [tx,List.length_append];omega)
   -- the file's copy,its name
   obtain ⟨w2,hw2⟩:∃w2,w2=wr.alloc (.cells #[.string (bs f.1),.slice a2 m c2] 98):=⟨_,rfl⟩
   have hblk:w2.heap[wr.heap.size]? =some (.cells #[.string (bs f.1),.slice a2 m c2] 98 (0,0)):=by rw [hw2];exact heap_alloc_new wr _
   have hb2:Below wr.heap.size wr w2:=by rw [hw2];exact (Below.refl _ _).alloc (Nat.le_refl _) _
   have hlt2:wr.heap.size<w2.heap.size:=by rw [hw2];simp
   have hbel2:Below w.heap.size w w2:=hbel.trans (hb2.mono hbel.size);have HO2:=hide (hown.out.carry hb2)
   go_wp2_with fail
   rw [←hw2];clear hown
   refine (qaj6 f.1 _ (by have:=HFK.out.1;omega)).mono ?_
   rintro e w3 ⟨v3,rfl,ho3,hb3⟩;have hbel3:Below w.heap.size w w3:=hbel2.trans (hb3.mono hbel2.size)
   obtain ⟨v4,w4,hrun4,ho4,hb4,hk4⟩:=qw6 (HO2.out.carry hb3) hbel3.size (qjg ho3) (by
    have h1:=HSM.out;have h2:=HLL.out;have h3:=HTX.out
    rw [List.length_append];omega)
   have hbel4:Below w.heap.size w w4:=hbel3.trans hb4;have hblk4:=hk4 _ _ _ _ (by decide) (KeepB.of_below hb3 _ _ _ _ (by decide) hblk)
   have r4:w4.cell? ⟨wr.heap.size,1,none⟩=some (.slice a2 m c2):=by rw [cell_of_row w4 wr.heap.size 1 _ _ (0,0) hblk4];rfl
   have HO4:=hide ho4;have HB4:=hide hbel4;have HK4:=hide hblk4;clear ho4 hbel4 hb4 hk4 ho3 hb3 hbel3 hblk hb2 hw2 hlt2 hbel2 HO2 hblk4 hbel q0 q1
   go_wp2_with (first | (at_builtin;refine qah rfl (.tmp 18) (.tmp 21) 23 rfl rfl rfl rfl hrun4 ?_) | fail)
   refine (qj9 m _ (by omega)).mono ?_
   rintro e w5 ⟨v5,rfl,ho5,hb5⟩;have hbel5:Below w.heap.size w w5:=HB4.out.trans (hb5.mono HB4.out.size)
   obtain ⟨v6,w6,hrun6,ho6,hb6,hk6⟩:=qw6 (HO4.out.carry hb5) hbel5.size (qjg ho5) (by
    have h1:=HSM.out;have h2:=HLL.out;have h3:=HTX.out;have h4:=HSM2.out
    simp only [List.length_append];omega)
   have hbel6:Below w.heap.size w w6:=hbel5.trans hb6;have hblk6:=hk6 _ _ _ _ (by decide) (KeepB.of_below hb5 _ _ _ _ (by decide) HK4.out)
   have r6:w6.cell? ⟨wr.heap.size,1,none⟩=some (.slice a2 m c2):=by rw [cell_of_row w6 wr.heap.size 1 _ _ (0,0) hblk6];rfl
   have HO6:=hide ho6;have HB6:=hide hbel6;clear ho6 hbel6 hb6 hk6 ho5 hb5 hbel5 hblk6 HO4 HB4 HK4 r4 hrun4
   go_wp2_with (at_builtin;refine qah rfl (.tmp 23) (.tmp 28) 23 rfl rfl rfl rfl hrun6 ?_)
   go_loopw [33,3] (fun i v wx=>∃j:Nat,j≤m∧i=.int .i64 j∧Hid (OwBy wx w.heap.size v (sm n++L++tx f.1++sm m++bytE (f.2.take j)))∧Below w.heap.size w wx) (fun i _ _=>m - (intOf i).toNat)
   case atStart=>exact ⟨0,Nat.zero_le _,rfl,hide (by simpa [bytE] using HO6.out),HB6.out⟩
   case round=>
    obtain ⟨j,hj,rfl,hown,hbel⟩:=hrel;have HLT:=hide hlt;clear HO6 HB6 r6 hrun6 hlt' hlt
    by_cases hjm:j<m
    ·have hjm':(j:Int)<m:=by omega
     have hjl:j<f.2.length:=by have:=HM2.out;omega
     have HE:=hide (qaak f.2 j hjl);obtain ⟨bx,ox,rfl,p0,p1⟩:=(HQ.out.carry hbel).at j hjl;have HX:=hide (HFK.out.2.2 _ (List.getElem_mem hjl))
     have HBE:=hide (show (bytE (f.2.take j)).length≤20000 by
      have:=qpz (f.2.take j) (fun x hx=>HFK.out.2.2 x (List.mem_of_mem_take hx))
      have h2:=HFK.out.2.1
      rw [List.length_take] at this;omega)
     obtain ⟨x,hx⟩:∃x,x=f.2[j]:=⟨_,rfl⟩;rw [←hx] at p0 p1 HE HX;clear hx;obtain ⟨x,y⟩:=x;obtain ⟨x,rfl⟩:∃p:Nat,x=p:=⟨x.toNat,by have:=HX.out.1;simp only at this;omega⟩;obtain ⟨y,rfl⟩:∃p:Nat,y=p:=⟨y.toNat,by have:=HX.out.2.2.1;simp only at this;omega⟩
     have hx1:x≤4096:=by have:=HX.out.2.1;simp only at this;omega
     have hy1:y≤4096:=by have:=HX.out.2.2.2;simp only at this;omega
     simp only at p0 p1
     have HE2:=hide (show bytE (f.2.take (j+1))=bytE (f.2.take j)++(sm x++sm y) by have:=HE.out;simpa [bytX] using this);clear HE HX;obtain ⟨M,hM⟩:∃M,M=sm n++L++tx f.1++sm m++bytE (f.2.take j):=⟨_,rfl⟩
     have HML:=hide (show M.length≤100000000 by
      have h1:=HSM.out;have h2:=HLL.out;have h3:=HTX.out;have h4:=HSM2.out;have h5:=HBE.out;rw [hM]
      simp only [List.length_append];omega)
     rw [←hM] at hown;have HM:=hide hM;clear hM;have HSX:=hide (qaf (n:=x) (by omega));have HSY:=hide (qaf (n:=y) (by omega));obtain ⟨w2,hw2⟩:∃w2,w2=wr.alloc (.cells #[.int .i64 (x:Int),.int .i64 (y:Int)] 237):=⟨_,rfl⟩
     have hblk:w2.heap[wr.heap.size]? =some (.cells #[.int .i64 (x:Int),.int .i64 (y:Int)] 237 (0,0)):=by rw [hw2];exact heap_alloc_new wr _
     have hb2:Below wr.heap.size wr w2:=by rw [hw2];exact (Below.refl _ _).alloc (Nat.le_refl _) _
     have hbel2:Below w.heap.size w w2:=hbel.trans (hb2.mono hbel.size);have HO2:=hide (hown.out.carry hb2);clear hown
     go_wp2_with fail
     rw [←hw2]
     refine (qj9 x _ (by omega)).mono ?_
     rintro e w3 ⟨v3,rfl,ho3,hb3⟩;have hbel3:Below w.heap.size w w3:=hbel2.trans (hb3.mono hbel2.size)
     obtain ⟨v4,w4,hrun4,ho4,hb4,hk4⟩:=qw6 (HO2.out.carry hb3) hbel3.size (qjg ho3) (by
      have h1:=HML.out;have h2:=HSX.out
      omega)
     have hbel4:Below w.heap.size w w4:=hbel3.trans hb4;have hblk4:=hk4 _ _ _ _ (by decide) (KeepB.of_below hb3 _ _ _ _ (by decide) hblk)
     have r4:w4.cell? ⟨wr.heap.size,1,none⟩=some (.int .i64 (y:Int)):=by rw [cell_of_row w4 wr.heap.size 1 _ _ (0,0) hblk4];rfl
     have HO4:=hide ho4;have HB4:=hide hbel4;clear ho4 hbel4 hb4 hk4 ho3 hb3 hbel3 hblk hb2 hw2 hbel2 HO2 hblk4 hbel p0 p1
     go_wp2_with (first | (at_builtin;refine qah rfl (.tmp 37) (.tmp 41) 23 rfl rfl rfl rfl hrun4 ?_) | fail)
     refine (qj9 y _ (by omega)).mono ?_
     rintro e w5 ⟨v5,rfl,ho5,hb5⟩;have hbel5:Below w.heap.size w w5:=HB4.out.trans (hb5.mono HB4.out.size)
     obtain ⟨v6,w6,hrun6,ho6,hb6,hk6⟩:=qw6 (HO4.out.carry hb5) hbel5.size (qjg ho5) (by
      have h1:=HML.out;have h2:=HSX.out;have h3:=HSY.out
      simp only [List.length_append];omega)
     have HO6:=hide ho6;have HB6:=hide (hbel5.trans hb6);clear ho6 hb6 hk6 ho5 hb5 hbel5 HO4 HB4 r4 hrun4
     go_wp2_with (at_builtin;refine qah rfl (.tmp 43) (.tmp 47) 23 rfl rfl rfl rfl hrun6 ?_)
     go_roundw
     case rel=>exact ⟨j+1,by omega,rfl,hide (by
      rw [HE2.out]
      have:=HO6.out
      rw [HM.out] at this
      simpa using this),HB6.out⟩
     case measure=>simp only [intOf];omega
    ·have hd2:decide ((j:Int)<m)=false:=by simpa using (by omega:¬(j:Int)<m)
     have e:j=f.2.length:=by have:=HM2.out;omega
     rw [e,List.take_length] at hown;have HO:=hide (hown.out);clear e hown;go_wp2;go_roundw
     case rel=>exact ⟨k+1,HLT.out,rfl,hide (by
      rw [HU.out]
      have:=HO.out
      rw [HM2.out] at this
      simpa [qdg] using this),hbel⟩
     case measure=>have:=HLT.out;simp only [intOf];omega
  ·have hd:decide ((k:Int)<n)=false:=by simpa using (by omega:¬(k:Int)<n)
   have e:k=fs.length:=by have:=HN.out;omega
   rw [e,List.take_length] at hown;clear e;go_wp2;go_ret;exact ⟨_,rfl,by have:=hown.out;rw [HN.out] at this;exact this,hbel⟩
theorem qlm:∀(fs:List Fl) (m:Nat),(∀f∈fs,f.2.length≤m)→(qao fs).length≤m*fs.length
 | [],m,_=>by simp [qao]
 | f::fs,m,h=>by
  have ih:=qlm fs m (fun g hg=>h g (by simp [hg]));have h0:=h f (by simp);unfold qao at ih ⊢
  simp only [List.flatMap_cons,List.length_append,List.length_cons,Nat.mul_add]
  omega
theorem qh5 {fs:List Fl} (h:qef fs) (hl:fs.length≤40):(qao fs).length≤2560:=by
 have:=qlm fs 64 (fun f hf=>(qf9 (h.1 f hf)).2.2.2)
 omega
theorem okB_of {fs:List Fl} {B:Int} (hl:fs.length≤1000) (he:∀f∈fs,f.1.length≤1000∧f.2.length≤1000) (hx:chkX (qao fs)=0):okB fs:=by
 refine ⟨hl,fun f hf=>⟨(he f hf).1,(he f hf).2,fun x hx2=>?_⟩⟩
 have:=(qh4 hx).2 x (List.mem_flatMap.2 ⟨f,hf,hx2⟩)
 omega
theorem qln {fs:List Fl} {B:Int} (hl:fs.length≤40) (he:qef fs) (hx:extP (qao fs) B):okB fs:=
 okB_of (B:=B) (by omega) (fun f hf=>by have:=qf9 (he.1 f hf);omega) hx.1
theorem qw7 (a:Option Addr) (n c:Nat) (fs:List Fl) (w:World) (hrd:RdF w (.slice a n c) fs) (hn:n=fs.length) (hok:okB fs):
  Calls Tryz.prog 252 #[.slice a n c] w fun e w'=>e=.returned (.bool (decide ((bytF fs).length≤2048)))∧Below w.heap.size w w':=by
 have hby:=qll a n c fs w hrd hn hok;clear hrd hn hok;obtain ⟨L,hL⟩:∃L,L=bytF fs:=⟨_,rfl⟩;rw [←hL] at hby ⊢;clear hL
 go_enter Tryz.func252,Tryz.ntmps252
 go_wp2_with fail
 refine hby.mono ?_
 rintro e w1 ⟨v1,rfl,ho1,hb1⟩
 obtain ⟨a1,c1,rfl⟩:∃a1 c1,v1=.slice a1 L.length c1:=by
   rcases ho1.2 with ⟨rfl,h0⟩ | ⟨g,cap,cur,rfl,_⟩
   ·exact ⟨_,_,by rw [h0]⟩
   ·exact ⟨_,_,rfl⟩
 clear ho1 hby;obtain ⟨m,hm⟩:∃m,m=L.length:=⟨_,rfl⟩;rw [←hm];have HM:=hide hm;clear hm;go_wp2;go_ret;exact ⟨by have:=HM.out;simp;omega,hb1⟩
theorem qw8 (a:Option Addr) (n c:Nat) (fs:List Fl) (B:Int) (w:World) (hrd:RdF w (.slice a n c) fs) (hn:n=fs.length) (hwf:wfFs fs):
  Calls Tryz.prog 219 #[.slice a n c,.int .i64 B] w fun e w'=>e=.returned (.bool (decide (mayF fs B)))∧Below w.heap.size w w':=by
 have hm:n≤maxLen:=hn ▸ hrd.len_le;unfold maxLen at hm
 by_cases g1:40<n
 ·have HM:=hide (show decide (mayF fs B)=false by simp only [decide_eq_false_iff_not];intro h;have:=h.1;omega)
  have g1':decide ((n:Int)≤40)=false:=by simpa using (by omega:¬(n:Int)≤40)
  clear hrd hn
  go_enter Tryz.func219,Tryz.ntmps219
  go_wp2
  all_goals first | (go_ret;exact ⟨by rw [HM.out];first | rfl | simp [g1'],Below.refl _ _⟩) | (exfalso;omega)
 have g1':(n:Int)≤40:=by omega
 have hl:fs.length≤40:=by omega
 have heach:=qpy a n c fs w hrd hn
 by_cases g2:qef fs
 ·have g2':decide (qef fs)=true:=by simpa using g2
  rw [g2'] at heach;clear g2';have hu:=qh5 g2 hl;have HEX:=hide (fun w1 (hb1:Below w.heap.size w w1)=>qg9 a n c fs w1 (hrd.carry hb1) hn (by omega))
  by_cases g3:extP (qao fs) B
  ·have hok:=qln hl g2 g3
   have HFI:=hide (fun w1 (hb1:Below w.heap.size w w1)=>qw7 a n c fs w1 (hrd.carry hb1) hn hok)
   have HM:=hide (show decide (mayF fs B)=decide ((bytF fs).length≤2048) by
    rw [decide_eq_decide]
    exact ⟨fun h=>h.2.2.2,fun h=>⟨hl,g2,g3,h⟩⟩)
   have HG3:=hide g3;have HU:=hide (qlj hwf);clear hrd hn hwf g2 hu hok g3 hl
   go_enter Tryz.func219,Tryz.ntmps219
   go_wp2_with fail
   refine heach.mono ?_
   rintro e w1 ⟨rfl,hb1⟩;clear heach
   go_wp2_with fail
   refine (HEX.out _ hb1).mono ?_
   rintro e w2 ⟨v2,rfl,ho2,hb2⟩;have hb2':Below w.heap.size w w2:=hb1.trans (hb2.mono hb1.size);obtain ⟨a2,c2,rfl⟩:=ho2.form;obtain ⟨m2,hm2⟩:∃m2,m2=(qao fs).length:=⟨_,rfl⟩;rw [←hm2] at ho2 ⊢;have hext:=qiv a2 m2 c2 (qao fs) B w2 ho2.rd hm2 HU.out;rw [show decide (extP (qao fs) B)=true by simpa using HG3.out] at hext;clear hm2 ho2 hb1 hb2
   go_wp2_with fail
   refine hext.mono ?_
   rintro e w3 ⟨rfl,hb3⟩;have hb3':Below w.heap.size w w3:=hb2'.trans (hb3.mono hb2'.size);clear hext hb3 hb2'
   go_wp2_with fail
   refine (HFI.out _ hb3').mono ?_
   rintro e w4 ⟨rfl,hb4⟩;have hb4':Below w.heap.size w w4:=hb3'.trans (hb4.mono hb3'.size);clear hb4 hb3';obtain ⟨r,hr⟩:∃r,r=decide ((bytF fs).length≤2048):=⟨_,rfl⟩;rw [←hr] at HM ⊢;clear hr;go_wp2;go_ret;exact ⟨by rw [HM.out];rfl,hb4'⟩
  ·have HM:=hide (show decide (mayF fs B)=false by simp only [decide_eq_false_iff_not];exact fun h=>g3 h.2.2.1)
   have HG3:=hide g3;have HU:=hide (qlj hwf);clear hrd hn hwf g2 hu g3 hl
   go_enter Tryz.func219,Tryz.ntmps219
   go_wp2_with fail
   refine heach.mono ?_
   rintro e w1 ⟨rfl,hb1⟩;clear heach
   go_wp2_with fail
   refine (HEX.out _ hb1).mono ?_
   rintro e w2 ⟨v2,rfl,ho2,hb2⟩;have hb2':Below w.heap.size w w2:=hb1.trans (hb2.mono hb1.size);obtain ⟨a2,c2,rfl⟩:=ho2.form;obtain ⟨m2,hm2⟩:∃m2,m2=(qao fs).length:=⟨_,rfl⟩;rw [←hm2] at ho2 ⊢;have hext:=qiv a2 m2 c2 (qao fs) B w2 ho2.rd hm2 HU.out;rw [show decide (extP (qao fs) B)=false by simpa using HG3.out] at hext;clear hm2 ho2 hb1 hb2
   go_wp2_with fail
   refine hext.mono ?_
   rintro e w3 ⟨rfl,hb3⟩;have hb3':Below w.heap.size w w3:=hb2'.trans (hb3.mono hb2'.size);clear hext hb3 hb2';go_wp2;go_ret;exact ⟨by rw [HM.out];rfl,hb3'⟩
 ·have g2':decide (qef fs)=false:=by simpa using g2
  rw [g2'] at heach;have HM:=hide (show decide (mayF fs B)=false by simp only [decide_eq_false_iff_not];exact fun h=>g2 h.2.1);clear hrd hn g2 g2' hl
  go_enter Tryz.func219,Tryz.ntmps219
  go_wp2_with fail
  refine heach.mono ?_
  rintro e w1 ⟨rfl,hb1⟩;go_wp2;go_ret;exact ⟨by rw [HM.out];rfl,hb1⟩
theorem qdx (a:Option Addr) (n c:Nat) (fs:List Fl) (B:Int) (w:World) (hrd:RdF w (.slice a n c) fs) (hn:n=fs.length) (hwf:wfFs fs):
  Calls Tryz.prog 173 #[.agg #[.slice a n c],.int .i64 B] w fun e w'=>e=.returned (.int .i64 (chkF fs B))∧Below w.heap.size w w':=by
 have hb0:∀o,Below w.heap.size w (w.alloc o):=fun o=>(Below.refl _ _).alloc (Nat.le_refl _) _
 have HMY:=hide (fun w1 (hb1:Below w.heap.size w w1)=>qw8 a n c fs B w1 (hrd.carry hb1) hn hwf);have HB0:=hide hb0;clear hrd hn hwf;have hblk:=qfp B
 by_cases g1:blkP B
 ·rw [show decide (blkP B)=true by simpa using g1] at hblk
  have HM:=hide (show chkF fs B=if decide (mayF fs B)=true then 0 else 8 by unfold chkF;rw [if_neg (by simpa using g1)];simp);clear g1
  go_enter Tryz.func173,Tryz.ntmps173
  go_wp2_with (first | (go_at_call 217;refine (hblk _).mono ?_;rintro e w1 ⟨rfl,rfl⟩) | fail)
  refine (HMY.out _ (hb0 _)).mono ?_
  rintro e w2 ⟨rfl,hb2⟩;have hb2':Below w.heap.size w w2:=(HB0.out _).trans (hb2.mono (HB0.out _).size);obtain ⟨r,hr⟩:∃r,r=decide (mayF fs B):=⟨_,rfl⟩;rw [←hr] at HM ⊢;clear hr hb2 hb0 hblk
  cases r with
  | true=>
   go_wp2;go_ret;exact ⟨by rw [HM.out];rfl,hb2'⟩
  | false=>
   go_wp2;go_ret;exact ⟨by rw [HM.out];rfl,hb2'⟩
 ·rw [show decide (blkP B)=false by simpa using g1] at hblk
  have HM:=hide (show chkF fs B=2 by unfold chkF;rw [if_pos g1]);clear g1
  go_enter Tryz.func173,Tryz.ntmps173
  go_wp2_with (go_at_call 217;refine (hblk _).mono ?_;rintro e w1 ⟨rfl,rfl⟩)
  go_ret;exact ⟨by rw [HM.out];rfl,HB0.out _⟩
theorem qp0 (s t:List UInt8) (w:World):
  Calls Tryz.prog 272 #[.string (bs s),.string (bs t)] w fun e w'=>e=.returned (.int .i64 (Lib.compareBytes s t))∧w'=w:=by
 go_enter Tryz.func272,Tryz.ntmps272
 go_wp2;rw [run_callFunc_extern Tryz.func289 (by kernel_rfl) (by kernel_rfl) (by kernel_rfl) (e:=Extern.BytealgCompare.compare) (by kernel_rfl),Lib.run_compareString]
 simp only [Result.andThen,qbw]
 rw [Oper.upon_value];go_wp2;go_ret;exact ⟨rfl,rfl⟩
theorem qty (s t:List UInt8) (w:World):
  Calls Tryz.prog 248 #[.string (bs s),.string (bs t)] w fun e w'=>e=.returned (.int .i64 (Lib.compareBytes s t))∧w'=w:=by
 go_enter Tryz.func248,Tryz.ntmps248
 go_wp2_with (go_at_call 272;refine (qp0 s t _).mono ?_;rintro e wc ⟨rfl,rfl⟩)
 go_ret;exact ⟨rfl,rfl⟩
theorem qof (s t:List UInt8) (x:Value) (w:World):
  Calls Tryz.prog 247 #[.agg #[.string (bs s),x],.string (bs t)] w fun e w'=>e=.returned (.int .i64 (Lib.compareBytes s t))∧Below w.heap.size w w':=by
 have hb0:∀o,Below w.heap.size w (w.alloc o):=fun o=>(Below.refl _ _).alloc (Nat.le_refl _) _
 go_enter Tryz.func247,Tryz.ntmps247
 go_wp2_with (go_at_call 248;refine (qty s t _).mono ?_;rintro e wc ⟨rfl,rfl⟩)
 go_ret;exact ⟨rfl,hb0 _⟩
theorem qtz (a:Option Addr) (n c:Nat) (fs:List Fl) (t:List UInt8) (w:World) (hrd:RdF w (.slice a n c) fs) (hn:n=fs.length) (hr:qcf fs) (hl:n≤1000000):
  Calls Tryz.prog 246 #[.slice a n c,.string (bs t),.func (.func 247) #[] #[]] w fun e w'=>e=.returned (.tuple #[.int .i64 (posF fs t),.bool (isF fs t)])∧Below w.heap.size w w':=by
 have HR:=hide hrd;have HN:=hide hn;have HS:=hide hr;clear hrd hn hr
 go_enter Tryz.func246,Tryz.ntmps246
 go_wp2
 go_loopw [9,10] (fun x y wr=>∃i j:Nat,i≤j∧j≤n∧x=.int .i64 i∧y=.int .i64 j∧Hid (∀k,(h:k<fs.length)→(k<i→ltN (fs[k]).1 t=true)∧(j≤k→ltN (fs[k]).1 t=false))∧Below w.heap.size w wr) (fun x y _=>(intOf y).toNat - (intOf x).toNat)
 case atStart=>exact ⟨0,n,Nat.zero_le _,Nat.le_refl _,rfl,rfl,hide (fun k h=>⟨fun h=>by omega,fun h2=>by have:=HN.out;omega⟩),Below.refl _ _⟩
 case round=>
  obtain ⟨i,j,hij,hjn,rfl,rfl,hin,hbel⟩:=hrel
  by_cases hlt:i<j
  ·have hlt':(i:Int)<j:=by omega
   obtain ⟨h,hh⟩:∃h,h=(i+j) / 2:=⟨_,rfl⟩
   have hih:i≤h:=by omega
   have hhj:h<j:=by omega
   have hhn:h<n:=by omega
   have hsh:((i:Int)+(j:Int)) / 2=(h:Int):=by omega
   have HH:=hide hh
   have hhn':(h:Int)<n:=by omega
   have hkl:h<fs.length:=by have:=HN.out;omega
   obtain ⟨b,off,a2,c2,rfl,q0,q1,q2⟩:=HR.out.atB hbel h hkl;clear hh;have HK:=hide (hin.out h hkl);obtain ⟨f,hf⟩:∃f,f=fs[h]:=⟨_,rfl⟩;have HF:=hide hf;rw [←hf] at q0 q1;clear hf q2;obtain ⟨m,hm⟩:∃m,m=f.2.length:=⟨_,rfl⟩;rw [←hm] at q1;clear hm
   go_wp2_with fail
   refine (qof f.1 t _ _).mono ?_
   rintro e w1 ⟨rfl,hb1⟩;have hb1':Below w.heap.size w w1:=hbel.trans (hb1.mono hbel.size);have HC:=hide (qth f.1 t).1;obtain ⟨z,hz⟩:∃z,z=Lib.compareBytes f.1 t:=⟨_,rfl⟩;rw [←hz] at HC ⊢;clear hz hb1 q0 q1
   by_cases hz0:z<0
   ·have HLt:=hide (HC.out.1 hz0)
    go_wp2;go_roundw
    case rel=>exact ⟨h+1,j,by omega,hjn,rfl,rfl,hide (fun k hk=>⟨fun hkh=>by
      rcases Nat.lt_or_eq_of_le (Nat.le_of_lt_succ hkh) with h1 | h1
      ·exact qem _ _ _ (qj0 HS.out h1 hkl) (by rw [←HF.out];exact HLt.out)
      ·subst h1;rw [←HF.out];exact HLt.out,fun hjk=>(hin.out k hk).2 hjk⟩),hb1'⟩
    case measure=>simp only [intOf];omega
   ·have HLt:=hide (show ltN f.1 t=false by
     cases hq:ltN f.1 t with
     | false=>rfl
     | true=>exact absurd (HC.out.2 hq) hz0)
    have hz0':decide (z<0)=false:=by simpa using hz0
    go_wp2;go_roundw
    case rel=>exact ⟨i,h,hih,by omega,rfl,rfl,hide (fun k hk=>⟨fun hki=>(hin.out k hk).1 hki,fun hhk=>by
      rcases Nat.lt_or_eq_of_le hhk with h1 | h1
      ·cases hq:ltN (fs[k]).1 t with
       | false=>rfl
       | true=>
        have:=qem _ _ _ (qj0 HS.out h1 hk) hq
        rw [←HF.out,HLt.out] at this;cases this
      ·subst h1;rw [←HF.out];exact HLt.out⟩),hb1'⟩
    case measure=>simp only [intOf];omega
  ·have hd:decide ((i:Int)<j)=false:=by simpa using (by omega:¬(i:Int)<j)
   obtain rfl:i=j:=by omega
   have HP:=hide (qajd (fs:=fs) (s:=t) (i:=i) (by have:=HN.out;omega) (fun k h h2=>(hin.out k h).1 h2) (fun k h h2=>(hin.out k h).2 h2));have HI:=hide (qaie HS.out t)
   by_cases hin2:i<n
   ·have hin':(i:Int)<n:=by omega
    have hkl:i<fs.length:=by have:=HN.out;omega
    obtain ⟨b,off,a2,c2,rfl,q0,q1,q2⟩:=HR.out.atB hbel i hkl
    have HII:=hide (show isF fs t=((fs[i]).1==t) by
     have h1:=HP.out;rw [HI.out,dif_pos (by omega)]
     simp only [h1])
    obtain ⟨f,hf⟩:∃f,f=fs[i]:=⟨_,rfl⟩;rw [←hf] at q0 q1 HII;clear hf q2;obtain ⟨m,hm⟩:∃m,m=f.2.length:=⟨_,rfl⟩;rw [←hm] at q1;clear hm
    go_wp2_with fail
    refine (qof f.1 t _ _).mono ?_
    rintro e w1 ⟨rfl,hb1⟩;have hb1':Below w.heap.size w w1:=hbel.trans (hb1.mono hbel.size);have HC:=hide (qth f.1 t).2;obtain ⟨z,hz⟩:∃z,z=Lib.compareBytes f.1 t:=⟨_,rfl⟩;rw [←hz] at HC ⊢;clear hz hb1 q0 q1;go_wp2
    all_goals (
     go_ret2;refine ⟨?_,hb1'⟩
     have hc:(z==0)=(f.1==t):=by rw [Bool.eq_iff_iff];simpa using HC.out
     rw [HP.out,HII.out,←hc];simp)
   ·have hin':decide ((i:Int)<n)=false:=by simpa using (by omega:¬(i:Int)<n)
    have HII:=hide (show isF fs t=false by
     have h1:=HP.out;have h2:=HN.out
     rw [HI.out,dif_neg (by omega)])
    go_wp2;go_ret2;exact ⟨by rw [HP.out,HII.out];rfl,hbel⟩
theorem qh6 (a:Option Addr) (n c:Nat) (fs:List Fl) (t:List UInt8) (w:World) (hrd:RdF w (.slice a n c) fs) (hn:n=fs.length) (hr:qcf fs) (hl:n≤1000000):
  Calls Tryz.prog 202 #[.slice a n c,.string (bs t)] w fun e w'=>e=.returned (.tuple #[.int .i64 (posF fs t),.bool (isF fs t)])∧Below w.heap.size w w':=by
 have hbs:=qtz a n c fs t w hrd hn hr hl;clear hrd hn hr
 go_enter Tryz.func202,Tryz.ntmps202
 go_wp2_with fail
 refine hbs.mono ?_
 rintro e w1 ⟨rfl,hb1⟩;go_wp2;go_ret2;exact ⟨rfl,hb1⟩
end Go.Proofs.YtmeaiocohalphaaGreatDoor

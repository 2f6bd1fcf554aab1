/-
  Of the document's side of layer 5: Find, Delete, Used, Create.
-/
import Derived.Test.YtmeaiocohalphaaGreatDoorFiRef5
set_option maxHeartbeats 8000000
set_option maxRecDepth 100000
namespace Go.Proofs.YtmeaiocohalphaaGreatDoor
open Go.RowKit
set_option linter.all false
theorem qqe {w:World} {base:Nat} {v:Value} {l:List UInt8} (h:OwBy w base v l):∃a c,v=.slice a l.length c:=by
 rcases h.2 with ⟨rfl,hn⟩ | ⟨g,cap,cur,rfl,_⟩
 ·exact ⟨none,0,by rw [hn]⟩
 ·exact ⟨_,_,rfl⟩
theorem qil {fs:List Fl} {B:Int} (hb:blkP B) (h:¬mayF fs B):chkF fs B=8:=by unfold chkF;rw [if_neg (by simpa using hb),if_neg h]
theorem qfo (a:Option Addr) (n c:Nat) (fs:List Fl) (B:Int) (w:World) (hrd:RdF w (.slice a n c) fs) (hn:n=fs.length) (hwf:wfFs fs):
  Calls Tryz.prog 117 #[.agg #[.slice a n c],.int .i64 B] w fun e w'=>e=.returned (.int .i64 (chkF fs B))∧Below w.heap.size w w':=by
 have hm:n≤maxLen:=hn ▸ hrd.len_le;unfold maxLen at hm;have HR:=hide hrd;have HN:=hide hn;have HW:=hide hwf;obtain ⟨W0,hW0⟩:∃W0,W0=w.alloc (.cells #[.slice a n c] 31):=⟨_,rfl⟩
 have hb0:Below w.heap.size w W0:=by rw [hW0];exact (Below.refl _ _).alloc (Nat.le_refl _) _
 have HD0:=hide (show DirAt W0 w.heap.size (.slice a n c) by rw [hW0];exact DirAt.new w _);have HB0:=hide hb0;have hbl:=qj3 B W0;clear hrd hn hwf hb0
 by_cases g1:blkP B
 case neg=>
  have HE:=hide (show chkF fs B=2 by unfold chkF;rw [if_pos g1]);rw [decide_eq_false g1] at hbl;clear g1
  go_enter Tryz.func117,Tryz.ntmps117
  go_wp2_with fail
  rw [←hW0];clear hW0
  refine hbl.mono ?_
  rintro e w1 ⟨rfl,b1⟩;clear hbl;go_wp2;go_ret;exact ⟨by rw [HE.out];rfl,HB0.out.trans (b1.mono HB0.out.size)⟩
 rw [decide_eq_true g1] at hbl;have HBK:=hide g1;clear g1
 go_enter Tryz.func117,Tryz.ntmps117
 go_wp2_with fail
 rw [←hW0];clear hW0
 refine hbl.mono ?_
 rintro e w1 ⟨rfl,b1⟩;clear hbl;have HB1:=bT HB0 b1;have HD1:=hide (HD0.out.carry b1);have d1:=HD1.out.cell;clear b1 HB0 HD0
 by_cases g2:40<n
 ·have g2':(40:Int)<n:=by omega
  have HE:=hide (show chkF fs B=8 from qil HBK.out (fun h=>by have:=h.1;have:=HN.out;omega));go_wp2;go_ret;exact ⟨by rw [HE.out];rfl,HB1.out⟩
 have g2':decide ((40:Int)<n)=false:=by simpa using (by omega:¬(40:Int)<n)
 go_wp2
 go_loopw [5] (fun i wr=>∃k:Nat,k≤n∧i=.int .i64 k∧Hid (qen (fs.take k))∧Below w1.heap.size w1 wr) (fun i _=>n - (intOf i).toNat)
 case atStart=>exact ⟨0,Nat.zero_le _,rfl,hide (by simpa using qra),Below.refl _ _⟩
 case round=>
  obtain ⟨k,hk,rfl,heach,hbel⟩:=hrel;have hbw:Below w.heap.size w wr:=HB1.out.trans (hbel.mono HB1.out.size);have hda:=(HD1.out.carry hbel).cell;clear d1
  by_cases hlt:k<n
  ·have hlt':(k:Int)<n:=by omega
   have hkl:k<fs.length:=by have:=HN.out;omega
   have hw1:wrap64 ((k:Int)+1)=(k:Int)+1:=qha (by omega);have HNX:=hide (fun h1 h2=>qja hkl heach.out h1 h2);have HB8:=hide (fun (h:oneF fs[k]=false)=>qil HBK.out (fun h':mayF fs B=>qgr hkl h h'.2.1));obtain ⟨b,off,a2,c2,rfl,q0,q1,q2⟩:=HR.out.atB hbw k hkl;clear q2;obtain ⟨w2,hw2⟩:∃w2,w2=wr.alloc (.cells #[.string (bs (fs[k]).1),.slice a2 (fs[k]).2.length c2] 98):=⟨_,rfl⟩
   have hb2:Below wr.heap.size wr w2:=by rw [hw2];exact (Below.refl _ _).alloc (Nat.le_refl _) _
   have hblk:FileAt w2 wr.heap.size (bs (fs[k]).1) (.slice a2 (fs[k]).2.length c2):=by rw [hw2];exact FileAt.new wr _ _
   have hbel2:Below w1.heap.size w1 w2:=hbel.trans (hb2.mono hbel.size);have hbw2:Below w.heap.size w w2:=hbw.trans (hb2.mono hbw.size);have hda2:=(HD1.out.carry hbel2).cell;have r0:=hblk.cell0;have r1:=hblk.cell1
   have HPV:=hide (show ∀j,(hj:j+1=k)→∃s,w2.cell? ⟨b,off+j*2,none⟩=some (.string (bs s))∧s=(fs[j]).1 from fun j hj=>by
    obtain ⟨b',off',a',c',e',z0, -⟩:=HR.out.atB hbw2 j (by omega);cases e'
    exact ⟨_,z0,rfl⟩)
   have HBP:=hide (show ∀j,(hj:j+1=k)→ltN (fs[j]).1 (fs[k]).1=false→chkF fs B=8 from fun j hj h=>by
    subst hj
    exact qil HBK.out (fun h':mayF fs B=>qna hkl h h'.2.1))
   obtain ⟨F,hF⟩:∃F,F=wr.heap.size:=⟨_,rfl⟩;rw [←hF] at r0 r1;obtain ⟨f,hf⟩:∃f,f=fs[k]:=⟨_,rfl⟩;rw [←hf] at q0 q1 r0 r1 HNX HB8 HBP hw2;clear hf hblk;obtain ⟨s,l⟩:=f
   simp only at q0 q1 r0 r1 HNX HBP hw2
   obtain ⟨p,hp⟩:∃p,p=l.length:=⟨_,rfl⟩;rw [←hp] at q1 r1 hw2;have HO:=hide (show oneF (s,l)=(qbm s && decide (1≤p) && decide (p≤64)) by unfold oneF;rw [hp]);clear hp
   cases hnm:qbm s with
   | false=>
    have HE:=hide (HB8.out (by rw [HO.out,hnm];simp))
    have hcn:∀wx,Calls Tryz.prog 188 #[.string (bs s)] wx fun e w'=>e=.returned (.bool false)∧w'=wx:=fun wx=>by have:=qoh s wx;rw [hnm] at this;exact this
    clear hnm HNX HB8 HPV HBP;go_wp2;rw [←hw2]
    try rw [←hF]
    clear hw2 hF
    go_quiet (exact Calls.quiet_of_same (hcn _))
    go_wp2;go_ret;exact ⟨by rw [HE.out];rfl,below_drewN hbw2 _⟩
   | true=>
    have hcn:∀wx,Calls Tryz.prog 188 #[.string (bs s)] wx fun e w'=>e=.returned (.bool true)∧w'=wx:=fun wx=>by have:=qoh s wx;rw [hnm] at this;exact this
    by_cases g3:p<1∨64<p
    ·have hone:oneF (s,l)=false:=by
      rw [HO.out]
      have:¬(1≤p∧p≤64):=by omega
      simp
      intro _ h;omega
     have HE:=hide (HB8.out hone);clear hone;clear hnm HNX HB8
     by_cases hk0:k=0
     ·subst hk0
      simp only [Nat.zero_mul,Nat.add_zero] at q0 q1
      clear HPV HBP
      rcases g3 with g3 | g3
      ·have g3':(p:Int)<1:=by omega
       go_wp2;rw [←hw2];rw [←hF];clear hw2 hF
       go_quiet (exact Calls.quiet_of_same (hcn _))
       go_wp2;go_ret;exact ⟨by rw [HE.out];rfl,below_drewN hbw2 _⟩
      ·have g3':decide ((p:Int)<1)=false:=by simpa using (by omega:¬(p:Int)<1)
       have g4':(64:Int)<p:=by omega
       go_wp2;rw [←hw2];rw [←hF];clear hw2 hF
       go_quiet (exact Calls.quiet_of_same (hcn _))
       go_wp2;go_ret;exact ⟨by rw [HE.out];rfl,below_drewN hbw2 _⟩
     ·obtain ⟨j,rfl⟩:∃j,k=j+1:=⟨k - 1,by omega⟩
      obtain ⟨sp,hsp, -⟩:=HPV.out j rfl;clear HPV HBP
      have hk1:(0:Int)<((j+1:Nat):Int):=by omega
      have hwi:IntKind.i64.wrap (((j+1:Nat):Int) - 1)=(j:Int):=by rw [IntKind.wrap_i64];omega
      have hj1:((j:Int)+1 - 1)=j:=by omega
      have hji:(j:Int)<n:=by omega
      have hbo:=qyz sp s;obtain ⟨lt,hlt2⟩:∃lt,lt=ltN sp s:=⟨_,rfl⟩;rw [←hlt2] at hbo;clear hlt2
      cases lt with
      | false=>
       go_wp2;rw [←hw2];rw [←hF];clear hw2 hF
       go_quiet (exact Calls.quiet_of_same (hcn _))
       go_wp2;go_ret;exact ⟨by rw [HE.out];rfl,below_drewN hbw2 _⟩
      | true=>
       rcases g3 with g3 | g3
       ·have g3':(p:Int)<1:=by omega
        go_wp2;rw [←hw2];rw [←hF];clear hw2 hF
        go_quiet (exact Calls.quiet_of_same (hcn _))
        go_wp2;go_ret;exact ⟨by rw [HE.out];rfl,below_drewN hbw2 _⟩
       ·have g3':decide ((p:Int)<1)=false:=by simpa using (by omega:¬(p:Int)<1)
        have g4':(64:Int)<p:=by omega
        go_wp2;rw [←hw2];rw [←hF];clear hw2 hF
        go_quiet (exact Calls.quiet_of_same (hcn _))
        go_wp2;go_ret;exact ⟨by rw [HE.out];rfl,below_drewN hbw2 _⟩
    ·have HON:=hide (show oneF (s,l)=true by rw [HO.out,hnm];simp;omega)
     have g3':decide ((p:Int)<1)=false:=by simpa using (by omega:¬(p:Int)<1)
     have g4':decide ((64:Int)<p)=false:=by simpa using (by omega:¬(64:Int)<p)
     clear hnm HB8 g3
     by_cases hk0:k=0
     ·subst hk0
      simp only [Nat.zero_mul,Nat.add_zero] at q0 q1
      have HE:=hide (HNX.out HON.out (fun j hj=>by omega));clear HPV HBP HNX;go_wp2;rw [←hw2];rw [←hF];clear hw2 hF
      go_quiet (exact Calls.quiet_of_same (hcn _))
      go_wp2;go_roundw
      case rel=>exact ⟨0+1,by omega,rfl,HE,below_drewN hbel2 _⟩
      case measure=>simp only [intOf];omega
     ·obtain ⟨j,rfl⟩:∃j,k=j+1:=⟨k - 1,by omega⟩
      obtain ⟨sp,hsp,hspe⟩:=HPV.out j rfl;have HSP:=hide hspe;clear HPV hspe
      have hk1:(0:Int)<((j+1:Nat):Int):=by omega
      have hwi:IntKind.i64.wrap (((j+1:Nat):Int) - 1)=(j:Int):=by rw [IntKind.wrap_i64];omega
      have hj1:((j:Int)+1 - 1)=j:=by omega
      have hji:(j:Int)<n:=by omega
      have hbo:=qyz sp s
      cases hlq:ltN sp s with
      | false=>
       rw [hlq] at hbo;have HE:=hide (HBP.out j rfl (by rw [←HSP.out];exact hlq));clear HBP HNX HSP hlq;go_wp2;rw [←hw2];rw [←hF];clear hw2 hF
       go_quiet (exact Calls.quiet_of_same (hcn _))
       go_wp2;go_ret;exact ⟨by rw [HE.out];rfl,below_drewN hbw2 _⟩
      | true=>
       rw [hlq] at hbo
       have HE:=hide (HNX.out HON.out (fun i hi=>by
        obtain rfl:i=j:=by omega
        rw [←HSP.out];exact hlq))
       clear HBP HNX HSP hlq;go_wp2;rw [←hw2];rw [←hF];clear hw2 hF
       go_quiet (exact Calls.quiet_of_same (hcn _))
       go_wp2;go_roundw
       case rel=>exact ⟨j+1+1,by omega,rfl,HE,below_drewN hbel2 _⟩
       case measure=>simp only [intOf];omega
  ·have hd:decide ((k:Int)<n)=false:=by simpa using (by omega:¬(k:Int)<n)
   have e:k=fs.length:=by have:=HN.out;omega
   rw [e,List.take_length] at heach;clear e;have HLN:=hide (show fs.length≤40 by have:=HN.out;omega);have HUL:=hide (qei heach.out HLN.out);have HDr:=hide (HD1.out.carry hbel);have HBr:=hide hbw;clear hbel hbw
   go_wp2_with fail
   refine (ql7 a n c fs wr (HR.out.carry HBr.out) HN.out (by omega) (by have:=HUL.out;omega)).mono ?_
   rintro e w3 ⟨v3,rfl,o3,b3⟩;have HB3:=bT HBr b3;have HD3:=hide (HDr.out.carry b3);have d3:=HD3.out.cell;clear b3 hda;obtain ⟨m,hm3⟩:∃m,m=(qan fs).length:=⟨_,rfl⟩
   obtain ⟨a3,c3,hf3⟩:∃a c,v3=.slice a m c:=by rw [hm3];exact o3.form
   subst hf3;have hwi:=ql8 a3 m c3 (qan fs) B w3 o3.rd hm3 (qf7 HW.out);clear hm3 o3
   by_cases g3:extP (qan fs) B
   ·rw [decide_eq_true g3] at hwi
    have HX:=hide g3;clear g3
    go_wp2_with fail
    refine hwi.mono ?_
    rintro e w4 ⟨rfl,b4⟩;have HB4:=bT HB3 b4;have d4:=(HD3.out.carry b4).cell;clear b4 d3 hwi
    go_wp2_with fail
    refine (qg3 a n c fs w4 (HR.out.carry HB4.out) HN.out (qga HLN.out heach.out HX.out)).mono ?_
    rintro e w5 ⟨v5,rfl,o5,b5⟩;have HB5:=bT HB4 b5;clear b5 d4;obtain ⟨m5,hm5⟩:∃m,m=(bytF fs).length:=⟨_,rfl⟩
    obtain ⟨a5,c5,hf5⟩:∃a c,v5=.slice a m5 c:=by rw [hm5];exact qqe o5
    subst hf5;clear o5
    by_cases g4:2048<m5
    ·have HE:=hide (show chkF fs B=8 from qil HBK.out (fun h=>by have:=h.2.2.2;omega))
     have g4':(2048:Int)<m5:=by omega
     clear hm5;go_wp2;go_ret;exact ⟨by rw [HE.out];rfl,HB5.out⟩
    ·have HE:=hide (show chkF fs B=0 from qo8 HBK.out ⟨HLN.out,heach.out,HX.out,by omega⟩)
     have g4':decide ((2048:Int)<m5)=false:=by simpa using (by omega:¬(2048:Int)<m5)
     clear hm5;go_wp2;go_ret;exact ⟨by rw [HE.out];rfl,HB5.out⟩
   ·rw [decide_eq_false g3] at hwi
    have HE:=hide (show chkF fs B=8 from qil HBK.out (fun h=>g3 h.2.2.1));clear g3
    go_wp2_with fail
    refine hwi.mono ?_
    rintro e w4 ⟨rfl,b4⟩;have HB4:=bT HB3 b4;clear b4 d3 hwi;go_wp2;go_ret;exact ⟨by rw [HE.out];rfl,HB4.out⟩
def askE (fs:List Fl) (s:List UInt8) (B:Int):Int:=if chkF fs B≠0 then chkF fs B else if qbm s=false then 50 else 0
theorem qjk (a:Option Addr) (n c:Nat) (fs:List Fl) (s:List UInt8) (B:Int) (w:World) (hrd:RdF w (.slice a n c) fs) (hn:n=fs.length) (hwf:wfFs fs):
  Calls Tryz.prog 193 #[.agg #[.slice a n c],.string (bs s),.int .i64 B] w fun e w'=>e=.returned (.int .i64 (askE fs s B))∧Below w.heap.size w w':=by
 obtain ⟨W0,hW0⟩:∃W0,W0=w.alloc (.cells #[.slice a n c] 31):=⟨_,rfl⟩
 have hb0:Below w.heap.size w W0:=by rw [hW0];exact (Below.refl _ _).alloc (Nat.le_refl _) _
 have HB0:=hide hb0;have hck:=qfo a n c fs B W0 (hrd.carry hb0) hn hwf;clear hrd hn hwf hb0
 by_cases g1:chkF fs B=0
 case neg=>
  have HE:=hide (show askE fs s B=chkF fs B by unfold askE;rw [if_pos g1]);obtain ⟨z,hz⟩:∃z,z=chkF fs B:=⟨_,rfl⟩;rw [←hz] at hck g1 HE
  have g1':(z==0)=false:=by simpa using g1
  clear hz
  go_enter Tryz.func193,Tryz.ntmps193
  go_wp2_with fail
  rw [←hW0];clear hW0
  refine hck.mono ?_
  rintro e w1 ⟨rfl,b1⟩;clear hck;go_wp2;go_ret;exact ⟨by rw [HE.out];rfl,HB0.out.trans (b1.mono HB0.out.size)⟩
 rw [g1] at hck;have HC:=hide g1;clear g1
 go_enter Tryz.func193,Tryz.ntmps193
 go_wp2_with fail
 rw [←hW0];clear hW0
 refine hck.mono ?_
 rintro e w1 ⟨rfl,b1⟩;have HB1:=bT HB0 b1;clear hck b1;have hnm:=qsm s w1
 cases hq:qbm s with
 | false=>
  have HE:=hide (show askE fs s B=50 by unfold askE;rw [if_neg (by simp [HC.out]),if_pos hq]);rw [hq] at hnm;clear hq
  go_wp2_with fail
  refine hnm.mono ?_
  rintro e w2 ⟨rfl,b2⟩;clear hnm;go_wp2;go_ret;exact ⟨by rw [HE.out];rfl,HB1.out.trans (b2.mono HB1.out.size)⟩
 | true=>
  have HE:=hide (show askE fs s B=0 by unfold askE;rw [if_neg (by simp [HC.out]),if_neg (by simp [hq])]);rw [hq] at hnm;clear hq
  go_wp2_with fail
  refine hnm.mono ?_
  rintro e w2 ⟨rfl,b2⟩;clear hnm;go_wp2;go_ret;exact ⟨by rw [HE.out];rfl,HB1.out.trans (b2.mono HB1.out.size)⟩
theorem qdk {fs:List Fl} {s:List UInt8} {B:Int} (h:askE fs s B=0):chkF fs B=0∧qbm s=true:=by
 unfold askE at h
 by_cases h1:chkF fs B=0
 ·rw [if_neg (by simpa using h1)] at h
  cases h2:qbm s with
  | false=>rw [if_pos h2] at h;omega
  | true=>exact ⟨h1,rfl⟩
 ·rw [if_pos h1] at h;exact absurd h h1
theorem qsp {fs:List Fl} {s:List UInt8} (h:askE fs s 4096≠0):qaw fs s=askE fs s 4096:=by
 unfold qaw askE at *
 by_cases h1:chkF fs 4096=0
 ·by_cases h2:qbm s=false
  ·simp [h1,h2]
  ·simp [h1,h2] at h
 ·simp [h1]
theorem qza {fs:List Fl} {s:List UInt8} {l:List Ex} {B:Int} (h:askE fs s B≠0):qao fs s l B=askE fs s B:=by
 unfold qao askE at *
 by_cases h1:chkF fs B=0
 ·by_cases h2:qbm s=false
  ·simp [h1,h2]
  ·simp [h1,h2] at h
 ·simp [h1]
theorem qagi {fs:List Fl} {s:List UInt8} (h:askE fs s 4096=0) (h2:isF fs s=true):qaw fs s=0:=(qk7 (qdk h).1 (qdk h).2 h2).1
theorem qab7 {fs:List Fl} {s:List UInt8} (h:askE fs s 4096=0) (h2:isF fs s=false):qaw fs s=6:=qnb (qdk h).1 (qdk h).2 h2
theorem qim {fs:List Fl} {B:Int} (h:mayF fs B):∀f∈fs,f.2.length≤1000000:=fun f hf=>by have:=qdg (h.2.1.1 f hf);omega
theorem qsq (a:Option Addr) (n c:Nat) (fs:List Fl) (s:List UInt8) (w:World) (hrd:RdF w (.slice a n c) fs) (hn:n=fs.length) (hwf:wfFs fs):
  Calls Tryz.prog 121 #[.agg #[.slice a n c],.string (bs s)] w fun e w'=>∃v,e=.returned (.tuple #[.agg #[.string (bs (qdq fs s).1),v],.int .i64 (qaw fs s)])∧OwE w' w.heap.size v (qdq fs s).2∧Below w.heap.size w w':=by
 obtain ⟨W0,hW0⟩:∃W0,W0=(w.alloc (.cells #[.slice a n c] 31)).alloc (.cells #[.string {data:=#[]},.slice none 0 0] 98):=⟨_,rfl⟩
 have hb0:Below w.heap.size w W0:=by rw [hW0];exact ((Below.refl _ _).alloc (Nat.le_refl _) _).alloc (by simp) _
 have HD_W0:=hide (show DirAt W0 w.heap.size (.slice a n c) by rw [hW0];exact (DirAt.new w _).carry ((Below.refl _ _).alloc (Nat.le_refl _) _));have HA_W0:=hide (show FileAt W0 (w.heap.size+1) {data:=#[]} (.slice none 0 0) by rw [hW0];have:=FileAt.new (w.alloc (.cells #[.slice a n c] 31)) {data:=#[]} (.slice none 0 0);simpa using this);have HB_W0:=hide hb0;have HR:=hide hrd;have HN:=hide hn;have HW:=hide hwf;have hask:=qjk a n c fs s 4096 W0 (hrd.carry hb0) hn hwf;clear hrd hn hwf hb0
 by_cases g1:askE fs s 4096=0
 case neg=>
  have HV:=hide (show qdq fs s=([],[]) by unfold qdq;rw [if_neg (by rw [qsp g1];exact g1)]);have HE:=hide (qsp g1);obtain ⟨z,hz⟩:∃z,z=askE fs s 4096:=⟨_,rfl⟩;rw [←hz] at hask g1 HE
  have g1':(z==0)=false:=by simpa using g1
  clear hz
  go_enter Tryz.func121,Tryz.ntmps121
  go_wp2_with fail
  rw [←hW0];clear hW0
  refine (hask).mono ?_
  rintro e w1 ⟨rfl,hb1⟩;have qdl:=hide (HD_W0.out.carry hb1);have qbn:=hide (HA_W0.out.carry hb1);have qad:=bT HB_W0 hb1;clear HD_W0 HA_W0 HB_W0 hb1;clear hask;have e0:=qbn.out.cell0;have e1:=qbn.out.cell1;have f0:=frozen_of_row w1 (w.heap.size+1) 0 _ _ qbn.out;have f1:=frozen_of_row w1 (w.heap.size+1) 1 _ _ qbn.out;have hg:=qbw (w:=w1) (q:=w.heap.size+1) (.string {data:=#[]}) (.slice none 0 0)
  have hh:FileAt ((w1.setCell ⟨w.heap.size+1,0,none⟩ (.string {data:=#[]})).setCell ⟨w.heap.size+1,1,none⟩ (.slice none 0 0)) (w.heap.size+1) {data:=#[]} (.slice none 0 0):=by
   have a1:=heap_setCell_same w1 (w.heap.size+1) 0 _ 98 (.string {data:=#[]}) qbn.out;have a2:=heap_setCell_same (w1.setCell ⟨w.heap.size+1,0,none⟩ (.string {data:=#[]})) (w.heap.size+1) 1 _ 98 (.slice none 0 0) a1;unfold FileAt
   rw [a2];rfl
  have HOR:=hide (show OwE ((w1.setCell ⟨w.heap.size+1,0,none⟩ (.string {data:=#[]})).setCell ⟨w.heap.size+1,1,none⟩ (.slice none 0 0)) w.heap.size (.slice none 0 0) _ from OwE.nil _ _);have HBR:=hide (qad.out.grown hg qad.out.size (by intro k hk;cases hk;omega));have z0:=hh.cell0;have z1:=hh.cell1;clear hg hh;go_wp2;obtain ⟨w9,hw9⟩:∃w9,w9=(w1.setCell ⟨w.heap.size+1,0,none⟩ (.string {data:=#[]})).setCell ⟨w.heap.size+1,1,none⟩ (.slice none 0 0):=⟨_,rfl⟩;rw [←hw9] at z0 z1 HOR HBR ⊢
  try simp only [Exit.inBlock,Exit.then]
  refine bodyPost_ret (v:=.tuple #[.agg #[.string {data:=#[]},.slice none 0 0],.int .i64 z]) ?_ rfl ⟨.slice none 0 0,by rw [HE.out,HV.out];rfl,by rw [HV.out];exact HOR.out,HBR.out⟩
  clear hw9 e0 e1 f0 f1
  simp [results,Tryz.results121,go_sem, *]
 rw [g1] at hask;have HK:=hide (qeq (qdk g1).1).2;have HG:=hide g1;clear g1
 go_enter Tryz.func121,Tryz.ntmps121
 go_wp2_with fail
 rw [←hW0];clear hW0
 refine (hask).mono ?_
 rintro e w1 ⟨rfl,hb1⟩;have qdl:=hide (HD_W0.out.carry hb1);have qbn:=hide (HA_W0.out.carry hb1);have qad:=bT HB_W0 hb1;clear HD_W0 HA_W0 HB_W0 hb1;clear hask;have r0:=qdl.out.cell;have hfd:=ql6 a n c fs s w1 (HR.out.carry qad.out) HN.out (by have:=HK.out.1;have:=HN.out;omega)
 go_wp2_with fail
 refine (hfd).mono ?_
 rintro e w2 ⟨hor,hb2⟩;clear r0;have qd3:=hide (qdl.out.carry hb2);have qct:=hide (qbn.out.carry hb2);have qae:=bT qad hb2;clear qdl qbn qad hb2;clear hfd
 rcases hor with ⟨rfl,hno⟩ | ⟨t,ht,rfl,hts,hyes⟩
 ·have HE:=hide (qab7 HG.out hno)
  have HV:=hide (show qdq fs s=([],[]) by unfold qdq;rw [if_neg (by rw [HE.out];omega)]);clear hno;have e0:=qct.out.cell0;have e1:=qct.out.cell1;have f0:=frozen_of_row w2 (w.heap.size+1) 0 _ _ qct.out;have f1:=frozen_of_row w2 (w.heap.size+1) 1 _ _ qct.out;have hg:=qbw (w:=w2) (q:=w.heap.size+1) (.string {data:=#[]}) (.slice none 0 0)
  have hh:FileAt ((w2.setCell ⟨w.heap.size+1,0,none⟩ (.string {data:=#[]})).setCell ⟨w.heap.size+1,1,none⟩ (.slice none 0 0)) (w.heap.size+1) {data:=#[]} (.slice none 0 0):=by
   have a1:=heap_setCell_same w2 (w.heap.size+1) 0 _ 98 (.string {data:=#[]}) qct.out;have a2:=heap_setCell_same (w2.setCell ⟨w.heap.size+1,0,none⟩ (.string {data:=#[]})) (w.heap.size+1) 1 _ 98 (.slice none 0 0) a1;unfold FileAt
   rw [a2];rfl
  have HOR:=hide (show OwE ((w2.setCell ⟨w.heap.size+1,0,none⟩ (.string {data:=#[]})).setCell ⟨w.heap.size+1,1,none⟩ (.slice none 0 0)) w.heap.size (.slice none 0 0) _ from OwE.nil _ _);have HBR:=hide (qae.out.grown hg qae.out.size (by intro k hk;cases hk;omega));have z0:=hh.cell0;have z1:=hh.cell1;clear hg hh;go_wp2;obtain ⟨w9,hw9⟩:∃w9,w9=(w2.setCell ⟨w.heap.size+1,0,none⟩ (.string {data:=#[]})).setCell ⟨w.heap.size+1,1,none⟩ (.slice none 0 0):=⟨_,rfl⟩;rw [←hw9] at z0 z1 HOR HBR ⊢
  try simp only [Exit.inBlock,Exit.then]
  refine bodyPost_ret (v:=.tuple #[.agg #[.string {data:=#[]},.slice none 0 0],.int .i64 6]) ?_ rfl ⟨.slice none 0 0,by rw [HE.out,HV.out];rfl,by rw [HV.out];exact HOR.out,HBR.out⟩
  clear hw9 e0 e1 f0 f1
  simp [results,Tryz.results121,go_sem, *]
 ·have HE:=hide (qagi HG.out hyes)
  have HV:=hide (show qdq fs s=(s,(fs[t]).2) by unfold qdq;rw [if_pos HE.out,qo5 HK.out.2.1.2 ht hts]);have HLt:=hide (qim HK.out _ (List.getElem_mem ht))
  have htn:(t:Int)<n:=by have:=HN.out;omega
  have ht0:decide ((t:Int)<0)=false:=decide_eq_false (by omega)
  have htn2:t<n:=by omega
  obtain ⟨b,off,a2,c2,rfl,q0,q1,q2⟩:=HR.out.atB qae.out t ht;rw [hts] at q0;have HQ:=hide q2;obtain ⟨l,hl⟩:∃l,l=(fs[t]).2:=⟨_,rfl⟩;rw [←hl] at q1 HQ HV HLt;obtain ⟨m,hm⟩:∃m,m=l.length:=⟨_,rfl⟩;rw [←hm] at q1 HQ;have HM:=hide hm;clear hm hl q2 hts hyes;have r0:=qd3.out.cell;have HSZ:=hide qae.out.size
  go_wp2_with fail
  refine (qgb s a2 m c2 l w2 (HQ.out.carry qae.out) HM.out HLt.out).mono ?_
  rintro e w3 ⟨a3,c3,rfl,ho3,hb3⟩;clear r0;have qhb:=hide (qct.out.carry hb3);have qak:=bT qae hb3;clear qd3 qct qae hb3;have HOx:=hide (show OwE w3 w.heap.size (.slice a3 m c3) l from ho3.mono HSZ.out);clear ho3 q0 q1;have e0:=qhb.out.cell0;have e1:=qhb.out.cell1;have f0:=frozen_of_row w3 (w.heap.size+1) 0 _ _ qhb.out;have f1:=frozen_of_row w3 (w.heap.size+1) 1 _ _ qhb.out;have hg:=qbw (w:=w3) (q:=w.heap.size+1) (.string (bs s)) (.slice a3 m c3)
  have hh:FileAt ((w3.setCell ⟨w.heap.size+1,0,none⟩ (.string (bs s))).setCell ⟨w.heap.size+1,1,none⟩ (.slice a3 m c3)) (w.heap.size+1) (bs s) (.slice a3 m c3):=by
   have a1:=heap_setCell_same w3 (w.heap.size+1) 0 _ 98 (.string (bs s)) qhb.out;have a2:=heap_setCell_same (w3.setCell ⟨w.heap.size+1,0,none⟩ (.string (bs s))) (w.heap.size+1) 1 _ 98 (.slice a3 m c3) a1;unfold FileAt
   rw [a2];rfl
  have HOR:=hide (show OwE ((w3.setCell ⟨w.heap.size+1,0,none⟩ (.string (bs s))).setCell ⟨w.heap.size+1,1,none⟩ (.slice a3 m c3)) w.heap.size (.slice a3 m c3) _ from World.ownsRow.kept HOx.out hg (.inr (OwE.apartF HOx.out qhb.out)));have HBR:=hide (qak.out.grown hg qak.out.size (by intro k hk;cases hk;omega));have z0:=hh.cell0;have z1:=hh.cell1;clear hg hh;go_wp2;obtain ⟨w9,hw9⟩:∃w9,w9=(w3.setCell ⟨w.heap.size+1,0,none⟩ (.string (bs s))).setCell ⟨w.heap.size+1,1,none⟩ (.slice a3 m c3):=⟨_,rfl⟩;rw [←hw9] at z0 z1 HOR HBR ⊢
  try simp only [Exit.inBlock,Exit.then]
  refine bodyPost_ret (v:=.tuple #[.agg #[.string (bs s),.slice a3 m c3],.int .i64 0]) ?_ rfl ⟨.slice a3 m c3,by rw [HE.out,HV.out],by rw [HV.out];exact HOR.out,HBR.out⟩
  clear hw9 e0 e1 f0 f1
  simp [results,Tryz.results121,go_sem, *]
theorem qsr (a:Option Addr) (n c:Nat) (fs:List Fl) (w:World) (hrd:RdF w (.slice a n c) fs) (hn:n=fs.length) (hwf:wfFs fs):
  Calls Tryz.prog 196 #[.agg #[.slice a n c]] w fun e w'=>∃v,e=.returned (.tuple #[v,.int .i64 (chkF fs 4096)])∧OwE w' w.heap.size v (qde fs)∧Below w.heap.size w w':=by
 obtain ⟨W0,hW0⟩:∃W0,W0=w.alloc (.cells #[.slice a n c] 31):=⟨_,rfl⟩
 have hb0:Below w.heap.size w W0:=by rw [hW0];exact (Below.refl _ _).alloc (Nat.le_refl _) _
 have HD_W0:=hide (show DirAt W0 w.heap.size (.slice a n c) by rw [hW0];exact DirAt.new w _);have HB_W0:=hide hb0;have HR:=hide hrd;have HN:=hide hn;have HW:=hide hwf;have hck:=qfo a n c fs 4096 W0 (hrd.carry hb0) hn hwf;clear hrd hn hwf hb0
 by_cases g1:chkF fs 4096=0
 case neg=>
  have HL:=hide (show qde fs=[] by unfold qde;rw [if_neg g1]);obtain ⟨z,hz⟩:∃z,z=chkF fs 4096:=⟨_,rfl⟩;rw [←hz] at hck g1;have HE:=hide hz
  have g1':(z==0)=false:=by simpa using g1
  clear hz
  go_enter Tryz.func196,Tryz.ntmps196
  go_wp2_with fail
  rw [←hW0];clear hW0
  refine (hck).mono ?_
  rintro e w1 ⟨rfl,hb1⟩;have qdl:=hide (HD_W0.out.carry hb1);have qad:=bT HB_W0 hb1;clear HD_W0 HB_W0 hb1;clear hck;go_wp2
  all_goals (go_ret2;exact ⟨.slice none 0 0,by rw [←HE.out];rfl,by rw [HL.out];exact OwE.nil _ _,qad.out⟩)
 have HK:=hide (qeq g1).2;have HL:=hide (show qde fs=qan fs by unfold qde;rw [if_pos g1]);have HE:=hide g1;rw [g1] at hck;clear g1
 go_enter Tryz.func196,Tryz.ntmps196
 go_wp2_with fail
 rw [←hW0];clear hW0
 refine (hck).mono ?_
 rintro e w1 ⟨rfl,hb1⟩;have qdl:=hide (HD_W0.out.carry hb1);have qad:=bT HB_W0 hb1;clear HD_W0 HB_W0 hb1;clear hck;have HSZ:=hide qad.out.size;have r0:=qdl.out.cell
 go_wp2_with fail
 refine (ql7 a n c fs w1 (HR.out.carry qad.out) HN.out (by have:=HK.out.1;have:=HN.out;omega) (by have:=qei HK.out.2.1 HK.out.1;omega)).mono ?_
 rintro e w2 ⟨v2,rfl,ho2,hb2⟩;clear r0;have qae:=bT qad hb2;clear qdl qad hb2;have HOx:=hide (ho2.mono HSZ.out);clear ho2;go_wp2;go_ret2;exact ⟨_,by rw [HE.out];rfl,by rw [HL.out];exact HOx.out,qae.out⟩
theorem qu0 (a:Option Addr) (n c:Nat) (fs:List Fl) (s:List UInt8) (al:Option Addr) (m cl:Nat) (l:List Ex) (B:Int) (w:World) (hrd:RdF w (.slice a n c) fs) (hn:n=fs.length) (hwf:wfFs fs) (hrl:RdE w (.slice al m cl) l) (hm:m=l.length) (hml:l.length≤100000) (hwl:∀x∈l,wfX x):
  Calls Tryz.prog 124 #[.agg #[.slice a n c],.string (bs s),.slice al m cl,.int .i64 B] w fun e w'=>∃v,e=.returned (.tuple #[.agg #[v],.int .i64 (qao fs s l B)])∧OwF w' w.heap.size v (qbd fs s l B)∧Below w.heap.size w w':=by
 obtain ⟨W0,hW0⟩:∃W0,W0=(w.alloc (.cells #[.slice a n c] 31)).alloc (.cells #[.slice none 0 0] 31):=⟨_,rfl⟩
 have hb0:Below w.heap.size w W0:=by rw [hW0];exact ((Below.refl _ _).alloc (Nat.le_refl _) _).alloc (by simp) _
 have HD_W0:=hide (show DirAt W0 w.heap.size (.slice a n c) by rw [hW0];exact (DirAt.new w _).carry ((Below.refl _ _).alloc (Nat.le_refl _) _));have HA_W0:=hide (show BlkD W0 (w.heap.size+1) by rw [hW0];have:=BlkD.new (w.alloc (.cells #[.slice a n c] 31)) (.slice none 0 0);simpa using this);have HB_W0:=hide hb0;have HR:=hide hrd;have HN:=hide hn;have HW:=hide hwf;have hask:=qjk a n c fs s B W0 (hrd.carry hb0) hn hwf;have HRL:=hide hrl;have HM:=hide hm;have HML:=hide hml;have HWL:=hide hwl
 have hmn:m≤100000:=by omega
 clear hrl hm hml hwl;clear hrd hn hwf hb0
 by_cases g1:askE fs s B=0
 case neg=>
  have HE:=hide (qza (l:=l) g1);have HL:=hide (show qbd fs s l B=[] by unfold qbd;rw [if_neg (by rw [HE.out];exact g1)]);obtain ⟨z,hz⟩:∃z,z=askE fs s B:=⟨_,rfl⟩;rw [←hz] at hask g1 HE
  have g1':(z==0)=false:=by simpa using g1
  clear hz
  go_enter Tryz.func124,Tryz.ntmps124
  go_wp2_with fail
  rw [←hW0];clear hW0
  refine (hask).mono ?_
  rintro e w1 ⟨rfl,hb1⟩;have qdl:=hide (HD_W0.out.carry hb1);have qbn:=hide (HA_W0.out.carry hb1);have qad:=bT HB_W0 hb1;clear HD_W0 HA_W0 HB_W0 hb1;clear hask;have hc:=qbn.out.cell;have hf:=qbn.out.fz;obtain ⟨z0,hg, -⟩:=qbn.out.put (.slice none 0 0);obtain ⟨y,hy⟩:=qbn.out;have HOR:=hide (show OwF (w1.setCell ⟨w.heap.size+1,0,none⟩ (.slice none 0 0)) w.heap.size (.slice none 0 0) _ from OwF.nil _ _);have HBR:=hide (qad.out.grown hg qad.out.size (by intro k hk;cases hk;omega));clear hy hg;go_wp2;obtain ⟨w9,hw9⟩:∃w9,w9=w1.setCell ⟨w.heap.size+1,0,none⟩ (.slice none 0 0):=⟨_,rfl⟩;rw [←hw9] at z0 HOR HBR ⊢
  try simp only [Exit.inBlock,Exit.then]
  refine bodyPost_ret (v:=.tuple #[.agg #[.slice none 0 0],.int .i64 z]) ?_ rfl ⟨.slice none 0 0,by rw [HE.out],by rw [HL.out];exact HOR.out,HBR.out⟩
  clear hw9 hc hf
  simp [results,Tryz.results124,go_sem, *]
 rw [g1] at hask;have HK:=hide (qeq (qdk g1).1).2;have HG:=hide (qdk g1);clear g1
 go_enter Tryz.func124,Tryz.ntmps124
 go_wp2_with fail
 rw [←hW0];clear hW0
 refine (hask).mono ?_
 rintro e w1 ⟨rfl,hb1⟩;have qdl:=hide (HD_W0.out.carry hb1);have qbn:=hide (HA_W0.out.carry hb1);have qad:=bT HB_W0 hb1;clear HD_W0 HA_W0 HB_W0 hb1;clear hask;have r0:=qdl.out.cell;have hfd:=ql6 a n c fs s w1 (HR.out.carry qad.out) HN.out (by have:=HK.out.1;have:=HN.out;omega)
 go_wp2_with fail
 refine (hfd).mono ?_
 rintro e w2 ⟨hor,hb2⟩;clear r0;have qd3:=hide (qdl.out.carry hb2);have qct:=hide (qbn.out.carry hb2);have qae:=bT qad hb2;clear qdl qbn qad hb2;clear hfd
 rcases hor with ⟨rfl,hno⟩ | ⟨t,ht,rfl,hts,hyes⟩
 rotate_left
 ·have HE:=hide (show qao fs s l B=51 by unfold qao;rw [if_neg (by simp [HG.out.1]),if_neg (by simp [HG.out.2]),if_pos hyes])
  have HL:=hide (show qbd fs s l B=[] by unfold qbd;rw [if_neg (by rw [HE.out];omega)])
  have ht0:(0:Int)≤t:=by omega
  clear hts hyes;have hc:=qct.out.cell;have hf:=qct.out.fz;obtain ⟨z0,hg, -⟩:=qct.out.put (.slice none 0 0);obtain ⟨y,hy⟩:=qct.out;have HOR:=hide (show OwF (w2.setCell ⟨w.heap.size+1,0,none⟩ (.slice none 0 0)) w.heap.size (.slice none 0 0) _ from OwF.nil _ _);have HBR:=hide (qae.out.grown hg qae.out.size (by intro k hk;cases hk;omega));clear hy hg;go_wp2;obtain ⟨w9,hw9⟩:∃w9,w9=w2.setCell ⟨w.heap.size+1,0,none⟩ (.slice none 0 0):=⟨_,rfl⟩;rw [←hw9] at z0 HOR HBR ⊢
  try simp only [Exit.inBlock,Exit.then]
  refine bodyPost_ret (v:=.tuple #[.agg #[.slice none 0 0],.int .i64 51]) ?_ rfl ⟨.slice none 0 0,by rw [HE.out],by rw [HL.out];exact HOR.out,HBR.out⟩
  clear hw9 hc hf
  simp [results,Tryz.results124,go_sem, *]
 have HNO:=hide hno;clear hno;have HE0:=hide (show qao fs s l B=if l=[]∨¬extP (qan fs++l) B then 8 else if fs.length=40∨64<l.length then 40 else fitE (insF fs (s,l)) by unfold qao;rw [if_neg (by simp [HG.out.1]),if_neg (by simp [HG.out.2]),if_neg (by simp [HNO.out])]);have HUL:=hide (qei HK.out.2.1 HK.out.1);have r0:=qd3.out.cell
 go_wp2_with fail
 refine (ql7 a n c fs w2 (HR.out.carry qae.out) HN.out (by have:=HK.out.1;have:=HN.out;omega) (by have:=HUL.out;omega)).mono ?_
 rintro e w3 ⟨v3,rfl,ho3,hb3⟩;clear r0;have qhc:=hide (qd3.out.carry hb3);have qhb:=hide (qct.out.carry hb3);have qak:=bT qae hb3;have HS9:=hide hb3.size;have HSB:=hide qae.out.size;have HDL:=hide (Array.getElem?_eq_some_iff.1 qd3.out).1;have HAL:=hide (show w.heap.size+1<w2.heap.size by obtain ⟨y,hy⟩:=qct.out;exact (Array.getElem?_eq_some_iff.1 hy).1);clear qd3 qct qae hb3;obtain ⟨g9,c9,x9,hrun,ho9,hb9⟩:=qf8 (base:=w2.heap.size) ho3 HS9.out (HRL.out.carry qak.out) HM.out (by have:=HUL.out;have:=HML.out;omega);have hb9':Below w.heap.size w x9:=qak.out.trans (hb9.mono HSB.out);have HD_x9:=hide (show DirAt x9 w.heap.size (.slice a n c) from (hb9.block _ HDL.out).trans qhc.out);have HA_x9:=hide (show BlkD x9 (w.heap.size+1) by obtain ⟨y,hy⟩:=qhb.out;exact ⟨y,(hb9.block _ HAL.out).trans hy⟩);have HB_x9:=hide hb9';have HO9:=hide ho9;clear qhc qhb qak hb9 hb9' ho9;obtain ⟨av,cv,hav⟩:=ho3.form;subst hav;clear ho3;obtain ⟨U,hU⟩:∃U,U=(qan fs).length:=⟨_,rfl⟩;rw [←hU] at hrun ⊢;clear hU;obtain ⟨q,hq⟩:∃q,q=(qan fs++l).length:=⟨_,rfl⟩;rw [←hq] at hrun HO9;have HQ:=hide hq;clear hq;obtain ⟨w8,hw8⟩:∃w8,w8=x9:=⟨_,rfl⟩;rw [←hw8] at hrun HD_x9 HA_x9 HB_x9 HO9;clear hw8;have qagj:=HD_x9;have qss:=HA_x9;have qfp:=HB_x9;clear HD_x9 HA_x9 HB_x9
 by_cases g2:m<1
 ·have g2':(m:Int)<1:=by omega
  have HE:=hide (show qao fs s l B=8 by rw [HE0.out,if_pos (.inl (by have:=HM.out;exact List.eq_nil_of_length_eq_zero (by omega)))]);have HL:=hide (show qbd fs s l B=[] by unfold qbd;rw [if_neg (by rw [HE.out];omega)]);have hc:=qss.out.cell;have hf:=qss.out.fz;obtain ⟨z0,hg, -⟩:=qss.out.put (.slice none 0 0);obtain ⟨y,hy⟩:=qss.out;have HOR:=hide (show OwF (w8.setCell ⟨w.heap.size+1,0,none⟩ (.slice none 0 0)) w.heap.size (.slice none 0 0) _ from OwF.nil _ _);have HBR:=hide (qfp.out.grown hg qfp.out.size (by intro k hk;cases hk;omega));clear hy hg
  go_wp2_with (at_builtin;refine qaf rfl (.tmp 27) (.tmp 28) 96 rfl rfl rfl rfl hrun ?_)
  obtain ⟨w9,hw9⟩:∃w9,w9=w8.setCell ⟨w.heap.size+1,0,none⟩ (.slice none 0 0):=⟨_,rfl⟩;rw [←hw9] at z0 HOR HBR ⊢
  try simp only [Exit.inBlock,Exit.then]
  refine bodyPost_ret (v:=.tuple #[.agg #[.slice none 0 0],.int .i64 8]) ?_ rfl ⟨.slice none 0 0,by rw [HE.out],by rw [HL.out];exact HOR.out,HBR.out⟩
  clear hw9 hc hf
  simp [results,Tryz.results124,go_sem, *]
 have g2':decide ((m:Int)<1)=false:=by simpa using (by omega:¬(m:Int)<1)
 have HLN:=hide (show l≠[] from fun e=>by have:=HM.out;rw [e] at this;simp at this;omega);have hwi:=ql8 g9 q c9 (qan fs++l) B w8 HO9.out.rd HQ.out (fun x hx=>(List.mem_append.1 hx).elim (qf7 HW.out x) (HWL.out x))
 by_cases g3:extP (qan fs++l) B
 rotate_left
 ·rw [decide_eq_false g3] at hwi
  have HE:=hide (show qao fs s l B=8 by rw [HE0.out,if_pos (.inr g3)]);have HL:=hide (show qbd fs s l B=[] by unfold qbd;rw [if_neg (by rw [HE.out];omega)]);clear g3
  go_wp2_with (first | (at_builtin;refine qaf rfl (.tmp 27) (.tmp 28) 96 rfl rfl rfl rfl hrun ?_) | fail)
  refine hwi.mono ?_
  rintro e w10 ⟨rfl,hb10⟩;have qab8:=hide (qagj.out.carry hb10);have qma:=hide (qss.out.carry hb10);have qft:=bT qfp hb10;clear qagj qss qfp hb10;clear hwi;have hc:=qma.out.cell;have hf:=qma.out.fz;obtain ⟨z0,hg, -⟩:=qma.out.put (.slice none 0 0);obtain ⟨y,hy⟩:=qma.out;have HOR:=hide (show OwF (w10.setCell ⟨w.heap.size+1,0,none⟩ (.slice none 0 0)) w.heap.size (.slice none 0 0) _ from OwF.nil _ _);have HBR:=hide (qft.out.grown hg qft.out.size (by intro k hk;cases hk;omega));clear hy hg;go_wp2;obtain ⟨w9,hw9⟩:∃w9,w9=w10.setCell ⟨w.heap.size+1,0,none⟩ (.slice none 0 0):=⟨_,rfl⟩;rw [←hw9] at z0 HOR HBR ⊢
  try simp only [Exit.inBlock,Exit.then]
  refine bodyPost_ret (v:=.tuple #[.agg #[.slice none 0 0],.int .i64 8]) ?_ rfl ⟨.slice none 0 0,by rw [HE.out],by rw [HL.out];exact HOR.out,HBR.out⟩
  clear hw9 hc hf
  simp [results,Tryz.results124,go_sem, *]
 rw [decide_eq_true g3] at hwi;have HX:=hide g3;clear g3;have HE1:=hide (show qao fs s l B=if fs.length=40∨64<l.length then 40 else fitE (insF fs (s,l)) by rw [HE0.out,if_neg (by simp [HLN.out,HX.out])])
 go_wp2_with (first | (at_builtin;refine qaf rfl (.tmp 27) (.tmp 28) 96 rfl rfl rfl rfl hrun ?_) | fail)
 refine hwi.mono ?_
 rintro e w10 ⟨rfl,hb10⟩;have qab8:=hide (qagj.out.carry hb10);have qma:=hide (qss.out.carry hb10);have qft:=bT qfp hb10;clear qagj qss qfp hb10;clear hwi hrun HO9;have HS10:=hide qft.out.size;have hwt:=qso a n c fs s al m cl l w10 (HR.out.carry qft.out) HN.out (by have:=HK.out.1;have:=HN.out;omega) (qim HK.out) (HRL.out.carry qft.out) HM.out (by have:=HML.out;omega);rw [qqd (f:=(s,l)) HK.out.2.1.2 HNO.out] at hwt;have r0:=qab8.out.cell
 go_wp2_with fail
 refine (hwt).mono ?_
 rintro e w11 ⟨v11,rfl,ho11,hb11⟩;clear r0;have qaiy:=hide (qma.out.carry hb11);have qhg:=bT qft hb11;clear qab8 qma qft hb11;clear hwt;have HLI:=hide (qpb fs (s,l));have HOK:=hide (fun (h:l.length≤64)=>qaby HK.out HG.out.2 h HX.out);obtain ⟨gs,hgs⟩:∃gs,gs=insF fs (s,l):=⟨_,rfl⟩;have HGS:=hide hgs.symm;rw [←hgs] at ho11 HLI HOK HE1;clear hgs;obtain ⟨p,hp⟩:∃p,p=gs.length:=⟨_,rfl⟩
 obtain ⟨ax,cx,hxf⟩:∃a c,v11=.slice a p c:=by rw [hp];exact ho11.form
 subst hxf;have HP:=hide hp;have qaiz:=hide (ho11.mono HS10.out);clear hp ho11;have hn:Below w11.heap.size w11 (w11.alloc (.cells #[.slice ax p cx] 31)):=(Below.refl _ _).alloc (Nat.le_refl _) _;obtain ⟨x11,hx11⟩:∃x,x=w11.alloc (.cells #[.slice ax p cx] 31):=⟨_,rfl⟩;have HO_x11:=hide (DirAt.new w11 (.slice ax p cx));rw [←hx11] at hn HO_x11;have HA_x11:=hide (qaiy.out.carry hn);have HG_x11:=hide (qaiz.out.carry hn);have HB_x11:=bT qhg hn;clear qaiy qaiz qhg hn
 by_cases g4:40<p∨64<m
 ·have HE:=hide (show qao fs s l B=40 by rw [HE1.out,if_pos (by have h1:=HP.out;have h2:=HLI.out;have h3:=HM.out;have h4:=HK.out.1;omega)])
  have HL:=hide (show qbd fs s l B=[] by unfold qbd;rw [if_neg (by rw [HE.out];omega)]);have d9:=HO_x11.out.cell;rw [hx11] at d9
  rcases g4 with g4 | g4
  ·have g4':(40:Int)<p:=by omega
   have hc:=HA_x11.out.cell;have hf:=HA_x11.out.fz;obtain ⟨z0,hg, -⟩:=HA_x11.out.put (.slice none 0 0);obtain ⟨y,hy⟩:=HA_x11.out;have HOR:=hide (show OwF (x11.setCell ⟨w.heap.size+1,0,none⟩ (.slice none 0 0)) w.heap.size (.slice none 0 0) _ from OwF.nil _ _);have HBR:=hide (HB_x11.out.grown hg HB_x11.out.size (by intro k hk;cases hk;omega));clear hy hg;rw [hx11] at hc hf;go_wp2
   try rw [←hx11]
   obtain ⟨w9,hw9⟩:∃w9,w9=x11.setCell ⟨w.heap.size+1,0,none⟩ (.slice none 0 0):=⟨_,rfl⟩;rw [←hw9] at z0 HOR HBR ⊢
   try simp only [Exit.inBlock,Exit.then]
   refine bodyPost_ret (v:=.tuple #[.agg #[.slice none 0 0],.int .i64 40]) ?_ rfl ⟨.slice none 0 0,by rw [HE.out],by rw [HL.out];exact HOR.out,HBR.out⟩
   clear hw9 hc hf hx11
   simp [results,Tryz.results124,go_sem, *]
  ·by_cases g5:40<p
   ·have g4':(40:Int)<p:=by omega
    have hc:=HA_x11.out.cell;have hf:=HA_x11.out.fz;obtain ⟨z0,hg, -⟩:=HA_x11.out.put (.slice none 0 0);obtain ⟨y,hy⟩:=HA_x11.out;have HOR:=hide (show OwF (x11.setCell ⟨w.heap.size+1,0,none⟩ (.slice none 0 0)) w.heap.size (.slice none 0 0) _ from OwF.nil _ _);have HBR:=hide (HB_x11.out.grown hg HB_x11.out.size (by intro k hk;cases hk;omega));clear hy hg;rw [hx11] at hc hf;go_wp2
    try rw [←hx11]
    obtain ⟨w9,hw9⟩:∃w9,w9=x11.setCell ⟨w.heap.size+1,0,none⟩ (.slice none 0 0):=⟨_,rfl⟩;rw [←hw9] at z0 HOR HBR ⊢
    try simp only [Exit.inBlock,Exit.then]
    refine bodyPost_ret (v:=.tuple #[.agg #[.slice none 0 0],.int .i64 40]) ?_ rfl ⟨.slice none 0 0,by rw [HE.out],by rw [HL.out];exact HOR.out,HBR.out⟩
    clear hw9 hc hf hx11
    simp [results,Tryz.results124,go_sem, *]
   ·have g4':decide ((40:Int)<p)=false:=by simpa using (by omega:¬(40:Int)<p)
    have g5':(64:Int)<m:=by omega
    have hc:=HA_x11.out.cell;have hf:=HA_x11.out.fz;obtain ⟨z0,hg, -⟩:=HA_x11.out.put (.slice none 0 0);obtain ⟨y,hy⟩:=HA_x11.out;have HOR:=hide (show OwF (x11.setCell ⟨w.heap.size+1,0,none⟩ (.slice none 0 0)) w.heap.size (.slice none 0 0) _ from OwF.nil _ _);have HBR:=hide (HB_x11.out.grown hg HB_x11.out.size (by intro k hk;cases hk;omega));clear hy hg;rw [hx11] at hc hf;go_wp2
    try rw [←hx11]
    obtain ⟨w9,hw9⟩:∃w9,w9=x11.setCell ⟨w.heap.size+1,0,none⟩ (.slice none 0 0):=⟨_,rfl⟩;rw [←hw9] at z0 HOR HBR ⊢
    try simp only [Exit.inBlock,Exit.then]
    refine bodyPost_ret (v:=.tuple #[.agg #[.slice none 0 0],.int .i64 40]) ?_ rfl ⟨.slice none 0 0,by rw [HE.out],by rw [HL.out];exact HOR.out,HBR.out⟩
    clear hw9 hc hf hx11
    simp [results,Tryz.results124,go_sem, *]
 have g4':decide ((40:Int)<p)=false:=by simpa using (by omega:¬(40:Int)<p)
 have g5':decide ((64:Int)<m)=false:=by simpa using (by omega:¬(64:Int)<m)
 have HE2:=hide (show qao fs s l B=fitE gs by rw [HE1.out,if_neg (by have h1:=HP.out;have h2:=HLI.out;have h3:=HM.out;omega)]);have HCL:=hide (show qao fs s l B=0→qbd fs s l B=insF fs (s,l) from fun h=>by unfold qbd;rw [if_pos h]);have hby:=qg3 ax p cx gs x11 HG_x11.out.rd HP.out (HOK.out (by have:=HM.out;omega));have r0:=HO_x11.out.cell;rw [hx11] at r0
 go_wp2_with fail
 try rw [←hx11]
 refine (hby).mono ?_
 rintro e w12 ⟨v12,rfl,ho12,hb12⟩;clear r0 hx11;have qj5:=hide (HA_x11.out.carry hb12);have HG_w12:=hide (HG_x11.out.carry hb12);have HO_w12:=hide (HO_x11.out.carry hb12);have qoj:=bT HB_x11 hb12;clear HA_x11 HG_x11 HO_x11 HB_x11 hb12;clear hby;obtain ⟨y5,hy5⟩:∃p,p=(bytF gs).length:=⟨_,rfl⟩
 obtain ⟨ay,cy,hyf⟩:∃a c,v12=.slice a y5 c:=by rw [hy5];exact qqe ho12
 subst hyf;have HY:=hide hy5;clear hy5 ho12
 by_cases g6:2048<y5
 ·have g6':(2048:Int)<y5:=by omega
  have HE:=hide (show qao fs s l B=40 by rw [HE2.out];unfold fitE;rw [if_neg (by have:=HY.out;omega)]);have HL:=hide (show qbd fs s l B=[] by unfold qbd;rw [if_neg (by rw [HE.out];omega)]);have hc:=qj5.out.cell;have hf:=qj5.out.fz;obtain ⟨z0,hg, -⟩:=qj5.out.put (.slice none 0 0);obtain ⟨y,hy⟩:=qj5.out;have HOR:=hide (show OwF (w12.setCell ⟨w.heap.size+1,0,none⟩ (.slice none 0 0)) w.heap.size (.slice none 0 0) _ from OwF.nil _ _);have HBR:=hide (qoj.out.grown hg qoj.out.size (by intro k hk;cases hk;omega));clear hy hg;go_wp2;obtain ⟨w9,hw9⟩:∃w9,w9=w12.setCell ⟨w.heap.size+1,0,none⟩ (.slice none 0 0):=⟨_,rfl⟩;rw [←hw9] at z0 HOR HBR ⊢
  try simp only [Exit.inBlock,Exit.then]
  refine bodyPost_ret (v:=.tuple #[.agg #[.slice none 0 0],.int .i64 40]) ?_ rfl ⟨.slice none 0 0,by rw [HE.out],by rw [HL.out];exact HOR.out,HBR.out⟩
  clear hw9 hc hf
  simp [results,Tryz.results124,go_sem, *]
 have g6':decide ((2048:Int)<y5)=false:=by simpa using (by omega:¬(2048:Int)<y5)
 have HE:=hide (show qao fs s l B=0 by rw [HE2.out];unfold fitE;rw [if_pos (by have:=HY.out;omega)]);have HL:=hide (show qbd fs s l B=gs from (HCL.out HE.out).trans HGS.out);have d9:=HO_w12.out.cell;have hc:=qj5.out.cell;have hf:=qj5.out.fz;obtain ⟨z0,hg, -⟩:=qj5.out.put (.slice ax p cx);obtain ⟨y,hy⟩:=qj5.out;have HOR:=hide (show OwF (w12.setCell ⟨w.heap.size+1,0,none⟩ (.slice ax p cx)) w.heap.size (.slice ax p cx) _ from (HG_w12.out).keptS hg hy (by decide) (by decide));have HBR:=hide (qoj.out.grown hg qoj.out.size (by intro k hk;cases hk;omega));clear hy hg;go_wp2;obtain ⟨w9,hw9⟩:∃w9,w9=w12.setCell ⟨w.heap.size+1,0,none⟩ (.slice ax p cx):=⟨_,rfl⟩;rw [←hw9] at z0 HOR HBR ⊢
 try simp only [Exit.inBlock,Exit.then]
 refine bodyPost_ret (v:=.tuple #[.agg #[.slice ax p cx],.int .i64 0]) ?_ rfl ⟨.slice ax p cx,by rw [HE.out],by rw [HL.out];exact HOR.out,HBR.out⟩
 clear hw9 hc hf
 simp [results,Tryz.results124,go_sem, *]
end Go.Proofs.YtmeaiocohalphaaGreatDoor

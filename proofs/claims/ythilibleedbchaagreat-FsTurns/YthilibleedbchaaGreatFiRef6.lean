/-
  Of the document's side of layer 5: Check, asked.
-/
import Derived.Test.YthilibleedbchaaGreatFiRef5
set_option maxHeartbeats 4000000
set_option maxRecDepth 100000
namespace Go.Proofs.YthilibleedbchaaGreat
open Go.RowKit
set_option linter.all false
theorem qob {w:World} {base:Nat} {v:Value} {l:List UInt8} (h:OwBy w base v l):∃a c,v=.slice a l.length c:=by
 rcases h.2 with ⟨rfl,hn⟩ | ⟨g,cap,cur,rfl,_⟩
 ·exact ⟨none,0,by rw [hn]⟩
 ·exact ⟨_,_,rfl⟩
theorem qh6 {fs:List Fl} {B:Int} (hb:blkP B) (h:¬mayF fs B):chkF fs B=8:=by unfold chkF;rw [if_neg (by simpa using hb),if_neg h]
theorem qfs (a:Option Addr) (n c:Nat) (fs:List Fl) (B:Int) (w:World) (hrd:RdF w (.slice a n c) fs) (hn:n=fs.length) (hwf:wfFs fs):
  Calls Tryz.prog 65 #[.agg #[.slice a n c],.int .i64 B] w fun e w'=>e=.returned (.int .i64 (chkF fs B))∧Below w.heap.size w w':=by
 have hm:n≤maxLen:=hn ▸ hrd.len_le;unfold maxLen at hm;have HR:=hide hrd;have HN:=hide hn;have HW:=hide hwf;obtain ⟨W0,hW0⟩:∃W0,W0=w.alloc (.cells #[.slice a n c] 30):=⟨_,rfl⟩
 have hb0:Below w.heap.size w W0:=by rw [hW0];exact (Below.refl _ _).alloc (Nat.le_refl _) _
 have HD0:=hide (show DirAt W0 w.heap.size (.slice a n c) by rw [hW0];exact DirAt.new w _);have HB0:=hide hb0;have hbl:=qjb B W0;clear hrd hn hwf hb0
 by_cases g1:blkP B
 case neg=>
  have HE:=hide (show chkF fs B=2 by unfold chkF;rw [if_pos g1]);rw [decide_eq_false g1] at hbl;clear g1
  go_enter Tryz.func65,Tryz.ntmps65
  go_wp2_with fail
  rw [←hW0];clear hW0
  refine hbl.mono ?_
  rintro e w1 ⟨rfl,b1⟩;clear hbl;go_wp2;go_ret;exact ⟨by rw [HE.out];rfl,HB0.out.trans (b1.mono HB0.out.size)⟩
 rw [decide_eq_true g1] at hbl;have HBK:=hide g1;clear g1
 go_enter Tryz.func65,Tryz.ntmps65
 go_wp2_with fail
 rw [←hW0];clear hW0
 refine hbl.mono ?_
 rintro e w1 ⟨rfl,b1⟩;clear hbl;have HB1:=bT HB0 b1;have HD1:=hide (HD0.out.carry b1);have d1:=HD1.out.cell;clear b1 HB0 HD0
 by_cases g2:40<n
 ·have g2':(40:Int)<n:=by omega
  have HE:=hide (show chkF fs B=8 from qh6 HBK.out (fun h=>by have:=h.1;have:=HN.out;omega));go_wp2;go_ret;exact ⟨by rw [HE.out];rfl,HB1.out⟩
 have g2':decide ((40:Int)<n)=false:=by simpa using (by omega:¬(40:Int)<n)
 go_wp2
 go_loopw [5] (fun i wr=>∃k:Nat,k≤n∧i=.int .i64 k∧Hid (qe1 (fs.take k))∧Below w1.heap.size w1 wr) (fun i _=>n - (intOf i).toNat)
 case atStart=>exact ⟨0,Nat.zero_le _,rfl,hide (by simpa using qpe),Below.refl _ _⟩
 case round=>
  obtain ⟨k,hk,rfl,heach,hbel⟩:=hrel;have hbw:Below w.heap.size w wr:=HB1.out.trans (hbel.mono HB1.out.size);have hda:=(HD1.out.carry hbel).cell;clear d1
  by_cases hlt:k<n
  ·have hlt':(k:Int)<n:=by omega
   have hkl:k<fs.length:=by have:=HN.out;omega
   have hw1:wrap64 ((k:Int)+1)=(k:Int)+1:=qhg (by omega);have HNX:=hide (fun h1 h2=>qiy hkl heach.out h1 h2);have HB8:=hide (fun (h:oneF fs[k]=false)=>qh6 HBK.out (fun h':mayF fs B=>qgx hkl h h'.2.1));obtain ⟨b,off,a2,c2,rfl,q0,q1,q2⟩:=HR.out.atB hbw k hkl;clear q2;obtain ⟨w2,hw2⟩:∃w2,w2=wr.alloc (.cells #[.string (bs (fs[k]).1),.slice a2 (fs[k]).2.length c2] 75):=⟨_,rfl⟩
   have hb2:Below wr.heap.size wr w2:=by rw [hw2];exact (Below.refl _ _).alloc (Nat.le_refl _) _
   have hblk:FileAt w2 wr.heap.size (bs (fs[k]).1) (.slice a2 (fs[k]).2.length c2):=by rw [hw2];exact FileAt.new wr _ _
   have hbel2:Below w1.heap.size w1 w2:=hbel.trans (hb2.mono hbel.size);have hbw2:Below w.heap.size w w2:=hbw.trans (hb2.mono hbw.size);have hda2:=(HD1.out.carry hbel2).cell;have r0:=hblk.cell0;have r1:=hblk.cell1
   have HPV:=hide (show ∀j,(hj:j+1=k)→∃s,w2.cell? ⟨b,off+j*2,none⟩=some (.string (bs s))∧s=(fs[j]).1 from fun j hj=>by
    obtain ⟨b',off',a',c',e',z0, -⟩:=HR.out.atB hbw2 j (by omega);cases e'
    exact ⟨_,z0,rfl⟩)
   have HBP:=hide (show ∀j,(hj:j+1=k)→ltN (fs[j]).1 (fs[k]).1=false→chkF fs B=8 from fun j hj h=>by
    subst hj
    exact qh6 HBK.out (fun h':mayF fs B=>qme hkl h h'.2.1))
   obtain ⟨F,hF⟩:∃F,F=wr.heap.size:=⟨_,rfl⟩;rw [←hF] at r0 r1;obtain ⟨f,hf⟩:∃f,f=fs[k]:=⟨_,rfl⟩;rw [←hf] at q0 q1 r0 r1 HNX HB8 HBP hw2;clear hf hblk;obtain ⟨s,l⟩:=f
   simp only at q0 q1 r0 r1 HNX HBP hw2
   obtain ⟨p,hp⟩:∃p,p=l.length:=⟨_,rfl⟩;rw [←hp] at q1 r1 hw2;have HO:=hide (show oneF (s,l)=(qbv s && decide (1≤p) && decide (p≤64)) by unfold oneF;rw [hp]);clear hp
   cases hnm:qbv s with
   | false=>
    have HE:=hide (HB8.out (by rw [HO.out,hnm];simp))
    have hcn:∀wx,Calls Tryz.prog 107 #[.string (bs s)] wx fun e w'=>e=.returned (.bool false)∧w'=wx:=fun wx=>by have:=qmn s wx;rw [hnm] at this;exact this
    clear hnm HNX HB8 HPV HBP;go_wp2;rw [←hw2]
    try rw [←hF]
    clear hw2 hF
    go_quiet (exact Calls.quiet_of_same (hcn _))
    go_wp2;go_ret;exact ⟨by rw [HE.out];rfl,below_drewN hbw2 _⟩
   | true=>
    have hcn:∀wx,Calls Tryz.prog 107 #[.string (bs s)] wx fun e w'=>e=.returned (.bool true)∧w'=wx:=fun wx=>by have:=qmn s wx;rw [hnm] at this;exact this
    by_cases g3:p<1∨64<p
    ·have hone:oneF (s,l)=false:=by
      rw [HO.out]
      have:¬(1≤p∧p≤64):=by omega
      simp
      intro _ h;omega
     have HE:=hide (HB8.out hone);clear hone;clear hnm HNX HB8
     by_cases hk0:k=0
     ·subst hk0
      simp only [Nat.zero_mul,Nat.add_zero] at q0 q1
      clear HPV HBP
      rcases g3 with g3 | g3
      ·have g3':(p:Int)<1:=by omega
       go_wp2;rw [←hw2];rw [←hF];clear hw2 hF
       go_quiet (exact Calls.quiet_of_same (hcn _))
       go_wp2;go_ret;exact ⟨by rw [HE.out];rfl,below_drewN hbw2 _⟩
      ·have g3':decide ((p:Int)<1)=false:=by simpa using (by omega:¬(p:Int)<1)
       have g4':(64:Int)<p:=by omega
       go_wp2;rw [←hw2];rw [←hF];clear hw2 hF
       go_quiet (exact Calls.quiet_of_same (hcn _))
       go_wp2;go_ret;exact ⟨by rw [HE.out];rfl,below_drewN hbw2 _⟩
     ·obtain ⟨j,rfl⟩:∃j,k=j+1:=⟨k - 1,by omega⟩
      obtain ⟨sp,hsp, -⟩:=HPV.out j rfl;clear HPV HBP
      have hk1:(0:Int)<((j+1:Nat):Int):=by omega
      have hwi:IntKind.i64.wrap (((j+1:Nat):Int) - 1)=(j:Int):=by rw [IntKind.wrap_i64];omega
      have hj1:((j:Int)+1 - 1)=j:=by omega
      have hji:(j:Int)<n:=by omega
      have hbo:=quw sp s;obtain ⟨lt,hlt2⟩:∃lt,lt=ltN sp s:=⟨_,rfl⟩;rw [←hlt2] at hbo;clear hlt2
      cases lt with
      | false=>
       go_wp2;rw [←hw2];rw [←hF];clear hw2 hF
       go_quiet (exact Calls.quiet_of_same (hcn _))
       go_wp2;go_ret;exact ⟨by rw [HE.out];rfl,below_drewN hbw2 _⟩
      | true=>
       rcases g3 with g3 | g3
       ·have g3':(p:Int)<1:=by omega
        go_wp2;rw [←hw2];rw [←hF];clear hw2 hF
        go_quiet (exact Calls.quiet_of_same (hcn _))
        go_wp2;go_ret;exact ⟨by rw [HE.out];rfl,below_drewN hbw2 _⟩
       ·have g3':decide ((p:Int)<1)=false:=by simpa using (by omega:¬(p:Int)<1)
        have g4':(64:Int)<p:=by omega
        go_wp2;rw [←hw2];rw [←hF];clear hw2 hF
        go_quiet (exact Calls.quiet_of_same (hcn _))
        go_wp2;go_ret;exact ⟨by rw [HE.out];rfl,below_drewN hbw2 _⟩
    ·have HON:=hide (show oneF (s,l)=true by rw [HO.out,hnm];simp;omega)
     have g3':decide ((p:Int)<1)=false:=by simpa using (by omega:¬(p:Int)<1)
     have g4':decide ((64:Int)<p)=false:=by simpa using (by omega:¬(64:Int)<p)
     clear hnm HB8 g3
     by_cases hk0:k=0
     ·subst hk0
      simp only [Nat.zero_mul,Nat.add_zero] at q0 q1
      have HE:=hide (HNX.out HON.out (fun j hj=>by omega));clear HPV HBP HNX;go_wp2;rw [←hw2];rw [←hF];clear hw2 hF
      go_quiet (exact Calls.quiet_of_same (hcn _))
      go_wp2;go_roundw
      case rel=>exact ⟨0+1,by omega,rfl,HE,below_drewN hbel2 _⟩
      case measure=>simp only [intOf];omega
     ·obtain ⟨j,rfl⟩:∃j,k=j+1:=⟨k - 1,by omega⟩
      obtain ⟨sp,hsp,hspe⟩:=HPV.out j rfl;have HSP:=hide hspe;clear HPV hspe
      have hk1:(0:Int)<((j+1:Nat):Int):=by omega
      have hwi:IntKind.i64.wrap (((j+1:Nat):Int) - 1)=(j:Int):=by rw [IntKind.wrap_i64];omega
      have hj1:((j:Int)+1 - 1)=j:=by omega
      have hji:(j:Int)<n:=by omega
      have hbo:=quw sp s
      cases hlq:ltN sp s with
      | false=>
       rw [hlq] at hbo;have HE:=hide (HBP.out j rfl (by rw [←HSP.out];exact hlq));clear HBP HNX HSP hlq;go_wp2;rw [←hw2];rw [←hF];clear hw2 hF
       go_quiet (exact Calls.quiet_of_same (hcn _))
       go_wp2;go_ret;exact ⟨by rw [HE.out];rfl,below_drewN hbw2 _⟩
      | true=>
       rw [hlq] at hbo
       have HE:=hide (HNX.out HON.out (fun i hi=>by
        obtain rfl:i=j:=by omega
        rw [←HSP.out];exact hlq))
       clear HBP HNX HSP hlq;go_wp2;rw [←hw2];rw [←hF];clear hw2 hF
       go_quiet (exact Calls.quiet_of_same (hcn _))
       go_wp2;go_roundw
       case rel=>exact ⟨j+1+1,by omega,rfl,HE,below_drewN hbel2 _⟩
       case measure=>simp only [intOf];omega
  ·have hd:decide ((k:Int)<n)=false:=by simpa using (by omega:¬(k:Int)<n)
   have e:k=fs.length:=by have:=HN.out;omega
   rw [e,List.take_length] at heach;clear e;have HLN:=hide (show fs.length≤40 by have:=HN.out;omega);have HUL:=hide (qes heach.out HLN.out);have HDr:=hide (HD1.out.carry hbel);have HBr:=hide hbw;clear hbel hbw
   go_wp2_with fail
   refine (qks a n c fs wr (HR.out.carry HBr.out) HN.out (by omega) (by have:=HUL.out;omega)).mono ?_
   rintro e w3 ⟨v3,rfl,o3,b3⟩;have HB3:=bT HBr b3;have HD3:=hide (HDr.out.carry b3);have d3:=HD3.out.cell;clear b3 hda;obtain ⟨m,hm3⟩:∃m,m=(qas fs).length:=⟨_,rfl⟩
   obtain ⟨a3,c3,hf3⟩:∃a c,v3=.slice a m c:=by rw [hm3];exact o3.form
   subst hf3;have hwi:=qkt a3 m c3 (qas fs) B w3 o3.rd hm3 (qf9 HW.out);clear hm3 o3
   by_cases g3:extP (qas fs) B
   ·rw [decide_eq_true g3] at hwi
    have HX:=hide g3;clear g3
    go_wp2_with fail
    refine hwi.mono ?_
    rintro e w4 ⟨rfl,b4⟩;have HB4:=bT HB3 b4;have d4:=(HD3.out.carry b4).cell;clear b4 d3 hwi
    go_wp2_with fail
    refine (qel a n c fs w4 (HR.out.carry HB4.out) HN.out (qe7 HLN.out heach.out HX.out)).mono ?_
    rintro e w5 ⟨v5,rfl,o5,b5⟩;have HB5:=bT HB4 b5;clear b5 d4;obtain ⟨m5,hm5⟩:∃m,m=(bytF fs).length:=⟨_,rfl⟩
    obtain ⟨a5,c5,hf5⟩:∃a c,v5=.slice a m5 c:=by rw [hm5];exact qob o5
    subst hf5;clear o5
    by_cases g4:2048<m5
    ·have HE:=hide (show chkF fs B=8 from qh6 HBK.out (fun h=>by have:=h.2.2.2;omega))
     have g4':(2048:Int)<m5:=by omega
     clear hm5;go_wp2;go_ret;exact ⟨by rw [HE.out];rfl,HB5.out⟩
    ·have HE:=hide (show chkF fs B=0 from qnv HBK.out ⟨HLN.out,heach.out,HX.out,by omega⟩)
     have g4':decide ((2048:Int)<m5)=false:=by simpa using (by omega:¬(2048:Int)<m5)
     clear hm5;go_wp2;go_ret;exact ⟨by rw [HE.out];rfl,HB5.out⟩
   ·rw [decide_eq_false g3] at hwi
    have HE:=hide (show chkF fs B=8 from qh6 HBK.out (fun h=>g3 h.2.2.1));clear g3
    go_wp2_with fail
    refine hwi.mono ?_
    rintro e w4 ⟨rfl,b4⟩;have HB4:=bT HB3 b4;clear b4 d3 hwi;go_wp2;go_ret;exact ⟨by rw [HE.out];rfl,HB4.out⟩
def askE (fs:List Fl) (s:List UInt8) (B:Int):Int:=if chkF fs B≠0 then chkF fs B else if qbv s=false then 50 else 0
theorem qg1 (a:Option Addr) (n c:Nat) (fs:List Fl) (s:List UInt8) (B:Int) (w:World) (hrd:RdF w (.slice a n c) fs) (hn:n=fs.length) (hwf:wfFs fs):
  Calls Tryz.prog 92 #[.agg #[.slice a n c],.string (bs s),.int .i64 B] w fun e w'=>e=.returned (.int .i64 (askE fs s B))∧Below w.heap.size w w':=by
 obtain ⟨W0,hW0⟩:∃W0,W0=w.alloc (.cells #[.slice a n c] 30):=⟨_,rfl⟩
 have hb0:Below w.heap.size w W0:=by rw [hW0];exact (Below.refl _ _).alloc (Nat.le_refl _) _
 have HB0:=hide hb0;have hck:=qfs a n c fs B W0 (hrd.carry hb0) hn hwf;clear hrd hn hwf hb0
 by_cases g1:chkF fs B=0
 case neg=>
  have HE:=hide (show askE fs s B=chkF fs B by unfold askE;rw [if_pos g1]);obtain ⟨z,hz⟩:∃z,z=chkF fs B:=⟨_,rfl⟩;rw [←hz] at hck g1 HE
  have g1':(z==0)=false:=by simpa using g1
  clear hz
  go_enter Tryz.func92,Tryz.ntmps92
  go_wp2_with fail
  rw [←hW0];clear hW0
  refine hck.mono ?_
  rintro e w1 ⟨rfl,b1⟩;clear hck;go_wp2;go_ret;exact ⟨by rw [HE.out];rfl,HB0.out.trans (b1.mono HB0.out.size)⟩
 rw [g1] at hck;have HC:=hide g1;clear g1
 go_enter Tryz.func92,Tryz.ntmps92
 go_wp2_with fail
 rw [←hW0];clear hW0
 refine hck.mono ?_
 rintro e w1 ⟨rfl,b1⟩;have HB1:=bT HB0 b1;clear hck b1;have hnm:=qpn s w1
 cases hq:qbv s with
 | false=>
  have HE:=hide (show askE fs s B=50 by unfold askE;rw [if_neg (by simp [HC.out]),if_pos hq]);rw [hq] at hnm;clear hq
  go_wp2_with fail
  refine hnm.mono ?_
  rintro e w2 ⟨rfl,b2⟩;clear hnm;go_wp2;go_ret;exact ⟨by rw [HE.out];rfl,HB1.out.trans (b2.mono HB1.out.size)⟩
 | true=>
  have HE:=hide (show askE fs s B=0 by unfold askE;rw [if_neg (by simp [HC.out]),if_neg (by simp [hq])]);rw [hq] at hnm;clear hq
  go_wp2_with fail
  refine hnm.mono ?_
  rintro e w2 ⟨rfl,b2⟩;clear hnm;go_wp2;go_ret;exact ⟨by rw [HE.out];rfl,HB1.out.trans (b2.mono HB1.out.size)⟩
end Go.Proofs.YthilibleedbchaaGreat

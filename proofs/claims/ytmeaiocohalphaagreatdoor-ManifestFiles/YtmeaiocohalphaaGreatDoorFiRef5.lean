/-
  Of the document's side of layer 5: with.
-/
import Derived.Test.YtmeaiocohalphaaGreatDoorFiRef4
set_option maxHeartbeats 8000000
set_option maxRecDepth 100000
namespace Go.Proofs.YtmeaiocohalphaaGreatDoor
open Go.RowKit
set_option linter.all false
def wthF:List Fl→Fl→List Fl
 | [],f=>[f]
 | g::r,f=>if ltN f.1 g.1=true then f::g::r else g::wthF r f
theorem qxb {f:Fl}:∀fs:List Fl,(∀g∈fs,ltN f.1 g.1=false)→wthF fs f=fs++[f]
 | [],_=>rfl
 | g::r,h=>by
  have h1:=h g (List.mem_cons_self ..);rw [wthF,if_neg (by simp [h1]),qxb r (fun x hx=>h x (List.mem_cons_of_mem _ hx))];rfl
theorem qsn {f:Fl}:∀(fs:List Fl) (k:Nat) (hk:k<fs.length),(∀g∈fs.take k,ltN f.1 g.1=false)→ltN f.1 (fs[k]).1=true→wthF fs f=fs.take k++f::fs.drop k
 | g::r,0,_,_,h=>by
  rw [wthF,if_pos (by simpa using h)];rfl
 | g::r,k+1,hk,h1,h2=>by
  have h3:=h1 g (by simp);rw [wthF,if_neg (by simp [h3]),qsn r k (by simpa using hk) (fun x hx=>h1 x (by simp [hx])) (by simpa using h2)];rfl
theorem qqd {f:Fl}:∀{fs:List Fl},qcg fs→isF fs f.1=false→wthF fs f=insF fs f
 | [],_,_=>rfl
 | g::r,hr,hi=>by
  have hr':qcg r:=(List.pairwise_cons.1 hr).2;have hf:=(List.pairwise_cons.1 hr).1;have hne:=qaai hi;have hi':isF r f.1=false:=qaj1 (List.sublist_cons_self g r) hi
  by_cases h:ltN f.1 g.1=true
  ·rw [wthF,if_pos h]
   have z:posF (g::r) f.1=0:=by
    unfold posF;rw [List.countP_eq_zero];intro x hx
    rcases List.mem_cons.1 hx with rfl | hx
    ·simp [qh1 h]
    ·simp [qh1 (qec _ _ _ h (hf x hx))]
   unfold insF;rw [z];rfl
  ·have h':ltN f.1 g.1=false:=by simpa using h
   have hl:ltN g.1 f.1=true:=qf0 _ _ h' (fun e=>hne g (List.mem_cons_self ..) e.symm);rw [wthF,if_neg h,qqd hr' hi']
   have e:posF (g::r) f.1=posF r f.1+1:=by unfold posF;rw [List.countP_cons];simp [hl]
   unfold insF;rw [e];rfl
theorem ql9 {α:Type} (l:List α) (k:Nat) (h:k<l.length):l.drop k=l[k]::l.drop (k+1):=List.drop_eq_getElem_cons h
theorem gt_of (s t:List UInt8):(!Op.bytesLess (bs s).toList (bs t).toList && !((bs s).toList==(bs t).toList))=ltN t s:=by
 rw [qyz,qep]
 cases h:ltN t s with
 | true=>
  have h1:=qh1 h;have h2:=qv4 h
  simp [h1,Ne.symm h2]
 | false=>
  by_cases e:t=s
  ·simp [e]
  ·have:=qf0 _ _ h e
   simp [this]
def Twf (B q b r x:Nat) (dv:Value) (s:ByteArray) (y v:Value) (w:World):Prop:=Twn B q r x dv v w∧(b<B∧b≠x)∧FileAt w b s y
theorem Twf.low {B q b r x:Nat} {dv y v:Value} {s:ByteArray} {w w':World} (h:Twf B q b r x dv s y v w) (hb:Below B w w'):Twf B q b r x dv s y v w':=⟨h.1.low hb,h.2.1,(hb.block b h.2.1.1).trans h.2.2⟩
theorem Twf.carry {B q b r x:Nat} {dv y v:Value} {s:ByteArray} {w w':World} (h:Twf B q b r x dv s y v w) (hb:Below w.heap.size w w'):Twf B q b r x dv s y v w':=⟨Twn.keeps _ _ _ _ _ _ _ _ h.1 hb,h.2.1,h.2.2.carry hb⟩
theorem Twf.keeps (B q b r x:Nat) (dv:Value) (s:ByteArray) (y v:Value):Keeps (Twf B q b r x dv s y v):=fun _ _ h hb=>h.carry hb
theorem Twf.put {B q b r x:Nat} {dv y v:Value} {s:ByteArray} {w:World} (h:Twf B q b r x dv s y v w) (u:Value):Twf B q b r x dv s y u (w.setCell ⟨x,0,none⟩ u):=⟨h.1.put u,h.2.1,(heap_setCell_other w ⟨x,0,none⟩ b u h.2.1.2).trans h.2.2⟩
theorem qagh {B q b r x:Nat} {dv y v u:Value} {s:ByteArray} {w0 w:World} {fs:List Fl} (hB:w0.heap.size≤B) (hw:Below w0.heap.size w0 w) (hx:w0.heap.size≤x) (h:Twf B q b r x dv s y v w) (ho:OwF w B u fs):
  Twf B q b r x dv s y u (w.setCell ⟨x,0,none⟩ u)∧OwF (w.setCell ⟨x,0,none⟩ u) B u fs∧Below w0.heap.size w0 (w.setCell ⟨x,0,none⟩ u):=by
 obtain ⟨h1,h2,h3⟩:=qqc hB hw hx h.1 ho;exact ⟨h.put u,h2,h3⟩
theorem qik {B q b r x:Nat} {dv v:Value} {s:ByteArray} {y u:Value} {w0 w1 w9:World} {fs:List Fl} (hB:w0.heap.size≤B) (hbel:Below w0.heap.size w0 w1) (hBs:B≤w1.heap.size) (hb:Below B w1 w9) (hx:w0.heap.size≤x) (h:Twf B q b r x dv s y v w9) (ho:OwF w9 B u fs):
  ∃(vv:Value) (wn:World),vv=u∧wn=w9.setCell ⟨x,0,none⟩ vv∧Hid (Twf B q b r x dv s y vv wn)∧Hid (OwF wn B vv fs)∧Below w0.heap.size w0 wn∧B≤wn.heap.size:=by
 obtain ⟨t1,t2,t3⟩:=qagh hB (hbel.trans (hb.mono hB)) hx h ho;exact ⟨_,_,rfl,rfl,hide t1,hide t2,t3,Nat.le_trans (Nat.le_trans hBs hb.size) (qai _ _ _).size⟩
theorem qso (a:Option Addr) (n c:Nat) (fs:List Fl) (s0:List UInt8) (a0:Option Addr) (n0 c0:Nat) (l0:List Ex) (w:World) (hrd:RdF w (.slice a n c) fs) (hn:n=fs.length) (hnl:n≤1000) (hle:∀f∈fs,f.2.length≤1000000) (h0r:RdE w (.slice a0 n0 c0) l0) (h0n:n0=l0.length) (h0l:l0.length≤1000000):
  Calls Tryz.prog 197 #[.agg #[.slice a n c],.agg #[.string (bs s0),.slice a0 n0 c0]] w fun e w'=>∃v,e=.returned (.agg #[v])∧OwF w' w.heap.size v (wthF fs (s0,l0))∧Below w.heap.size w w':=by
 obtain ⟨W0,hW0⟩:∃W0,W0=(((w.alloc (.cells #[.slice a n c] 31)).alloc (.cells #[.string (bs s0),.slice a0 n0 c0] 98)).alloc (.cells #[.slice none 0 0] 31)).alloc (.cells #[.slice none 0 0] 31):=⟨_,rfl⟩
 have hb0:Below w.heap.size w W0:=by rw [hW0];exact ((((Below.refl _ _).alloc (Nat.le_refl _) _).alloc (by simp) _).alloc (by simp;omega) _).alloc (by simp;omega) _
 have HR:=hide hrd;have HN:=hide hn;have HLE:=hide hle;have H0R:=hide h0r;have H0N:=hide h0n;have H0L:=hide h0l;obtain ⟨Q,hQ⟩:∃Q,Q=w.heap.size:=⟨_,rfl⟩;obtain ⟨Fb,hFb⟩:∃F,F=w.heap.size+1:=⟨_,rfl⟩;obtain ⟨Rr,hRr⟩:∃R,R=w.heap.size+1+1:=⟨_,rfl⟩;obtain ⟨X,hX⟩:∃X,X=w.heap.size+1+1+1:=⟨_,rfl⟩;obtain ⟨B,hB⟩:∃B,B=w.heap.size+4:=⟨_,rfl⟩
 have HT0:=hide (show Twf B Q Fb Rr X (.slice a n c) (bs s0) (.slice a0 n0 c0) (.slice none 0 0) W0 by
  rw [hW0,hB,hQ,hRr,hX,hFb];refine ⟨⟨⟨by omega,by omega,by omega,by omega,by omega⟩, ?_, ?_, ?_⟩,⟨by omega,by omega⟩, ?_⟩
  ·exact (((DirAt.new w (.slice a n c)).carry ((Below.refl _ _).alloc (Nat.le_refl _) _)).carry ((Below.refl _ _).alloc (Nat.le_refl _) _)).carry ((Below.refl _ _).alloc (Nat.le_refl _) _)
  ·have:=(BlkD.new ((w.alloc (.cells #[.slice a n c] 31)).alloc (.cells #[.string (bs s0),.slice a0 n0 c0] 98)) (.slice none 0 0)).carry ((Below.refl _ _).alloc (Nat.le_refl _) (.cells #[.slice none 0 0] 31))
   simpa using this
  ·have:=DirAt.new (((w.alloc (.cells #[.slice a n c] 31)).alloc (.cells #[.string (bs s0),.slice a0 n0 c0] 98)).alloc (.cells #[.slice none 0 0] 31)) (.slice none 0 0)
   simpa using this
  ·have:=((FileAt.new (w.alloc (.cells #[.slice a n c] 31)) (bs s0) (.slice a0 n0 c0)).carry ((Below.refl _ _).alloc (Nat.le_refl _) (.cells #[.slice none 0 0] 31))).carry ((Below.refl _ _).alloc (Nat.le_refl _) (.cells #[.slice none 0 0] 31))
   simpa using this)
 have HBB:=hide (show w.heap.size≤B by omega);have HXB:=hide (show w.heap.size≤X by omega);have HRB:=hide (show w.heap.size≤Rr by omega);have HSZ:=hide (show B≤W0.heap.size by rw [hW0,hB];simp);have HB0:=hide hb0;clear hrd hn hle hb0 hB h0r h0n h0l
 go_enter Tryz.func197,Tryz.ntmps197
 go_wp2;rw [←hW0];clear hW0
 first | rw [←hX] | rw [show w.heap.size+3=X from hX.symm]
 first | rw [←hRr] | rw [show w.heap.size+2=Rr from hRr.symm]
 rw [←hFb];rw [←hQ];clear hQ hX hRr hFb
 go_loopw [6,7] (fun pb i wr=>∃pt:Bool,∃k:Nat,k≤n∧pb=.bool pt∧i=.int .i64 k∧∃v L,Hid (Twf B Q Fb Rr X (.slice a n c) (bs s0) (.slice a0 n0 c0) v wr)∧Hid (OwF wr B v L)∧Hid ((pt=false∧L=fs.take k∧∀g∈fs.take k,ltN s0 g.1=false)∨(pt=true∧L++fs.drop k=wthF fs (s0,l0)))∧L.length≤k+1∧Below w.heap.size w wr∧B≤wr.heap.size) (fun _ i _=>n - (intOf i).toNat)
 case atStart=>exact ⟨false,0,Nat.zero_le _,rfl,rfl,.slice none 0 0,[],HT0,hide (OwF.nil _ _),hide (.inl ⟨rfl,rfl,by simp⟩),by simp,HB0.out,HSZ.out⟩
 case round=>
  obtain ⟨pt,k,hk,rfl,rfl,vv0,L,htw0,hown0,hinv,hll,hbel0,hBs0⟩:=hrel;obtain ⟨wr0,hwr0⟩:∃w0,w0=wr:=⟨_,rfl⟩;rw [←hwr0] at htw0 hown0 hbel0 hBs0 ⊢;clear hwr0;have hda0:=htw0.out.1.2.1.cell;have HLL:=hide hll;clear hll
  by_cases hlt:k<n
  ·have hlt':(k:Int)<n:=by omega
   have hkl:k<fs.length:=by have:=HN.out;omega
   have HT:=hide (qay fs k hkl);have HDR:=hide (ql9 fs k hkl);have HWH:=hide (fun h1 h2=>qsn (f:=(s0,l0)) fs k hkl h1 h2);have hw1:wrap64 ((k:Int)+1)=(k:Int)+1:=qha (by omega);obtain ⟨b,off,a2,c2,rfl,k0,k1,q2⟩:=HR.out.at k hkl;have HAT:=hide (show ∀wz:World,Below w.heap.size w wz→wz.cell? ⟨b,off+k*2,none⟩=some (.string (bs (fs[k]).1))∧wz.cell? ⟨b,off+k*2+1,none⟩=some (.slice a2 (fs[k]).2.length c2) from fun wz hz=>⟨(hz.cell (World.block_lt_of_cell? w _ k0)).trans k0,(hz.cell (World.block_lt_of_cell? w _ k1)).trans k1⟩);clear k0 k1;have HLk:=hide (HLE.out _ (List.getElem_mem hkl));have HQ2:=hide q2;clear q2;obtain ⟨f,hf⟩:∃f,f=fs[k]:=⟨_,rfl⟩;rw [←hf] at HQ2 HT HLk HAT HDR HWH;clear hf;obtain ⟨s,l⟩:=f
   simp only at HQ2 HLk HAT HWH
   obtain ⟨p,hp⟩:∃p,p=l.length:=⟨_,rfl⟩;rw [←hp] at HQ2 HAT;have HP:=hide hp;clear hp;have q0:=(HAT.out wr0 hbel0).1;have x6:=htw0.out.2.2.cell0
   cases pt with
   | true=>
    have HIN:=hide (show (L++[(s,l)])++fs.drop (k+1)=wthF fs (s0,l0) by
     rcases hinv.out with ⟨h,_⟩ | ⟨_,h⟩
     ·cases h
     ·rw [←h,HDR.out];simp)
    clear hinv;go_wp2
    go_quiet (fail)
    obtain ⟨wr1,hwz⟩:∃wr1,wr1=wr0.drewN nq:=⟨_,rfl⟩
    have hbq:Below wr0.heap.size wr0 wr1:=by rw [hwz];exact below_drewN (Below.refl _ _) _
    rw [←hwz];have htw1:=hide (htw0.out.carry hbq);have hown1:=hide (hown0.out.carry hbq);have hbel1:=hbel0.trans (hbq.mono hbel0.size);have hBs1:=Nat.le_trans hBs0 hbq.size;clear hwz hbq htw0 hown0 hbel0 hBs0 hda0 q0 x6;obtain ⟨vv1,hvz⟩:∃u,u=vv0:=⟨_,rfl⟩;rw [←hvz] at htw1 hown1;clear hvz;have hda1:=htw1.out.1.2.1.cell;obtain ⟨fl,hfl⟩:∃fl,fl=(L).length:=⟨_,rfl⟩
    obtain ⟨av,cv,hav⟩:∃av cv,vv1=.slice av fl cv:=by rw [hfl];exact hown1.out.form
    subst hav;have HFL:=hide hfl;clear hfl;have HTW:=hide (qdj s a2 p c2 l wr1 (HQ2.out.carry hbel1) HP.out HLk.out)
    obtain ⟨S,eS⟩:∃S:World→Prop,S=fun wx=>Twf B Q Fb Rr X (.slice (some ⟨b,off,none⟩) n c) (bs s0) (.slice a0 n0 c0) (.slice av fl cv) wx∧wx.cell? ⟨b,off+k*2,none⟩=some (.string (bs s))∧wx.cell? ⟨b,off+k*2+1,none⟩=some (.slice a2 p c2):=⟨_,rfl⟩
    have hK:Keeps S:=by rw [eS];exact (Twf.keeps _ _ _ _ _ _ _ _ _).and ((qaa _ _).and (qaa _ _))
    obtain ⟨q0,q1⟩:=HAT.out wr1 hbel1
    have hS0:S wr1:=by rw [eS];exact ⟨htw1.out,q0,q1⟩
    have HSB:=hide (show ∀wr2,Below B wr1 wr2→S wr2 from fun wr2 hz=>by
     rw [eS];obtain ⟨z0,z1⟩:=HAT.out wr2 (hbel1.trans (hz.mono HBB.out))
     exact ⟨htw1.out.low hz,z0,z1⟩)
    rw [eS] at hK hS0 HSB;clear eS;go_wp2;clear q0 q1
    refine qbb hK 11 (by kernel_rfl) hS0 ?_
    intro hS
    refine lP [0,1,2,3,4,5,6] 5 ?zp1a ?zp1p hS ?zp1n
    case zp1p=>
     iterate 7 (apply Yl.cons rfl (by kernel_rfl);focus (rintro wx ⟨y1,y4⟩;(have x1:=y1.1.2.1.cell);(have x3:=y1.1.2.2.2.cell);(have x6:=y1.2.2.cell0);(have x7:=y1.2.2.cell1);(have x4:=y4);clear y1 y4;try (obtain ⟨x4,x5⟩:=x4);go_simp;all_goals (with_reducible rfl));try simp only [Act.put,sA,sB,sC])
     exact Yl.nil
    refine lC 7 (TwR wr1 s p l) rfl HTW.out ?_
    rintro v7 w7 ⟨a7,c7,rfl,ho7,hb7⟩;have hS7:=hK _ _ hS0 hb7;refine ⟨hS7, ?_⟩;obtain ⟨g9,c9,w9,hrun,ho9,hb9⟩:=qdc (hown1.out.carry hb7) (Nat.le_trans hBs1 hb7.size) (by have:=HLL.out;omega) s (.slice a7 p c7) l (ho7.mono hBs1);rw [←HFL.out] at hrun ho9;have hb9':Below B wr1 w9:=(hb7.mono hBs1).trans hb9;have hS9:=HSB.out w9 hb9';have hSa:=hK _ (w7.alloc (.cells #[.string (bs s),.slice a7 p c7] 98)) hS7 ((Below.refl _ _).alloc (Nat.le_refl _) _);have x9:=hS9.1.1.2.2.2.cell;have z9:=hS9.1.1.fz;clear hS;have hS:=hS7
    try simp only [Act.put,sA,sB,sC]
    refine lR 8 (.slice (some ⟨w7.heap.size,0,none⟩) 1 1) (w7.alloc (.cells #[.string (bs s),.slice a7 p c7] 98)) rfl (by go_simp) (fun _=>hSa) ?_
    try simp only [Act.put,sA,sB,sC]
    refine lR 9 (.slice (some ⟨g9,0,none⟩) (fl+1) c9) w9 rfl (qd2 (v:=.slice av fl cv) (y:=.slice (some ⟨w7.heap.size,0,none⟩) 1 1) rfl rfl rfl hrun) (fun _=>hS9) ?_
    clear hS;have hS:=hS9
    try simp only [Act.put,sA,sB,sC]
    refine lT 10 ?q1v10 rfl ?q1y10 hS ?q1r10
    case q1y10=>(rintro wx ⟨y1,y4⟩;(have x1:=y1.1.2.1.cell);(have x3:=y1.1.2.2.2.cell);(have x6:=y1.2.2.cell0);(have x7:=y1.2.2.cell1);(have x4:=y4);clear y1 y4;try (obtain ⟨x4,x5⟩:=x4);go_simp;all_goals (with_reducible rfl))
    try simp only [Act.put,sA,sB,sC]
    refine lL 11 (w9.setCell ⟨X,0,none⟩ (.slice (some ⟨g9,0,none⟩) (fl+1) c9)) rfl (by go_simp) ?_
    try simp only [Act.put,sA,sB,sC]
    refine lD ?_
    obtain ⟨vv2,wr2,hv,hwz,htw2,hown2,hbel2,hBs2⟩:=qik HBB.out hbel1 hBs1 hb9' HXB.out hS9.1 ho9;clear ho9 hb9 hb9' hrun x9 z9 hS hS7 hS9 hSa ho7 hb7 hK hS0 HSB htw1 hown1 hbel1 hBs1 HFL HTW hda1;rw [←hv,←hwz];clear hwz hv;have hda2:=htw2.out.1.2.1.cell;go_wp2;go_roundw
    case rel=>exact ⟨true,k+1,by omega,rfl,rfl,vv2,_,htw2,hown2,hide (.inr ⟨rfl,HIN.out⟩),by have h1:=HLL.out;simp only [List.length_append,List.length_cons,List.length_nil];omega,hbel2,hBs2⟩
    case measure=>simp only [intOf];omega
   | false=>
    have HPT:=hide (show L=fs.take k∧∀g∈fs.take k,ltN s0 g.1=false by
     rcases hinv.out with ⟨_,h1,h2⟩ | ⟨h,_⟩
     ·exact ⟨h1,h2⟩
     ·cases h)
    clear hinv
    by_cases g1:ltN s0 s=true
    ·have g1':(!Op.bytesLess (bs s).toList (bs s0).toList && !((bs s).toList==(bs s0).toList))=true:=by rw [gt_of];exact g1
     have HIN:=hide (show ((L++[(s0,l0)])++[(s,l)])++fs.drop (k+1)=wthF fs (s0,l0) by
      rw [HWH.out HPT.out.2 g1,HDR.out,HPT.out.1];simp)
     clear g1;go_wp2
     go_quiet (fail)
     obtain ⟨wr1,hwz⟩:∃wr1,wr1=wr0.drewN nq:=⟨_,rfl⟩
     have hbq:Below wr0.heap.size wr0 wr1:=by rw [hwz];exact below_drewN (Below.refl _ _) _
     rw [←hwz];have htw1:=hide (htw0.out.carry hbq);have hown1:=hide (hown0.out.carry hbq);have hbel1:=hbel0.trans (hbq.mono hbel0.size);have hBs1:=Nat.le_trans hBs0 hbq.size;clear hwz hbq htw0 hown0 hbel0 hBs0 hda0 q0 x6;obtain ⟨vv1,hvz⟩:∃u,u=vv0:=⟨_,rfl⟩;rw [←hvz] at htw1 hown1;clear hvz;have hda1:=htw1.out.1.2.1.cell;obtain ⟨fl,hfl⟩:∃fl,fl=(L).length:=⟨_,rfl⟩
     obtain ⟨av,cv,hav⟩:∃av cv,vv1=.slice av fl cv:=by rw [hfl];exact hown1.out.form
     subst hav;have HFL:=hide hfl;clear hfl;have HTW:=hide (qdj s0 a0 n0 c0 l0 wr1 (H0R.out.carry hbel1) H0N.out H0L.out)
     obtain ⟨S,eS⟩:∃S:World→Prop,S=fun wx=>Twf B Q Fb Rr X (.slice (some ⟨b,off,none⟩) n c) (bs s0) (.slice a0 n0 c0) (.slice av fl cv) wx∧True∧True:=⟨_,rfl⟩
     have hK:Keeps S:=by rw [eS];exact (Twf.keeps _ _ _ _ _ _ _ _ _).and (fun _ _ h _=>h)
     have hS0:S wr1:=by rw [eS];exact ⟨htw1.out,trivial,trivial⟩
     have HSB:=hide (show ∀wr2,Below B wr1 wr2→S wr2 from fun wr2 hz=>by
      rw [eS]
      exact ⟨htw1.out.low hz,trivial,trivial⟩)
     rw [eS] at hK hS0 HSB;clear eS;go_wp2
     skip
     refine qbb hK 7 (by kernel_rfl) hS0 ?_
     intro hS
     refine lP [0,1,2] 5 ?zp2a ?zp2p hS ?zp2n
     case zp2p=>
      iterate 3 (apply Yl.cons rfl (by kernel_rfl);focus (rintro wx ⟨y1,y4⟩;(have x1:=y1.1.2.1.cell);(have x3:=y1.1.2.2.2.cell);(have x6:=y1.2.2.cell0);(have x7:=y1.2.2.cell1);(have x4:=y4);clear y1 y4;try (obtain ⟨x4,x5⟩:=x4);go_simp;all_goals (with_reducible rfl));try simp only [Act.put,sA,sB,sC])
      exact Yl.nil
     refine lC 3 (TwR wr1 s0 n0 l0) rfl HTW.out ?_
     rintro v7 w7 ⟨a7,c7,rfl,ho7,hb7⟩;have hS7:=hK _ _ hS0 hb7;refine ⟨hS7, ?_⟩;obtain ⟨g9,c9,w9,hrun,ho9,hb9⟩:=qdc (hown1.out.carry hb7) (Nat.le_trans hBs1 hb7.size) (by have:=HLL.out;omega) s0 (.slice a7 n0 c7) l0 (ho7.mono hBs1);rw [←HFL.out] at hrun ho9;have hb9':Below B wr1 w9:=(hb7.mono hBs1).trans hb9;have hS9:=HSB.out w9 hb9';have hSa:=hK _ (w7.alloc (.cells #[.string (bs s0),.slice a7 n0 c7] 98)) hS7 ((Below.refl _ _).alloc (Nat.le_refl _) _);have x9:=hS9.1.1.2.2.2.cell;have z9:=hS9.1.1.fz;clear hS;have hS:=hS7
     try simp only [Act.put,sA,sB,sC]
     refine lR 4 (.slice (some ⟨w7.heap.size,0,none⟩) 1 1) (w7.alloc (.cells #[.string (bs s0),.slice a7 n0 c7] 98)) rfl (by go_simp) (fun _=>hSa) ?_
     try simp only [Act.put,sA,sB,sC]
     refine lR 5 (.slice (some ⟨g9,0,none⟩) (fl+1) c9) w9 rfl (qd2 (v:=.slice av fl cv) (y:=.slice (some ⟨w7.heap.size,0,none⟩) 1 1) rfl rfl rfl hrun) (fun _=>hS9) ?_
     clear hS;have hS:=hS9
     try simp only [Act.put,sA,sB,sC]
     refine lT 6 ?q2v6 rfl ?q2y6 hS ?q2r6
     case q2y6=>(rintro wx ⟨y1,y4⟩;(have x1:=y1.1.2.1.cell);(have x3:=y1.1.2.2.2.cell);(have x6:=y1.2.2.cell0);(have x7:=y1.2.2.cell1);(have x4:=y4);clear y1 y4;try (obtain ⟨x4,x5⟩:=x4);go_simp;all_goals (with_reducible rfl))
     try simp only [Act.put,sA,sB,sC]
     refine lL 7 (w9.setCell ⟨X,0,none⟩ (.slice (some ⟨g9,0,none⟩) (fl+1) c9)) rfl (by go_simp) ?_
     try simp only [Act.put,sA,sB,sC]
     refine lD ?_
     obtain ⟨vv2,wr2,hv,hwz,htw2,hown2,hbel2,hBs2⟩:=qik HBB.out hbel1 hBs1 hb9' HXB.out hS9.1 ho9;clear ho9 hb9 hb9' hrun x9 z9 hS hS7 hS9 hSa ho7 hb7 hK hS0 HSB htw1 hown1 hbel1 hBs1 HFL HTW hda1;rw [←hv,←hwz];clear hwz hv;have hda2:=htw2.out.1.2.1.cell;obtain ⟨fl,hfl⟩:∃fl,fl=(L++[(s0,l0)]).length:=⟨_,rfl⟩
     obtain ⟨av,cv,hav⟩:∃av cv,vv2=.slice av fl cv:=by rw [hfl];exact hown2.out.form
     subst hav;have HFL:=hide hfl;clear hfl;have HTW:=hide (qdj s a2 p c2 l wr2 (HQ2.out.carry hbel2) HP.out HLk.out)
     obtain ⟨S,eS⟩:∃S:World→Prop,S=fun wx=>Twf B Q Fb Rr X (.slice (some ⟨b,off,none⟩) n c) (bs s0) (.slice a0 n0 c0) (.slice av fl cv) wx∧wx.cell? ⟨b,off+k*2,none⟩=some (.string (bs s))∧wx.cell? ⟨b,off+k*2+1,none⟩=some (.slice a2 p c2):=⟨_,rfl⟩
     have hK:Keeps S:=by rw [eS];exact (Twf.keeps _ _ _ _ _ _ _ _ _).and ((qaa _ _).and (qaa _ _))
     obtain ⟨q0,q1⟩:=HAT.out wr2 hbel2
     have hS0:S wr2:=by rw [eS];exact ⟨htw2.out,q0,q1⟩
     have HSB:=hide (show ∀wr3,Below B wr2 wr3→S wr3 from fun wr3 hz=>by
      rw [eS];obtain ⟨z0,z1⟩:=HAT.out wr3 (hbel2.trans (hz.mono HBB.out))
      exact ⟨htw2.out.low hz,z0,z1⟩)
     rw [eS] at hK hS0 HSB;clear eS;go_wp2;clear q0 q1
     refine qbb hK 11 (by kernel_rfl) hS0 ?_
     intro hS
     refine lP [0,1,2,3,4,5,6] 5 ?zp3a ?zp3p hS ?zp3n
     case zp3p=>
      iterate 7 (apply Yl.cons rfl (by kernel_rfl);focus (rintro wx ⟨y1,y4⟩;(have x1:=y1.1.2.1.cell);(have x3:=y1.1.2.2.2.cell);(have x6:=y1.2.2.cell0);(have x7:=y1.2.2.cell1);(have x4:=y4);clear y1 y4;try (obtain ⟨x4,x5⟩:=x4);go_simp;all_goals (with_reducible rfl));try simp only [Act.put,sA,sB,sC])
      exact Yl.nil
     refine lC 7 (TwR wr2 s p l) rfl HTW.out ?_
     rintro v7 w7 ⟨a7,c7,rfl,ho7,hb7⟩;have hS7:=hK _ _ hS0 hb7;refine ⟨hS7, ?_⟩;obtain ⟨g9,c9,w9,hrun,ho9,hb9⟩:=qdc (hown2.out.carry hb7) (Nat.le_trans hBs2 hb7.size) (by have:=HLL.out;simp only [List.length_append,List.length_cons,List.length_nil];omega) s (.slice a7 p c7) l (ho7.mono hBs2);rw [←HFL.out] at hrun ho9;have hb9':Below B wr2 w9:=(hb7.mono hBs2).trans hb9;have hS9:=HSB.out w9 hb9';have hSa:=hK _ (w7.alloc (.cells #[.string (bs s),.slice a7 p c7] 98)) hS7 ((Below.refl _ _).alloc (Nat.le_refl _) _);have x9:=hS9.1.1.2.2.2.cell;have z9:=hS9.1.1.fz;clear hS;have hS:=hS7
     try simp only [Act.put,sA,sB,sC]
     refine lR 8 (.slice (some ⟨w7.heap.size,0,none⟩) 1 1) (w7.alloc (.cells #[.string (bs s),.slice a7 p c7] 98)) rfl (by go_simp) (fun _=>hSa) ?_
     try simp only [Act.put,sA,sB,sC]
     refine lR 9 (.slice (some ⟨g9,0,none⟩) (fl+1) c9) w9 rfl (qd2 (v:=.slice av fl cv) (y:=.slice (some ⟨w7.heap.size,0,none⟩) 1 1) rfl rfl rfl hrun) (fun _=>hS9) ?_
     clear hS;have hS:=hS9
     try simp only [Act.put,sA,sB,sC]
     refine lT 10 ?q3v10 rfl ?q3y10 hS ?q3r10
     case q3y10=>(rintro wx ⟨y1,y4⟩;(have x1:=y1.1.2.1.cell);(have x3:=y1.1.2.2.2.cell);(have x6:=y1.2.2.cell0);(have x7:=y1.2.2.cell1);(have x4:=y4);clear y1 y4;try (obtain ⟨x4,x5⟩:=x4);go_simp;all_goals (with_reducible rfl))
     try simp only [Act.put,sA,sB,sC]
     refine lL 11 (w9.setCell ⟨X,0,none⟩ (.slice (some ⟨g9,0,none⟩) (fl+1) c9)) rfl (by go_simp) ?_
     try simp only [Act.put,sA,sB,sC]
     refine lD ?_
     obtain ⟨vv3,wr3,hv,hwz,htw3,hown3,hbel3,hBs3⟩:=qik HBB.out hbel2 hBs2 hb9' HXB.out hS9.1 ho9;clear ho9 hb9 hb9' hrun x9 z9 hS hS7 hS9 hSa ho7 hb7 hK hS0 HSB htw2 hown2 hbel2 hBs2 HFL HTW hda2;rw [←hv,←hwz];clear hwz hv;have hda3:=htw3.out.1.2.1.cell;go_wp2;go_roundw
     case rel=>exact ⟨true,k+1,by omega,rfl,rfl,vv3,_,htw3,hown3,hide (.inr ⟨rfl,HIN.out⟩),by rw [HPT.out.1];simp only [List.length_append,List.length_cons,List.length_nil,List.length_take];omega,hbel3,hBs3⟩
     case measure=>simp only [intOf];omega
    ·have g1':(!Op.bytesLess (bs s).toList (bs s0).toList && !((bs s).toList==(bs s0).toList))=false:=by rw [gt_of];simpa using g1
     have HIN:=hide (show L++[(s,l)]=fs.take (k+1)∧∀g∈fs.take (k+1),ltN s0 g.1=false by
      rw [HT.out,HPT.out.1];refine ⟨rfl, ?_⟩;intro g hg
      rcases List.mem_append.1 hg with hg | hg
      ·exact HPT.out.2 g hg
      ·obtain rfl:g=(s,l):=by simpa using hg
       simpa using g1)
     clear g1;go_wp2
     go_quiet (fail)
     obtain ⟨wr1,hwz⟩:∃wr1,wr1=wr0.drewN nq:=⟨_,rfl⟩
     have hbq:Below wr0.heap.size wr0 wr1:=by rw [hwz];exact below_drewN (Below.refl _ _) _
     rw [←hwz];have htw1:=hide (htw0.out.carry hbq);have hown1:=hide (hown0.out.carry hbq);have hbel1:=hbel0.trans (hbq.mono hbel0.size);have hBs1:=Nat.le_trans hBs0 hbq.size;clear hwz hbq htw0 hown0 hbel0 hBs0 hda0 q0 x6;obtain ⟨vv1,hvz⟩:∃u,u=vv0:=⟨_,rfl⟩;rw [←hvz] at htw1 hown1;clear hvz;have hda1:=htw1.out.1.2.1.cell;obtain ⟨fl,hfl⟩:∃fl,fl=(L).length:=⟨_,rfl⟩
     obtain ⟨av,cv,hav⟩:∃av cv,vv1=.slice av fl cv:=by rw [hfl];exact hown1.out.form
     subst hav;have HFL:=hide hfl;clear hfl;have HTW:=hide (qdj s a2 p c2 l wr1 (HQ2.out.carry hbel1) HP.out HLk.out)
     obtain ⟨S,eS⟩:∃S:World→Prop,S=fun wx=>Twf B Q Fb Rr X (.slice (some ⟨b,off,none⟩) n c) (bs s0) (.slice a0 n0 c0) (.slice av fl cv) wx∧wx.cell? ⟨b,off+k*2,none⟩=some (.string (bs s))∧wx.cell? ⟨b,off+k*2+1,none⟩=some (.slice a2 p c2):=⟨_,rfl⟩
     have hK:Keeps S:=by rw [eS];exact (Twf.keeps _ _ _ _ _ _ _ _ _).and ((qaa _ _).and (qaa _ _))
     obtain ⟨q0,q1⟩:=HAT.out wr1 hbel1
     have hS0:S wr1:=by rw [eS];exact ⟨htw1.out,q0,q1⟩
     have HSB:=hide (show ∀wr2,Below B wr1 wr2→S wr2 from fun wr2 hz=>by
      rw [eS];obtain ⟨z0,z1⟩:=HAT.out wr2 (hbel1.trans (hz.mono HBB.out))
      exact ⟨htw1.out.low hz,z0,z1⟩)
     rw [eS] at hK hS0 HSB;clear eS;go_wp2;clear q0 q1
     refine qbb hK 11 (by kernel_rfl) hS0 ?_
     intro hS
     refine lP [0,1,2,3,4,5,6] 5 ?zp4a ?zp4p hS ?zp4n
     case zp4p=>
      iterate 7 (apply Yl.cons rfl (by kernel_rfl);focus (rintro wx ⟨y1,y4⟩;(have x1:=y1.1.2.1.cell);(have x3:=y1.1.2.2.2.cell);(have x6:=y1.2.2.cell0);(have x7:=y1.2.2.cell1);(have x4:=y4);clear y1 y4;try (obtain ⟨x4,x5⟩:=x4);go_simp;all_goals (with_reducible rfl));try simp only [Act.put,sA,sB,sC])
      exact Yl.nil
     refine lC 7 (TwR wr1 s p l) rfl HTW.out ?_
     rintro v7 w7 ⟨a7,c7,rfl,ho7,hb7⟩;have hS7:=hK _ _ hS0 hb7;refine ⟨hS7, ?_⟩;obtain ⟨g9,c9,w9,hrun,ho9,hb9⟩:=qdc (hown1.out.carry hb7) (Nat.le_trans hBs1 hb7.size) (by have:=HLL.out;omega) s (.slice a7 p c7) l (ho7.mono hBs1);rw [←HFL.out] at hrun ho9;have hb9':Below B wr1 w9:=(hb7.mono hBs1).trans hb9;have hS9:=HSB.out w9 hb9';have hSa:=hK _ (w7.alloc (.cells #[.string (bs s),.slice a7 p c7] 98)) hS7 ((Below.refl _ _).alloc (Nat.le_refl _) _);have x9:=hS9.1.1.2.2.2.cell;have z9:=hS9.1.1.fz;clear hS;have hS:=hS7
     try simp only [Act.put,sA,sB,sC]
     refine lR 8 (.slice (some ⟨w7.heap.size,0,none⟩) 1 1) (w7.alloc (.cells #[.string (bs s),.slice a7 p c7] 98)) rfl (by go_simp) (fun _=>hSa) ?_
     try simp only [Act.put,sA,sB,sC]
     refine lR 9 (.slice (some ⟨g9,0,none⟩) (fl+1) c9) w9 rfl (qd2 (v:=.slice av fl cv) (y:=.slice (some ⟨w7.heap.size,0,none⟩) 1 1) rfl rfl rfl hrun) (fun _=>hS9) ?_
     clear hS;have hS:=hS9
     try simp only [Act.put,sA,sB,sC]
     refine lT 10 ?q4v10 rfl ?q4y10 hS ?q4r10
     case q4y10=>(rintro wx ⟨y1,y4⟩;(have x1:=y1.1.2.1.cell);(have x3:=y1.1.2.2.2.cell);(have x6:=y1.2.2.cell0);(have x7:=y1.2.2.cell1);(have x4:=y4);clear y1 y4;try (obtain ⟨x4,x5⟩:=x4);go_simp;all_goals (with_reducible rfl))
     try simp only [Act.put,sA,sB,sC]
     refine lL 11 (w9.setCell ⟨X,0,none⟩ (.slice (some ⟨g9,0,none⟩) (fl+1) c9)) rfl (by go_simp) ?_
     try simp only [Act.put,sA,sB,sC]
     refine lD ?_
     obtain ⟨vv2,wr2,hv,hwz,htw2,hown2,hbel2,hBs2⟩:=qik HBB.out hbel1 hBs1 hb9' HXB.out hS9.1 ho9;clear ho9 hb9 hb9' hrun x9 z9 hS hS7 hS9 hSa ho7 hb7 hK hS0 HSB htw1 hown1 hbel1 hBs1 HFL HTW hda1;rw [←hv,←hwz];clear hwz hv;have hda2:=htw2.out.1.2.1.cell;go_wp2;go_roundw
     case rel=>exact ⟨false,k+1,by omega,rfl,rfl,vv2,_,htw2,hown2,hide (.inl ⟨rfl,HIN.out⟩),by have h1:=HLL.out;simp only [List.length_append,List.length_cons,List.length_nil];omega,hbel2,hBs2⟩
     case measure=>simp only [intOf];omega
  ·have hd:decide ((k:Int)<n)=false:=by simpa using (by omega:¬(k:Int)<n)
   have e:k=fs.length:=by have:=HN.out;omega
   have HE2:=hide e;clear e
   cases pt with
   | true=>
    have HEQ:=hide (show L=wthF fs (s0,l0) by
     rcases hinv.out with ⟨h,_⟩ | ⟨_,h⟩
     ·cases h
     ·rw [←h,HE2.out];simp)
    clear hinv;have hd1:=htw0.out.1.2.1.cell;have hdx:=htw0.out.1.2.2.2.cell;have hc:=htw0.out.1.2.2.1.cell;have hf:=htw0.out.1.2.2.1.fz;obtain ⟨fl,hfl⟩:∃fl,fl=(L).length:=⟨_,rfl⟩
    obtain ⟨av,cv,hav⟩:∃av cv,vv0=.slice av fl cv:=by rw [hfl];exact hown0.out.form
    subst hav;clear hfl hda0;obtain ⟨z0,hg, -⟩:=htw0.out.1.2.2.1.put (.slice av fl cv);obtain ⟨y,hy⟩:=htw0.out.1.2.2.1;have HO:=hide (hown0.out.keptS hg hy (by decide) (by decide));have HBE:=hide (hbel0.grown hg hbel0.size (by intro k hk;cases hk;have:=HRB.out;omega));clear hy hg;go_wp2;obtain ⟨w9,hw9⟩:∃w9,w9=wr0.setCell ⟨Rr,0,none⟩ (.slice av fl cv):=⟨_,rfl⟩;rw [←hw9] at z0 HO HBE ⊢
    try simp only [Exit.inBlock,Exit.then]
    refine bodyPost_ret (v:=.agg #[.slice av fl cv]) ?_ rfl ⟨_,rfl,by rw [←HEQ.out];exact HO.out.mono HBB.out,HBE.out⟩
    clear hw9 hc hd1 hdx hf
    simp [results,Tryz.results197,go_sem, *]
   | false=>
    have HEQ:=hide (show L++[(s0,l0)]=wthF fs (s0,l0) by
     rcases hinv.out with ⟨_,h1,h2⟩ | ⟨h,_⟩
     ·rw [HE2.out,List.take_length] at h1 h2
      rw [h1,qxb fs h2]
     ·cases h)
    clear hinv;obtain ⟨fl,hfl⟩:∃fl,fl=(L).length:=⟨_,rfl⟩
    obtain ⟨av,cv,hav⟩:∃av cv,vv0=.slice av fl cv:=by rw [hfl];exact hown0.out.form
    subst hav;have HFL:=hide hfl;clear hfl;have HTW:=hide (qdj s0 a0 n0 c0 l0 wr0 (H0R.out.carry hbel0) H0N.out H0L.out)
    obtain ⟨S,eS⟩:∃S:World→Prop,S=fun wx=>Twf B Q Fb Rr X (.slice a n c) (bs s0) (.slice a0 n0 c0) (.slice av fl cv) wx∧True∧True:=⟨_,rfl⟩
    have hK:Keeps S:=by rw [eS];exact (Twf.keeps _ _ _ _ _ _ _ _ _).and (fun _ _ h _=>h)
    have hS0:S wr0:=by rw [eS];exact ⟨htw0.out,trivial,trivial⟩
    have HSB:=hide (show ∀wr1,Below B wr0 wr1→S wr1 from fun wr1 hz=>by
     rw [eS]
     exact ⟨htw0.out.low hz,trivial,trivial⟩)
    rw [eS] at hK hS0 HSB;clear eS;go_wp2
    skip
    refine qbb hK 7 (by kernel_rfl) hS0 ?_
    intro hS
    refine lP [0,1,2] 5 ?zp5a ?zp5p hS ?zp5n
    case zp5p=>
     iterate 3 (apply Yl.cons rfl (by kernel_rfl);focus (rintro wx ⟨y1,y4⟩;(have x1:=y1.1.2.1.cell);(have x3:=y1.1.2.2.2.cell);(have x6:=y1.2.2.cell0);(have x7:=y1.2.2.cell1);(have x4:=y4);clear y1 y4;try (obtain ⟨x4,x5⟩:=x4);go_simp;all_goals (with_reducible rfl));try simp only [Act.put,sA,sB,sC])
     exact Yl.nil
    refine lC 3 (TwR wr0 s0 n0 l0) rfl HTW.out ?_
    rintro v7 w7 ⟨a7,c7,rfl,ho7,hb7⟩;have hS7:=hK _ _ hS0 hb7;refine ⟨hS7, ?_⟩;obtain ⟨g9,c9,w9,hrun,ho9,hb9⟩:=qdc (hown0.out.carry hb7) (Nat.le_trans hBs0 hb7.size) (by have:=HLL.out;omega) s0 (.slice a7 n0 c7) l0 (ho7.mono hBs0);rw [←HFL.out] at hrun ho9;have hb9':Below B wr0 w9:=(hb7.mono hBs0).trans hb9;have hS9:=HSB.out w9 hb9';have hSa:=hK _ (w7.alloc (.cells #[.string (bs s0),.slice a7 n0 c7] 98)) hS7 ((Below.refl _ _).alloc (Nat.le_refl _) _);have x9:=hS9.1.1.2.2.2.cell;have z9:=hS9.1.1.fz;clear hS;have hS:=hS7
    try simp only [Act.put,sA,sB,sC]
    refine lR 4 (.slice (some ⟨w7.heap.size,0,none⟩) 1 1) (w7.alloc (.cells #[.string (bs s0),.slice a7 n0 c7] 98)) rfl (by go_simp) (fun _=>hSa) ?_
    try simp only [Act.put,sA,sB,sC]
    refine lR 5 (.slice (some ⟨g9,0,none⟩) (fl+1) c9) w9 rfl (qd2 (v:=.slice av fl cv) (y:=.slice (some ⟨w7.heap.size,0,none⟩) 1 1) rfl rfl rfl hrun) (fun _=>hS9) ?_
    clear hS;have hS:=hS9
    try simp only [Act.put,sA,sB,sC]
    refine lT 6 ?q5v6 rfl ?q5y6 hS ?q5r6
    case q5y6=>(rintro wx ⟨y1,y4⟩;(have x1:=y1.1.2.1.cell);(have x3:=y1.1.2.2.2.cell);(have x6:=y1.2.2.cell0);(have x7:=y1.2.2.cell1);(have x4:=y4);clear y1 y4;try (obtain ⟨x4,x5⟩:=x4);go_simp;all_goals (with_reducible rfl))
    try simp only [Act.put,sA,sB,sC]
    refine lL 7 (w9.setCell ⟨X,0,none⟩ (.slice (some ⟨g9,0,none⟩) (fl+1) c9)) rfl (by go_simp) ?_
    try simp only [Act.put,sA,sB,sC]
    refine lD ?_
    obtain ⟨vv1,wr1,hv,hwz,htw1,hown1,hbel1,hBs1⟩:=qik HBB.out hbel0 hBs0 hb9' HXB.out hS9.1 ho9;clear ho9 hb9 hb9' hrun x9 z9 hS hS7 hS9 hSa ho7 hb7 hK hS0 HSB htw0 hown0 hbel0 hBs0 HFL HTW hda0;rw [←hv,←hwz];clear hwz hv;have hda1:=htw1.out.1.2.1.cell;have hd1:=htw1.out.1.2.1.cell;have hdx:=htw1.out.1.2.2.2.cell;have hc:=htw1.out.1.2.2.1.cell;have hf:=htw1.out.1.2.2.1.fz;obtain ⟨fl,hfl⟩:∃fl,fl=(L++[(s0,l0)]).length:=⟨_,rfl⟩
    obtain ⟨av,cv,hav⟩:∃av cv,vv1=.slice av fl cv:=by rw [hfl];exact hown1.out.form
    subst hav;clear hfl hda1;obtain ⟨z0,hg, -⟩:=htw1.out.1.2.2.1.put (.slice av fl cv);obtain ⟨y,hy⟩:=htw1.out.1.2.2.1;have HO:=hide (hown1.out.keptS hg hy (by decide) (by decide));have HBE:=hide (hbel1.grown hg hbel1.size (by intro k hk;cases hk;have:=HRB.out;omega));clear hy hg;go_wp2;obtain ⟨w9,hw9⟩:∃w9,w9=wr1.setCell ⟨Rr,0,none⟩ (.slice av fl cv):=⟨_,rfl⟩;rw [←hw9] at z0 HO HBE ⊢
    try simp only [Exit.inBlock,Exit.then]
    refine bodyPost_ret (v:=.agg #[.slice av fl cv]) ?_ rfl ⟨_,rfl,by rw [←HEQ.out];exact HO.out.mono HBB.out,HBE.out⟩
    clear hw9 hc hd1 hdx hf
    simp [results,Tryz.results197,go_sem, *]
end Go.Proofs.YtmeaiocohalphaaGreatDoor

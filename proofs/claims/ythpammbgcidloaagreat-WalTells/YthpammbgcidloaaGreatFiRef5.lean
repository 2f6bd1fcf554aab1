/-
  Of the document's side of layer 5: with.
-/
import Derived.Test.YthpammbgcidloaaGreatFiRef4
set_option maxHeartbeats 8000000
set_option maxRecDepth 100000
namespace Go.Proofs.YthpammbgcidloaaGreat
open Go.RowKit
set_option linter.all false
def lC:List Fl->Fl->List Fl
 | [],f=>[f]
 | g::r,f=>if ek f.1 g.1=true then f::g::r else g::lC r f
theorem qwo {f:Fl}:∀fs:List Fl,(∀g∈fs,ek f.1 g.1=false)->lC fs f=fs++[f]
 | [],_=>rfl
 | g::r,h=>by
  have a:=h g (List.mem_cons_self ..);rw [lC,if_neg (by simp [a]),qwo r (fun x b=>h x (List.mem_cons_of_mem _ b))];rfl
theorem qsg {f:Fl}:∀(fs:List Fl) (k:Nat) (a:k<fs.length),(∀g∈fs.take k,ek f.1 g.1=false)->ek f.1 (fs[k]).1=true->lC fs f=fs.take k++f::fs.drop k
 | g::r,0,_,_,h=>by
  rw [lC,if_pos (by simpa using h)];rfl
 | g::r,k+1,a,h1,h2=>by
  have b:=h1 g (by simp);rw [lC,if_neg (by simp [b]),qsg r k (by simpa using a) (fun x c=>h1 x (by simp [c])) (by simpa using h2)];rfl
theorem qwp {f:Fl}:∀{fs:List Fl},mo fs->jZ fs f.1=false->lC fs f=cO fs f
 | [],_,_=>rfl
 | g::r,hr,hi=>by
  have a:mo r:=(List.pairwise_cons.1 hr).2;have i:=(List.pairwise_cons.1 hr).1;have b:=NT hi;have c:jZ r f.1=false:=qai4 (List.sublist_cons_self g r) hi;by_cases h:ek f.1 g.1=true
  ·rw [lC,if_pos h]
   have z:dU (g::r) f.1=0:=by
    unfold dU;rw [List.countP_eq_zero];intro x d;rcases List.mem_cons.1 d with rfl | d
    ·simp [VQ h]
    ·simp [VQ (Gb _ _ _ h (i x d))]
   unfold cO;rw [z];rfl
  ·have j:ek f.1 g.1=false:=by simpa using h
   have k:ek g.1 f.1=true:=NQ _ _ j (fun e=>b g (List.mem_cons_self ..) e.symm);rw [lC,if_neg h,qwp a c];have e:dU (g::r) f.1=dU r f.1+1:=by unfold dU;rw [List.countP_cons];simp [k]
   unfold cO;rw [e];rfl
theorem Mr {α:Type} (l:List α) (k:Nat) (h:k<l.length):l.drop k=l[k]::l.drop (k+1):=List.drop_eq_getElem_cons h
theorem ED (s t:ak):(!Op.bytesLess (bs s).toList (bs t).toList && !((bs s).toList==(bs t).toList))=ek t s:=by
 rw [L9,zQ];cases h:ek t s with
 | true=>
  have a:=VQ h;have b:=Gc h;simp [a,Ne.symm b]
 | false=>
  by_cases e:t=s
  ·simp [e]
  ·have:=NQ _ _ h e
   simp [this]
def nS (B q b r x:Nat) (dv:Value) (s:ByteArray) (y v:Value) (w:World):Prop:=rV B q r x dv v w∧(b<B∧b≠x)∧aQ w b s y
theorem nS.low {B q b r x:Nat} {dv y v:Value} {s:ByteArray} {w w':World} (h:nS B q b r x dv s y v w) (hb:Below B w w'):nS B q b r x dv s y v w':=⟨h.1.low hb,h.2.1,(hb.block b h.2.1.1).trans h.2.2⟩
theorem nS.a {B q b r x:Nat} {dv y v:Value} {s:ByteArray} {w w':World} (h:nS B q b r x dv s y v w) (hb:ah w w'):nS B q b r x dv s y v w':=⟨rV.keeps _ _ _ _ _ _ _ _ h.1 hb,h.2.1,h.2.2.a hb⟩
theorem nS.keeps (B q b r x:Nat) (dv:Value) (s:ByteArray) (y v:Value):aL (nS B q b r x dv s y v):=fun _ _ h a=>h.a a
theorem nS.put {B q b r x:Nat} {dv y v:Value} {s:ByteArray} {w:World} (h:nS B q b r x dv s y v w) (u:Value):nS B q b r x dv s y u (w.setCell ⟨x,0,none⟩ u):=⟨h.1.put u,h.2.1,(heap_setCell_other w ⟨x,0,none⟩ b u h.2.1.2).trans h.2.2⟩
theorem PS {B q b r x:Nat} {dv y v u:Value} {s:ByteArray} {w0 w:World} {fs:List Fl} (a:w0.heap.size<=B) (c:ah w0 w) (d:w0.heap.size<=x) (h:nS B q b r x dv s y v w) (e:bJ w B u fs):
  nS B q b r x dv s y u (w.setCell ⟨x,0,none⟩ u)∧bJ (w.setCell ⟨x,0,none⟩ u) B u fs∧ah w0 (w.setCell ⟨x,0,none⟩ u):=by
 obtain ⟨i,f,g⟩:=qwn a c d h.1 e;exact ⟨h.put u,f,g⟩
theorem qabg (a:au) (n c:Nat) (fs:List Fl) (E:ak) (a0:au) (n0 c0:Nat) (l0:List Ex) (w:World) (ax:RdF w (.slice a n c) fs) (hn:n=fs.length) (a9:n<=1000) (ay:∀f∈fs,f.2.length<=1000000) (aD:RdE w (.slice a0 n0 c0) l0) (aE:n0=l0.length) (aF:l0.length<=1000000):
  Calls Tryz.prog 122 #[.agg #[.slice a n c],.agg #[.string (bs E),.slice a0 n0 c0]] w fun e w'=>∃v,e=.returned (.agg #[v])∧bJ w' w.heap.size v (lC fs (E,l0))∧ah w w':=by
 obtain ⟨W0,ab⟩:=ai ((((w.alloc (.cells #[.slice a n c] 30)).alloc (.cells #[.string (bs E),.slice a0 n0 c0] 98)).alloc (.cells #[.slice none 0 0] 30)).alloc (.cells #[.slice none 0 0] 30));have aH:ah w W0:=by rw [ab];exact (((ae).alloc (by simp) _).alloc (by simp;omega) _).alloc (by simp;omega) _
 have HR:=ag ax;have HN:=ag hn;have Aa:=ag ay;have aJ:=ag aD;have aK:=ag aE;have aM:=ag aF;obtain ⟨Q,hQ⟩:=ai w.heap.size;obtain ⟨Fb,an⟩:=ai (w.heap.size+1);obtain ⟨Rr,am⟩:=ai (w.heap.size+1+1);obtain ⟨X,hX⟩:=ai (w.heap.size+1+1+1);obtain ⟨B,hB⟩:=ai (w.heap.size+4);have a3:=ag (show nS B Q Fb Rr X (.slice a n c) (bs E) (.slice a0 n0 c0) (.slice none 0 0) W0 by
  rw [ab,hB,hQ,am,hX,an];refine ⟨⟨⟨by omega,by omega,by omega,by omega,by omega⟩, ?_, ?_, ?_⟩,⟨by omega,by omega⟩, ?_⟩
  ·exact (((bG.new w (.slice a n c)).a (ae)).a (ae)).a (ae)
  ·have:=(dV.new ((w.alloc (.cells #[.slice a n c] 30)).alloc (.cells #[.string (bs E),.slice a0 n0 c0] 98)) (.slice none 0 0)).a (aB.alloc aI (.cells #[.slice none 0 0] 30))
   simpa using this
  ·have:=bG.new (((w.alloc (.cells #[.slice a n c] 30)).alloc (.cells #[.string (bs E),.slice a0 n0 c0] 98)).alloc (.cells #[.slice none 0 0] 30)) (.slice none 0 0)
   simpa using this
  ·have:=((aQ.new (w.alloc (.cells #[.slice a n c] 30)) (bs E) (.slice a0 n0 c0)).a (aB.alloc aI (.cells #[.slice none 0 0] 30))).a (aB.alloc aI (.cells #[.slice none 0 0] 30))
   simpa using this)
 have iO:=ag (show w.heap.size<=B by omega);have ac:=ag (show w.heap.size<=X by omega);have WL:=ag (show w.heap.size<=Rr by omega);have jy:=ag (show B<=W0.heap.size by rw [ab,hB];simp);have a4:=ag aH;clear ax hn ay aH hB aD aE aF;go_enter Tryz.func122,Tryz.ntmps122;go_wp2;rw [<-ab];clear ab
 first | rw [<-hX] | rw [show w.heap.size+3=X from hX.symm]
 first | rw [<-am] | rw [show w.heap.size+2=Rr from am.symm]
 rw [<-an];rw [<-hQ];clear hQ hX am an;go_loopw [6,7] (fun pb i wr=>∃pt:Bool,∃k:Nat,k<=n∧pb=.bool pt∧i=.int .i64 k∧∃v L,af (nS B Q Fb Rr X (.slice a n c) (bs E) (.slice a0 n0 c0) v wr)∧af (bJ wr B v L)∧af ((pt=false∧L=fs.take k∧∀g∈fs.take k,ek E g.1=false)∨(pt=true∧L++fs.drop k=lC fs (E,l0)))∧L.length<=k+1∧ah w wr∧B<=wr.heap.size) (fun _ i _=>n - (intOf i).toNat)
 case atStart=>exact ⟨false,0,Nat.zero_le _,rfl,rfl,.slice none 0 0,[],a3,ag (bJ.nil _ _),ag (.inl ⟨rfl,rfl,by simp⟩),by simp,a4.o,jy.o⟩
 case round=>
  obtain ⟨pt,k,hk,rfl,rfl,PT,L,jU,t,W,aO,j,nT⟩:=hrel;obtain ⟨xU,PU⟩:=ai wr;rw [<-PU] at jU t j nT ⊢;clear PU;have Ab:=jU.o.1.2.1.cell;have pG:=ag aO;clear aO;by_cases ba:k<n
  ·have a6:(k:Int)<n:=by omega
   have ad:k<fs.length:=by have:=HN.o;omega
   have HT:=ag (uE fs k ad);have ao:=ag (Mr fs k ad);have ap:=ag (fun h1 h2=>qsg (f:=(E,l0)) fs k ad h1 h2);have bb:wrap64 ((k:Int)+1)=(k:Int)+1:=vo (by omega);obtain ⟨b,Y,a2,c2,rfl,k0,k1,q2⟩:=HR.o.at k ad;have aa:=ag (show ∀wz:World,ah w wz->wz.cell? ⟨b,Y+k*2,none⟩=some (.string (bs (fs[k]).1))∧wz.cell? ⟨b,Y+k*2+1,none⟩=some (.slice a2 (fs[k]).2.length c2) from fun wz hz=>⟨(hz.cell (World.block_lt_of_cell? w _ k0)).trans k0,(hz.cell (World.block_lt_of_cell? w _ k1)).trans k1⟩);clear k0 k1;have vI:=ag (Aa.o _ (List.getElem_mem ad));have sO:=ag q2;clear q2;obtain ⟨f,hf⟩:=ai (fs[k]);rw [<-hf] at sO HT vI aa ao ap;clear hf;obtain ⟨s,l⟩:=f;simp only at sO vI aa ap
   obtain ⟨p,hp⟩:=ai l.length;rw [<-hp] at sO aa;have HP:=ag hp;clear hp;have q0:=(aa.o xU j).1;have x6:=jU.o.2.2.cell0;cases pt with
   | true=>
    have yX:=ag (show (L++[(s,l)])++fs.drop (k+1)=lC fs (E,l0) by
     rcases W.o with ⟨h,_⟩ | ⟨_,h⟩
     ·cases h
     ·rw [<-h,ao.o];simp)
    clear W;go_wp2;go_quiet (fail)
    obtain ⟨V,r⟩:=ai (xU.drewN nq);have J:ah xU V:=by rw [r];exact below_drewN aB _
    rw [<-r];have Z:=ag (jU.o.a J);have d:=ag (t.o.a J);have bC:=j.trans (J.mono j.size);have jV:=aC nT J.size;clear r J jU t j nT Ab q0 x6;obtain ⟨EE,EF⟩:=ai PT;rw [<-EF] at Z d;clear EF;have vQ:=Z.o.1.2.1.cell;obtain ⟨x,u⟩:=ai ((L).length);obtain ⟨G,H,qJ⟩:∃G H,EE=.slice G x H:=by rw [u];exact d.o.form
    subst qJ;have oV:=ag u;clear u;have ky:=ag (Mt s a2 p c2 l V (sO.o.a bC) HP.o vI.o);obtain ⟨S,N⟩:∃S:World->Prop,S=fun wx=>nS B Q Fb Rr X (.slice (some ⟨b,Y,none⟩) n c) (bs E) (.slice a0 n0 c0) (.slice G x H) wx∧wx.cell? ⟨b,Y+k*2,none⟩=some (.string (bs s))∧wx.cell? ⟨b,Y+k*2+1,none⟩=some (.slice a2 p c2):=⟨_,rfl⟩
    have O:aL S:=by rw [N];exact (nS.keeps _ _ _ _ _ _ _ _ _).and ((aR _ _).and (aR _ _))
    obtain ⟨q0,q1⟩:=aa.o V bC;have z:S V:=by rw [N];exact ⟨Z.o,q0,q1⟩
    have ll:=ag (show ∀D,Below B V D->S D from fun D hz=>by
     rw [N];obtain ⟨z0,z1⟩:=aa.o D (bC.trans (hz.mono iO.o));exact ⟨Z.o.low hz,z0,z1⟩)
    rw [N] at O z ll;clear N;go_wp2;clear q0 q1;refine rH O 11 (by kernel_rfl) z ?_
    intro F;refine pg [0,1,2,3,4,5,6] (fuel:=5) (a':=?iD) (by kernel_rfl) (by kernel_rfl) (by kernel_rfl) ?dn F ?iE
    case dn=>
     iterate 7 (apply Yl.cons rfl (by kernel_rfl);focus (rintro wx ⟨m,P⟩;(have x1:=m.1.2.1.cell);(have x3:=m.1.2.2.2.cell);(have x6:=m.2.2.cell0);(have x7:=m.2.2.cell1);(have T:=P);clear m P;try (obtain ⟨T,x5⟩:=T);go_simp<;>with_reducible rfl);try simp only [az])
     exact Yl.nil
    refine uU (i:=7) (R:=GN V s p l) rfl (by kernel_rfl) (by rfl) (by go_simp) ky.o ?_
    rintro v7 w7 ⟨a7,c7,rfl,jA,U⟩;have eu:=O _ _ z U;refine ⟨eu, ?_⟩;obtain ⟨g9,c9,I,q,bN,bI⟩:=Eu (d.o.a U) (aC jV U.size) (by have:=pG.o;omega) s (.slice a7 p c7) l (jA.mono jV);rw [<-oV.o] at q bN;have eF:Below B V I:=(U.mono jV).trans bI;have K:=ll.o I eF;have nz:=O _ (w7.alloc (.cells #[.string (bs s),.slice a7 p c7] 98)) eu (ae);have x9:=K.1.1.2.2.2.cell;have z9:=K.1.1.fz;clear F;have F:=eu;try simp only [az]
    refine lL (i:=8) (v:=.slice (some ⟨w7.heap.size,0,none⟩) 1 1) (w':=w7.alloc (.cells #[.string (bs s),.slice a7 p c7] 98)) rfl (by kernel_rfl) (by rfl) (by go_simp) (fun _=>nz) ?_
    try simp only [az]
    refine lL (i:=9) (v:=.slice (some ⟨g9,0,none⟩) (x+1) c9) (w':=I) rfl (by kernel_rfl) (by rfl) (En (v:=.slice G x H) (y:=.slice (some ⟨w7.heap.size,0,none⟩) 1 1) rfl rfl rfl q) (fun _=>K) ?_
    clear F;have F:=K;try simp only [az]
    refine uy (i:=10) (v:=?Ob) rfl (by kernel_rfl) (by kernel_rfl) (by kernel_rfl) rfl (by kernel_rfl) (by kernel_rfl) (by rfl) ?zI F ?Oc
    case zI=>(rintro wx ⟨m,P⟩;(have x1:=m.1.2.1.cell);(have x3:=m.1.2.2.2.cell);(have x6:=m.2.2.cell0);(have x7:=m.2.2.cell1);(have T:=P);clear m P;try (obtain ⟨T,x5⟩:=T);go_simp<;>with_reducible rfl)
    try simp only [az]
    refine rJ (i:=11) (w':=I.setCell ⟨X,0,none⟩ (.slice (some ⟨g9,0,none⟩) (x+1) c9)) rfl (by kernel_rfl) (by kernel_rfl) (by rfl) (by go_simp) ?_
    try simp only [az]
    refine rM (by kernel_rfl) ?_ _
    refine NoPanic.normal ?_
    obtain ⟨t1,t2,t3⟩:=PS iO.o (bC.trans (eF.mono iO.o)) ac.o K.1 bN;have A:=ag t1;have C:=ag (show bJ _ B _ (L++[(s,l)]) by exact t2);have nG:=ag (show B<=(I.setCell ⟨X,0,none⟩ (.slice (some ⟨g9,0,none⟩) (x+1) c9)).heap.size from aC (aC jV eF.size) (lV _ _ _).size);clear t1 t2 bN bI eF q x9 z9 F eu K nz jA U O z ll Z d bC jV oV ky vQ;obtain ⟨EH,hv⟩:∃v:Value,v=.slice (some ⟨g9,0,none⟩) (x+1) c9:=⟨_,rfl⟩;rw [<-hv] at A C nG t3 ⊢;obtain ⟨D,r⟩:=ai (I.setCell ⟨X,0,none⟩ EH);rw [<-r] at A C nG t3 ⊢;have pK:=A;have M:=C;have aT:=t3;have qK:=nG.o;clear r hv A C t3 nG;have CV:=pK.o.1.2.1.cell;go_wp2;go_roundw
    case rel=>exact ⟨true,k+1,by omega,rfl,rfl,EH,_,pK,M,ag (.inr ⟨rfl,yX.o⟩),by have h1:=pG.o;simp only [List.length_append,List.length_cons,List.length_nil];omega,aT,qK⟩
    case measure=>simp only [intOf];omega
   | false=>
    have PV:=ag (show L=fs.take k∧∀g∈fs.take k,ek E g.1=false by
     rcases W.o with ⟨_,h1,h2⟩ | ⟨h,_⟩
     ·exact ⟨h1,h2⟩
     ·cases h)
    clear W;by_cases g1:ek E s=true
    ·have a5:(!Op.bytesLess (bs s).toList (bs E).toList && !((bs s).toList==(bs E).toList))=true:=by rw [ED];exact g1
     have yX:=ag (show ((L++[(E,l0)])++[(s,l)])++fs.drop (k+1)=lC fs (E,l0) by
      rw [ap.o PV.o.2 g1,ao.o,PV.o.1];simp)
     clear g1;go_wp2;go_quiet (fail)
     obtain ⟨V,r⟩:=ai (xU.drewN nq);have J:ah xU V:=by rw [r];exact below_drewN aB _
     rw [<-r];have Z:=ag (jU.o.a J);have d:=ag (t.o.a J);have bC:=j.trans (J.mono j.size);have jV:=aC nT J.size;clear r J jU t j nT Ab q0 x6;obtain ⟨EE,EF⟩:=ai PT;rw [<-EF] at Z d;clear EF;have vQ:=Z.o.1.2.1.cell;obtain ⟨x,u⟩:=ai ((L).length);obtain ⟨G,H,qJ⟩:∃G H,EE=.slice G x H:=by rw [u];exact d.o.form
     subst qJ;have oV:=ag u;clear u;have ky:=ag (Mt E a0 n0 c0 l0 V (aJ.o.a bC) aK.o aM.o);obtain ⟨S,N⟩:∃S:World->Prop,S=fun wx=>nS B Q Fb Rr X (.slice (some ⟨b,Y,none⟩) n c) (bs E) (.slice a0 n0 c0) (.slice G x H) wx∧True∧True:=⟨_,rfl⟩
     have O:aL S:=by rw [N];exact (nS.keeps _ _ _ _ _ _ _ _ _).and (fun _ _ h _=>h)
     have z:S V:=by rw [N];exact ⟨Z.o,trivial,trivial⟩
     have ll:=ag (show ∀D,Below B V D->S D from fun D hz=>by
      rw [N];exact ⟨Z.o.low hz,trivial,trivial⟩)
     rw [N] at O z ll;clear N;go_wp2;skip
     refine rH O 7 (by kernel_rfl) z ?_
     intro F;refine pg [0,1,2] (fuel:=5) (a':=?lM) (by kernel_rfl) (by kernel_rfl) (by kernel_rfl) ?fU F ?lN
     case fU=>
      iterate 3 (apply Yl.cons rfl (by kernel_rfl);focus (rintro wx ⟨m,P⟩;(have x1:=m.1.2.1.cell);(have x3:=m.1.2.2.2.cell);(have x6:=m.2.2.cell0);(have x7:=m.2.2.cell1);(have T:=P);clear m P;try (obtain ⟨T,x5⟩:=T);go_simp<;>with_reducible rfl);try simp only [az])
      exact Yl.nil
     refine uU (i:=3) (R:=GN V E n0 l0) rfl (by kernel_rfl) (by rfl) (by go_simp) ky.o ?_
     rintro v7 w7 ⟨a7,c7,rfl,jA,U⟩;have eu:=O _ _ z U;refine ⟨eu, ?_⟩;obtain ⟨g9,c9,I,q,bN,bI⟩:=Eu (d.o.a U) (aC jV U.size) (by have:=pG.o;omega) E (.slice a7 n0 c7) l0 (jA.mono jV);rw [<-oV.o] at q bN;have eF:Below B V I:=(U.mono jV).trans bI;have K:=ll.o I eF;have nz:=O _ (w7.alloc (.cells #[.string (bs E),.slice a7 n0 c7] 98)) eu (ae);have x9:=K.1.1.2.2.2.cell;have z9:=K.1.1.fz;clear F;have F:=eu;try simp only [az]
     refine lL (i:=4) (v:=.slice (some ⟨w7.heap.size,0,none⟩) 1 1) (w':=w7.alloc (.cells #[.string (bs E),.slice a7 n0 c7] 98)) rfl (by kernel_rfl) (by rfl) (by go_simp) (fun _=>nz) ?_
     try simp only [az]
     refine lL (i:=5) (v:=.slice (some ⟨g9,0,none⟩) (x+1) c9) (w':=I) rfl (by kernel_rfl) (by rfl) (En (v:=.slice G x H) (y:=.slice (some ⟨w7.heap.size,0,none⟩) 1 1) rfl rfl rfl q) (fun _=>K) ?_
     clear F;have F:=K;try simp only [az]
     refine uy (i:=6) (v:=?q2v6) rfl (by kernel_rfl) (by kernel_rfl) (by kernel_rfl) rfl (by kernel_rfl) (by kernel_rfl) (by rfl) ?Gm F ?q2r6
     case Gm=>(rintro wx ⟨m,P⟩;(have x1:=m.1.2.1.cell);(have x3:=m.1.2.2.2.cell);(have x6:=m.2.2.cell0);(have x7:=m.2.2.cell1);(have T:=P);clear m P;try (obtain ⟨T,x5⟩:=T);go_simp<;>with_reducible rfl)
     try simp only [az]
     refine rJ (i:=7) (w':=I.setCell ⟨X,0,none⟩ (.slice (some ⟨g9,0,none⟩) (x+1) c9)) rfl (by kernel_rfl) (by kernel_rfl) (by rfl) (by go_simp) ?_
     try simp only [az]
     refine rM (by kernel_rfl) ?_ _
     refine NoPanic.normal ?_
     obtain ⟨t1,t2,t3⟩:=PS iO.o (bC.trans (eF.mono iO.o)) ac.o K.1 bN;have A:=ag t1;have C:=ag (show bJ _ B _ (L++[(E,l0)]) by exact t2);have nG:=ag (show B<=(I.setCell ⟨X,0,none⟩ (.slice (some ⟨g9,0,none⟩) (x+1) c9)).heap.size from aC (aC jV eF.size) (lV _ _ _).size);clear t1 t2 bN bI eF q x9 z9 F eu K nz jA U O z ll Z d bC jV oV ky vQ;obtain ⟨EH,hv⟩:∃v:Value,v=.slice (some ⟨g9,0,none⟩) (x+1) c9:=⟨_,rfl⟩;rw [<-hv] at A C nG t3 ⊢;obtain ⟨D,r⟩:=ai (I.setCell ⟨X,0,none⟩ EH);rw [<-r] at A C nG t3 ⊢;have pK:=A;have M:=C;have aT:=t3;have qK:=nG.o;clear r hv A C t3 nG;have CV:=pK.o.1.2.1.cell;obtain ⟨x,u⟩:=ai ((L++[(E,l0)]).length)
     obtain ⟨G,H,qJ⟩:∃G H,EH=.slice G x H:=by rw [u];exact M.o.form
     subst qJ;have oV:=ag u;clear u;have ky:=ag (Mt s a2 p c2 l D (sO.o.a aT) HP.o vI.o);obtain ⟨S,N⟩:∃S:World->Prop,S=fun wx=>nS B Q Fb Rr X (.slice (some ⟨b,Y,none⟩) n c) (bs E) (.slice a0 n0 c0) (.slice G x H) wx∧wx.cell? ⟨b,Y+k*2,none⟩=some (.string (bs s))∧wx.cell? ⟨b,Y+k*2+1,none⟩=some (.slice a2 p c2):=⟨_,rfl⟩
     have O:aL S:=by rw [N];exact (nS.keeps _ _ _ _ _ _ _ _ _).and ((aR _ _).and (aR _ _))
     obtain ⟨q0,q1⟩:=aa.o D aT;have z:S D:=by rw [N];exact ⟨pK.o,q0,q1⟩
     have ll:=ag (show ∀al,Below B D al->S al from fun al hz=>by
      rw [N];obtain ⟨z0,z1⟩:=aa.o al (aT.trans (hz.mono iO.o));exact ⟨pK.o.low hz,z0,z1⟩)
     rw [N] at O z ll;clear N;go_wp2;clear q0 q1;refine rH O 11 (by kernel_rfl) z ?_
     intro F;refine pg [0,1,2,3,4,5,6] (fuel:=5) (a':=?FE) (by kernel_rfl) (by kernel_rfl) (by kernel_rfl) ?uW F ?FH
     case uW=>
      iterate 7 (apply Yl.cons rfl (by kernel_rfl);focus (rintro wx ⟨m,P⟩;(have x1:=m.1.2.1.cell);(have x3:=m.1.2.2.2.cell);(have x6:=m.2.2.cell0);(have x7:=m.2.2.cell1);(have T:=P);clear m P;try (obtain ⟨T,x5⟩:=T);go_simp<;>with_reducible rfl);try simp only [az])
      exact Yl.nil
     refine uU (i:=7) (R:=GN D s p l) rfl (by kernel_rfl) (by rfl) (by go_simp) ky.o ?_
     rintro v7 w7 ⟨a7,c7,rfl,jA,U⟩;have eu:=O _ _ z U;refine ⟨eu, ?_⟩;obtain ⟨g9,c9,I,q,bN,bI⟩:=Eu (M.o.a U) (aC qK U.size) (by have:=pG.o;simp only [List.length_append,List.length_cons,List.length_nil];omega) s (.slice a7 p c7) l (jA.mono qK);rw [<-oV.o] at q bN;have eF:Below B D I:=(U.mono qK).trans bI;have K:=ll.o I eF;have nz:=O _ (w7.alloc (.cells #[.string (bs s),.slice a7 p c7] 98)) eu (ae);have x9:=K.1.1.2.2.2.cell;have z9:=K.1.1.fz;clear F;have F:=eu;try simp only [az]
     refine lL (i:=8) (v:=.slice (some ⟨w7.heap.size,0,none⟩) 1 1) (w':=w7.alloc (.cells #[.string (bs s),.slice a7 p c7] 98)) rfl (by kernel_rfl) (by rfl) (by go_simp) (fun _=>nz) ?_
     try simp only [az]
     refine lL (i:=9) (v:=.slice (some ⟨g9,0,none⟩) (x+1) c9) (w':=I) rfl (by kernel_rfl) (by rfl) (En (v:=.slice G x H) (y:=.slice (some ⟨w7.heap.size,0,none⟩) 1 1) rfl rfl rfl q) (fun _=>K) ?_
     clear F;have F:=K;try simp only [az]
     refine uy (i:=10) (v:=?Oz) rfl (by kernel_rfl) (by kernel_rfl) (by kernel_rfl) rfl (by kernel_rfl) (by kernel_rfl) (by rfl) ?zJ F ?OA
     case zJ=>(rintro wx ⟨m,P⟩;(have x1:=m.1.2.1.cell);(have x3:=m.1.2.2.2.cell);(have x6:=m.2.2.cell0);(have x7:=m.2.2.cell1);(have T:=P);clear m P;try (obtain ⟨T,x5⟩:=T);go_simp<;>with_reducible rfl)
     try simp only [az]
     refine rJ (i:=11) (w':=I.setCell ⟨X,0,none⟩ (.slice (some ⟨g9,0,none⟩) (x+1) c9)) rfl (by kernel_rfl) (by kernel_rfl) (by rfl) (by go_simp) ?_
     try simp only [az]
     refine rM (by kernel_rfl) ?_ _
     refine NoPanic.normal ?_
     obtain ⟨t1,t2,t3⟩:=PS iO.o (aT.trans (eF.mono iO.o)) ac.o K.1 bN;have A:=ag t1;have C:=ag (show bJ _ B _ ((L++[(E,l0)])++[(s,l)]) by exact t2);have nG:=ag (show B<=(I.setCell ⟨X,0,none⟩ (.slice (some ⟨g9,0,none⟩) (x+1) c9)).heap.size from aC (aC qK eF.size) (lV _ _ _).size);clear t1 t2 bN bI eF q x9 z9 F eu K nz jA U O z ll pK M aT qK oV ky CV;obtain ⟨aP,hv⟩:∃v:Value,v=.slice (some ⟨g9,0,none⟩) (x+1) c9:=⟨_,rfl⟩;rw [<-hv] at A C nG t3 ⊢;obtain ⟨al,r⟩:=ai (I.setCell ⟨X,0,none⟩ aP);rw [<-r] at A C nG t3 ⊢;have PW:=A;have aq:=C;have eQ:=t3;have aS:=nG.o;clear r hv A C t3 nG;have a8:=PW.o.1.2.1.cell;go_wp2;go_roundw
     case rel=>exact ⟨true,k+1,by omega,rfl,rfl,aP,_,PW,aq,ag (.inr ⟨rfl,yX.o⟩),by rw [PV.o.1];simp only [List.length_append,List.length_cons,List.length_nil,List.length_take];omega,eQ,aS⟩
     case measure=>simp only [intOf];omega
    ·have a5:(!Op.bytesLess (bs s).toList (bs E).toList && !((bs s).toList==(bs E).toList))=false:=by rw [ED];simpa using g1
     have yX:=ag (show L++[(s,l)]=fs.take (k+1)∧∀g∈fs.take (k+1),ek E g.1=false by
      rw [HT.o,PV.o.1];refine ⟨rfl, ?_⟩;intro g hg;rcases List.mem_append.1 hg with hg | hg
      ·exact PV.o.2 g hg
      ·obtain rfl:g=(s,l):=by simpa using hg
       simpa using g1)
     clear g1;go_wp2;go_quiet (fail)
     obtain ⟨V,r⟩:=ai (xU.drewN nq);have J:ah xU V:=by rw [r];exact below_drewN aB _
     rw [<-r];have Z:=ag (jU.o.a J);have d:=ag (t.o.a J);have bC:=j.trans (J.mono j.size);have jV:=aC nT J.size;clear r J jU t j nT Ab q0 x6;obtain ⟨EE,EF⟩:=ai PT;rw [<-EF] at Z d;clear EF;have vQ:=Z.o.1.2.1.cell;obtain ⟨x,u⟩:=ai ((L).length);obtain ⟨G,H,qJ⟩:∃G H,EE=.slice G x H:=by rw [u];exact d.o.form
     subst qJ;have oV:=ag u;clear u;have ky:=ag (Mt s a2 p c2 l V (sO.o.a bC) HP.o vI.o);obtain ⟨S,N⟩:∃S:World->Prop,S=fun wx=>nS B Q Fb Rr X (.slice (some ⟨b,Y,none⟩) n c) (bs E) (.slice a0 n0 c0) (.slice G x H) wx∧wx.cell? ⟨b,Y+k*2,none⟩=some (.string (bs s))∧wx.cell? ⟨b,Y+k*2+1,none⟩=some (.slice a2 p c2):=⟨_,rfl⟩
     have O:aL S:=by rw [N];exact (nS.keeps _ _ _ _ _ _ _ _ _).and ((aR _ _).and (aR _ _))
     obtain ⟨q0,q1⟩:=aa.o V bC;have z:S V:=by rw [N];exact ⟨Z.o,q0,q1⟩
     have ll:=ag (show ∀D,Below B V D->S D from fun D hz=>by
      rw [N];obtain ⟨z0,z1⟩:=aa.o D (bC.trans (hz.mono iO.o));exact ⟨Z.o.low hz,z0,z1⟩)
     rw [N] at O z ll;clear N;go_wp2;clear q0 q1;refine rH O 11 (by kernel_rfl) z ?_
     intro F;refine pg [0,1,2,3,4,5,6] (fuel:=5) (a':=?FI) (by kernel_rfl) (by kernel_rfl) (by kernel_rfl) ?uX F ?FJ
     case uX=>
      iterate 7 (apply Yl.cons rfl (by kernel_rfl);focus (rintro wx ⟨m,P⟩;(have x1:=m.1.2.1.cell);(have x3:=m.1.2.2.2.cell);(have x6:=m.2.2.cell0);(have x7:=m.2.2.cell1);(have T:=P);clear m P;try (obtain ⟨T,x5⟩:=T);go_simp<;>with_reducible rfl);try simp only [az])
      exact Yl.nil
     refine uU (i:=7) (R:=GN V s p l) rfl (by kernel_rfl) (by rfl) (by go_simp) ky.o ?_
     rintro v7 w7 ⟨a7,c7,rfl,jA,U⟩;have eu:=O _ _ z U;refine ⟨eu, ?_⟩;obtain ⟨g9,c9,I,q,bN,bI⟩:=Eu (d.o.a U) (aC jV U.size) (by have:=pG.o;omega) s (.slice a7 p c7) l (jA.mono jV);rw [<-oV.o] at q bN;have eF:Below B V I:=(U.mono jV).trans bI;have K:=ll.o I eF;have nz:=O _ (w7.alloc (.cells #[.string (bs s),.slice a7 p c7] 98)) eu (ae);have x9:=K.1.1.2.2.2.cell;have z9:=K.1.1.fz;clear F;have F:=eu;try simp only [az]
     refine lL (i:=8) (v:=.slice (some ⟨w7.heap.size,0,none⟩) 1 1) (w':=w7.alloc (.cells #[.string (bs s),.slice a7 p c7] 98)) rfl (by kernel_rfl) (by rfl) (by go_simp) (fun _=>nz) ?_
     try simp only [az]
     refine lL (i:=9) (v:=.slice (some ⟨g9,0,none⟩) (x+1) c9) (w':=I) rfl (by kernel_rfl) (by rfl) (En (v:=.slice G x H) (y:=.slice (some ⟨w7.heap.size,0,none⟩) 1 1) rfl rfl rfl q) (fun _=>K) ?_
     clear F;have F:=K;try simp only [az]
     refine uy (i:=10) (v:=?OD) rfl (by kernel_rfl) (by kernel_rfl) (by kernel_rfl) rfl (by kernel_rfl) (by kernel_rfl) (by rfl) ?zK F ?OE
     case zK=>(rintro wx ⟨m,P⟩;(have x1:=m.1.2.1.cell);(have x3:=m.1.2.2.2.cell);(have x6:=m.2.2.cell0);(have x7:=m.2.2.cell1);(have T:=P);clear m P;try (obtain ⟨T,x5⟩:=T);go_simp<;>with_reducible rfl)
     try simp only [az]
     refine rJ (i:=11) (w':=I.setCell ⟨X,0,none⟩ (.slice (some ⟨g9,0,none⟩) (x+1) c9)) rfl (by kernel_rfl) (by kernel_rfl) (by rfl) (by go_simp) ?_
     try simp only [az]
     refine rM (by kernel_rfl) ?_ _
     refine NoPanic.normal ?_
     obtain ⟨t1,t2,t3⟩:=PS iO.o (bC.trans (eF.mono iO.o)) ac.o K.1 bN;have A:=ag t1;have C:=ag (show bJ _ B _ (L++[(s,l)]) by exact t2);have nG:=ag (show B<=(I.setCell ⟨X,0,none⟩ (.slice (some ⟨g9,0,none⟩) (x+1) c9)).heap.size from aC (aC jV eF.size) (lV _ _ _).size);clear t1 t2 bN bI eF q x9 z9 F eu K nz jA U O z ll Z d bC jV oV ky vQ;obtain ⟨EH,hv⟩:∃v:Value,v=.slice (some ⟨g9,0,none⟩) (x+1) c9:=⟨_,rfl⟩;rw [<-hv] at A C nG t3 ⊢;obtain ⟨D,r⟩:=ai (I.setCell ⟨X,0,none⟩ EH);rw [<-r] at A C nG t3 ⊢;have pK:=A;have M:=C;have aT:=t3;have qK:=nG.o;clear r hv A C t3 nG;have CV:=pK.o.1.2.1.cell;go_wp2;go_roundw
     case rel=>exact ⟨false,k+1,by omega,rfl,rfl,EH,_,pK,M,ag (.inl ⟨rfl,yX.o⟩),by have h1:=pG.o;simp only [List.length_append,List.length_cons,List.length_nil];omega,aT,qK⟩
     case measure=>simp only [intOf];omega
  ·have hd:decide ((k:Int)<n)=false:=aA (by omega)
   have e:k=fs.length:=by have:=HN.o;omega
   have a1:=ag e;clear e;cases pt with
   | true=>
    have ar:=ag (show L=lC fs (E,l0) by
     rcases W.o with ⟨h,_⟩ | ⟨_,h⟩
     ·cases h
     ·rw [<-h,a1.o];simp)
    clear W;have aw:=jU.o.1.2.1.cell;have PR:=jU.o.1.2.2.2.cell;have hc:=jU.o.1.2.2.1.cell;have hf:=jU.o.1.2.2.1.fz;obtain ⟨x,u⟩:=ai ((L).length);obtain ⟨G,H,qJ⟩:∃G H,PT=.slice G x H:=by rw [u];exact t.o.form
    subst qJ;clear u Ab;obtain ⟨z0,hg, -⟩:=jU.o.1.2.2.1.put (.slice G x H);obtain ⟨y,hy⟩:=jU.o.1.2.2.1;have HO:=ag (t.o.keptS hg hy (by decide) (by decide));have jH:=ag (j.grown hg j.size (by intro k hk;cases hk;have:=WL.o;omega));clear hy hg;go_wp2;obtain ⟨I,aN⟩:=ai (xU.setCell ⟨Rr,0,none⟩ (.slice G x H));rw [<-aN] at z0 HO jH ⊢;try simp only [Exit.inBlock,Exit.then]
    refine bodyPost_ret (v:=.agg #[.slice G x H]) ?_ rfl ⟨_,rfl,by rw [<-ar.o];exact HO.o.mono iO.o,jH.o⟩
    clear aN hc aw PR hf;simp [results,Tryz.results122,go_sem, *]
   | false=>
    have ar:=ag (show L++[(E,l0)]=lC fs (E,l0) by
     rcases W.o with ⟨_,h1,h2⟩ | ⟨h,_⟩
     ·rw [a1.o,List.take_length] at h1 h2
      rw [h1,qwo fs h2]
     ·cases h)
    clear W;obtain ⟨x,u⟩:=ai ((L).length);obtain ⟨G,H,qJ⟩:∃G H,PT=.slice G x H:=by rw [u];exact t.o.form
    subst qJ;have oV:=ag u;clear u;have ky:=ag (Mt E a0 n0 c0 l0 xU (aJ.o.a j) aK.o aM.o);obtain ⟨S,N⟩:∃S:World->Prop,S=fun wx=>nS B Q Fb Rr X (.slice a n c) (bs E) (.slice a0 n0 c0) (.slice G x H) wx∧True∧True:=⟨_,rfl⟩
    have O:aL S:=by rw [N];exact (nS.keeps _ _ _ _ _ _ _ _ _).and (fun _ _ h _=>h)
    have z:S xU:=by rw [N];exact ⟨jU.o,trivial,trivial⟩
    have ll:=ag (show ∀V,Below B xU V->S V from fun V hz=>by
     rw [N];exact ⟨jU.o.low hz,trivial,trivial⟩)
    rw [N] at O z ll;clear N;go_wp2;skip
    refine rH O 7 (by kernel_rfl) z ?_
    intro F;refine pg [0,1,2] (fuel:=5) (a':=?Na) (by kernel_rfl) (by kernel_rfl) (by kernel_rfl) ?zo F ?Nb
    case zo=>
     iterate 3 (apply Yl.cons rfl (by kernel_rfl);focus (rintro wx ⟨m,P⟩;(have x1:=m.1.2.1.cell);(have x3:=m.1.2.2.2.cell);(have x6:=m.2.2.cell0);(have x7:=m.2.2.cell1);(have T:=P);clear m P;try (obtain ⟨T,x5⟩:=T);go_simp<;>with_reducible rfl);try simp only [az])
     exact Yl.nil
    refine uU (i:=3) (R:=GN xU E n0 l0) rfl (by kernel_rfl) (by rfl) (by go_simp) ky.o ?_
    rintro v7 w7 ⟨a7,c7,rfl,jA,U⟩;have eu:=O _ _ z U;refine ⟨eu, ?_⟩;obtain ⟨g9,c9,I,q,bN,bI⟩:=Eu (t.o.a U) (aC nT U.size) (by have:=pG.o;omega) E (.slice a7 n0 c7) l0 (jA.mono nT);rw [<-oV.o] at q bN;have eF:Below B xU I:=(U.mono nT).trans bI;have K:=ll.o I eF;have nz:=O _ (w7.alloc (.cells #[.string (bs E),.slice a7 n0 c7] 98)) eu (ae);have x9:=K.1.1.2.2.2.cell;have z9:=K.1.1.fz;clear F;have F:=eu;try simp only [az]
    refine lL (i:=4) (v:=.slice (some ⟨w7.heap.size,0,none⟩) 1 1) (w':=w7.alloc (.cells #[.string (bs E),.slice a7 n0 c7] 98)) rfl (by kernel_rfl) (by rfl) (by go_simp) (fun _=>nz) ?_
    try simp only [az]
    refine lL (i:=5) (v:=.slice (some ⟨g9,0,none⟩) (x+1) c9) (w':=I) rfl (by kernel_rfl) (by rfl) (En (v:=.slice G x H) (y:=.slice (some ⟨w7.heap.size,0,none⟩) 1 1) rfl rfl rfl q) (fun _=>K) ?_
    clear F;have F:=K;try simp only [az]
    refine uy (i:=6) (v:=?q5v6) rfl (by kernel_rfl) (by kernel_rfl) (by kernel_rfl) rfl (by kernel_rfl) (by kernel_rfl) (by rfl) ?q5y6 F ?q5r6
    case q5y6=>(rintro wx ⟨m,P⟩;(have x1:=m.1.2.1.cell);(have x3:=m.1.2.2.2.cell);(have x6:=m.2.2.cell0);(have x7:=m.2.2.cell1);(have T:=P);clear m P;try (obtain ⟨T,x5⟩:=T);go_simp<;>with_reducible rfl)
    try simp only [az]
    refine rJ (i:=7) (w':=I.setCell ⟨X,0,none⟩ (.slice (some ⟨g9,0,none⟩) (x+1) c9)) rfl (by kernel_rfl) (by kernel_rfl) (by rfl) (by go_simp) ?_
    try simp only [az]
    refine rM (by kernel_rfl) ?_ _
    refine NoPanic.normal ?_
    obtain ⟨t1,t2,t3⟩:=PS iO.o (j.trans (eF.mono iO.o)) ac.o K.1 bN;have A:=ag t1;have C:=ag (show bJ _ B _ (L++[(E,l0)]) by exact t2);have nG:=ag (show B<=(I.setCell ⟨X,0,none⟩ (.slice (some ⟨g9,0,none⟩) (x+1) c9)).heap.size from aC (aC nT eF.size) (lV _ _ _).size);clear t1 t2 bN bI eF q x9 z9 F eu K nz jA U O z ll jU t j nT oV ky Ab;obtain ⟨EE,hv⟩:∃v:Value,v=.slice (some ⟨g9,0,none⟩) (x+1) c9:=⟨_,rfl⟩;rw [<-hv] at A C nG t3 ⊢;obtain ⟨V,r⟩:=ai (I.setCell ⟨X,0,none⟩ EE);rw [<-r] at A C nG t3 ⊢;have Z:=A;have d:=C;have bC:=t3;have jV:=nG.o;clear r hv A C t3 nG;have vQ:=Z.o.1.2.1.cell;have aw:=Z.o.1.2.1.cell;have PR:=Z.o.1.2.2.2.cell;have hc:=Z.o.1.2.2.1.cell;have hf:=Z.o.1.2.2.1.fz;obtain ⟨x,u⟩:=ai ((L++[(E,l0)]).length)
    obtain ⟨G,H,qJ⟩:∃G H,EE=.slice G x H:=by rw [u];exact d.o.form
    subst qJ;clear u vQ;obtain ⟨z0,hg, -⟩:=Z.o.1.2.2.1.put (.slice G x H);obtain ⟨y,hy⟩:=Z.o.1.2.2.1;have HO:=ag (d.o.keptS hg hy (by decide) (by decide));have jH:=ag (bC.grown hg bC.size (by intro k hk;cases hk;have:=WL.o;omega));clear hy hg;go_wp2;obtain ⟨I,aN⟩:=ai (V.setCell ⟨Rr,0,none⟩ (.slice G x H));rw [<-aN] at z0 HO jH ⊢;try simp only [Exit.inBlock,Exit.then]
    refine bodyPost_ret (v:=.agg #[.slice G x H]) ?_ rfl ⟨_,rfl,by rw [<-ar.o];exact HO.o.mono iO.o,jH.o⟩
    clear aN hc aw PR hf;simp [results,Tryz.results122,go_sem, *]
end Go.Proofs.YthpammbgcidloaaGreat

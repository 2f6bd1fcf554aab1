/-
  Layer 5 in plain words: blocks apart, counted; directories made, deleted, renamed may be.
-/
import Derived.Test.YthilibleedbchaaGreatMathRd
import Derived.Test.YthilibleedbchaaGreatFiFn5
import Derived.Test.YthilibleedbchaaGreatFiKit
set_option maxHeartbeats 2000000
set_option maxRecDepth 100000
namespace Go.Proofs.YthilibleedbchaaGreat
open Go.RowKit
set_option linter.all false
def DirAt (w:World) (q:Nat) (y:Value):Prop:=w.heap[q]? =some (.cells #[y] 30 (0,0))
theorem DirAt.carry {w w':World} {q:Nat} {y:Value} (h:DirAt w q y) (hb:Below w.heap.size w w'):DirAt w' q y:=(hb.block q (Array.getElem?_eq_some_iff.1 h).1).trans h
theorem DirAt.cell {w:World} {q:Nat} {y:Value} (h:DirAt w q y):w.cell? ⟨q,0,none⟩=some y:=by rw [cell_of_row w q 0 _ _ (0,0) h];rfl
theorem DirAt.new (w:World) (y:Value):DirAt (w.alloc (.cells #[y] 30)) w.heap.size y:=heap_alloc_new w _
def okG (fs:List Fl):Prop:=fs.length≤100∧(qas fs).length≤700∧∀f∈fs,f.2.length≤700∧f.1.length≤8000
def grN (f:Fl):Nat:=f.2.length+min f.1.length 100000 / 10
def grS (fs:List Fl):Nat:=(fs.map grN).sum
theorem qtk (fs:List Fl) (k:Nat) (h:k<fs.length):grS (fs.take (k+1))=grS (fs.take k)+(fs[k]).2.length+min (fs[k]).1.length 100000 / 10:=by
 unfold grS;rw [qa0 fs k h,List.map_append,List.sum_append]
 simp only [List.map_cons,List.map_nil,List.sum_cons,List.sum_nil,grN]
 omega
theorem qtl:∀fs:List Fl,(qas fs).length≤grS fs
 | []=>by simp [qas]
 | f::fs=>by
  have:=qtl fs
  simp only [qas,grS,List.flatMap_cons,List.length_append,List.map_cons,List.sum_cons,grN] at this ⊢
  omega
theorem qwx:∀(fs:List Fl) (f:Fl),f∈fs→grN f≤grS fs
 | g::fs,f,h=>by
  simp only [grS,List.map_cons,List.sum_cons]
  rcases List.mem_cons.1 h with rfl | h
  ·omega
  ·have:=qwx fs f h
   unfold grS at this;omega
theorem grS_ok {fs:List Fl} (h1:fs.length≤100) (h:grS fs≤700):okG fs:=by
 refine ⟨h1,Nat.le_trans (qtl fs) h,fun f hf=>?_⟩
 have:=qwx fs f hf
 unfold grN at this;omega
theorem qacj (fs:List Fl) (h:∀f∈fs,f.2.length≤1000000000000000):∀k,grS (fs.take k)≤k*1000000000010000
 | 0=>by simp [grS]
 | k+1=>by
  have ih:=qacj fs h k
  have e:(k+1)*1000000000010000=k*1000000000010000+1000000000010000:=by omega
  rw [e]
  by_cases hk2:k<fs.length
  ·rw [qtk fs k hk2]
   have h2:=h _ (List.getElem_mem hk2)
   have h3:min (fs[k]).1.length 100000 / 10≤10000:=by omega
   omega
  ·have e1:fs.take (k+1)=fs.take k:=by rw [List.take_of_length_le (by omega),List.take_of_length_le (by omega)]
   rw [e1];exact Nat.le_trans ih (Nat.le_add_right _ _)
theorem qml (a:Option Addr) (n c:Nat) (fs:List Fl) (w:World) (hrd:RdF w (.slice a n c) fs) (hn:n=fs.length) (hsz:∀f∈fs,f.2.length≤1000000000000000):
  Calls Tryz.prog 30 #[.agg #[.slice a n c]] w fun e w'=>∃r,e=.returned (.bool r)∧(r=false→okG fs)∧Below w.heap.size w w':=by
 have hm:n≤maxLen:=hn ▸ hrd.len_le;unfold maxLen at hm;have HR:=hide hrd;have HN:=hide hn;have HS:=hide hsz;obtain ⟨W0,hW0⟩:∃W0,W0=w.alloc (.cells #[.slice a n c] 30):=⟨_,rfl⟩
 have hb0:Below w.heap.size w W0:=by rw [hW0];exact (Below.refl _ _).alloc (Nat.le_refl _) _
 have HD0:=hide (show DirAt W0 w.heap.size (.slice a n c) by rw [hW0];exact DirAt.new w _);have HB0:=hide hb0;clear hrd hn hsz hb0
 by_cases g1:100<n
 ·have g1':(100:Int)<n:=by omega
  go_enter Tryz.func30,Tryz.ntmps30
  go_wp2;go_ret;exact ⟨true,rfl,(by intro h;cases h),by rw [←hW0];exact HB0.out⟩
 have g1':decide ((100:Int)<n)=false:=by simpa using (by omega:¬(100:Int)<n)
 go_enter Tryz.func30,Tryz.ntmps30
 go_wp2;rw [←hW0];clear hW0
 go_loopw [3,4] (fun x i wr=>∃k:Nat,k≤n∧x=.int .i64 (grS (fs.take k):Nat)∧i=.int .i64 k∧Below W0.heap.size W0 wr) (fun _ i _=>n - (intOf i).toNat)
 case atStart=>exact ⟨0,Nat.zero_le _,by simp [grS],rfl,Below.refl _ _⟩
 case round=>
  obtain ⟨k,hk,rfl,rfl,hbel⟩:=hrel;have hdir:=(HD0.out.carry hbel).cell;have hbw:Below w.heap.size w wr:=HB0.out.trans (hbel.mono HB0.out.size);have hgl:=qacj fs HS.out k
  by_cases hlt:k<n
  ·have hlt':(k:Int)<n:=by omega
   have hkl:k<fs.length:=by have:=HN.out;omega
   have HT:=hide (qtk fs k hkl);obtain ⟨b,off,a2,c2,rfl,q0,q1,q2⟩:=HR.out.atB hbw k hkl;have hfl:=HS.out _ (List.getElem_mem hkl);obtain ⟨f,hf⟩:∃f,f=fs[k]:=⟨_,rfl⟩;rw [←hf] at q0 q1 HT hfl;clear hf q2;obtain ⟨s,l⟩:=f
   simp only at q0 q1 hfl HT
   obtain ⟨m,hm2⟩:∃m,m=l.length:=⟨_,rfl⟩;rw [←hm2] at q1 hfl HT;clear hm2;have hbs:=qis s;obtain ⟨p,hp⟩:∃p,p=s.length:=⟨_,rfl⟩;rw [←hp] at hbs HT;clear hp;obtain ⟨G,hG⟩:∃G,G=grS (fs.take k):=⟨_,rfl⟩;rw [←hG] at HT hgl ⊢;clear hG
   have hGb:G≤200000000000000000:=by
    have:k*1000000000010000≤100*1000000000010000:=Nat.mul_le_mul_right _ (by omega)
    omega
   clear hgl;have hmin:∃d:Nat,d=min p 100000 / 10∧d≤10000:=⟨_,rfl,by omega⟩;obtain ⟨d,hd,hdb⟩:=hmin;go_wp2
   go_quiet (fail)
   have e:((G:Int)+(m:Int)+(if (100000:Int)<(p:Int) then (100000:Int) else (p:Int)) / 10)=((grS (fs.take (k+1)):Nat):Int):=by
    rw [HT.out];split<;>omega
   rw [e];clear e;obtain ⟨G2,hG2⟩:∃G2,G2=grS (fs.take (k+1)):=⟨_,rfl⟩;rw [←hG2];have HG2:=hide hG2;clear hG2;go_wp2;go_roundw
   case rel=>exact ⟨k+1,by omega,by rw [HG2.out],rfl,below_drewN hbel _⟩
   case measure=>simp only [intOf];omega
  ·have hd:decide ((k:Int)<n)=false:=by simpa using (by omega:¬(k:Int)<n)
   have HE:=hide (show fs.take k=fs by rw [List.take_of_length_le];have:=HN.out;omega);have HL:=hide (show fs.length≤100 by have:=HN.out;omega);rw [HE.out] at hgl ⊢;obtain ⟨G,hG⟩:∃G,G=grS fs:=⟨_,rfl⟩;rw [←hG];have HG:=hide hG;clear hG;go_wp2;go_ret;refine ⟨_,rfl, ?_,hbw⟩;intro h;exact grS_ok HL.out (by have:=HG.out;simp at h;omega)
theorem qpl (s t:List UInt8) (a1:Option Addr) (n1 c1:Nat) (a2:Option Addr) (n2 c2:Nat) (l k:List Ex) (w:World) (h1:RdE w (.slice a1 n1 c1) l) (hn1:n1=l.length) (h2:RdE w (.slice a2 n2 c2) k) (hn2:n2=k.length):
  Calls Tryz.prog 122 #[.agg #[.string (bs s),.slice a1 n1 c1],.agg #[.string (bs t),.slice a2 n2 c2]] w fun e w'=>e=.returned (.bool (decide ((s,l)=(t,k))))∧Below w.heap.size w w':=by
 obtain ⟨W0,hW0⟩:∃W0,W0=(w.alloc (.cells #[.string (bs s),.slice a1 n1 c1] 75)).alloc (.cells #[.string (bs t),.slice a2 n2 c2] 75):=⟨_,rfl⟩
 have hb0:Below w.heap.size w W0:=by rw [hW0];exact ((Below.refl _ _).alloc (Nat.le_refl _) _).alloc (by simp) _
 have hsm:=qaae a1 a2 n1 c1 n2 c2 l k W0 (h1.carry hb0) (h2.carry hb0) hn1 hn2;have HB0:=hide hb0;clear h1 hn1 h2 hn2 hb0
 by_cases e:s=t
 ·have x1:((bs s).toList==(bs t).toList)=true:=by rw [qe2,e];simp
  have HE:=hide (show decide ((s,l)=(t,k))=decide (l=k) by simp [e]);clear e
  go_enter Tryz.func122,Tryz.ntmps122
  go_wp2_with fail
  rw [←hW0]
  refine hsm.mono ?_
  rintro e w1 ⟨rfl,hb1⟩;have HB1:=bT HB0 hb1;clear hsm hb1 hW0;obtain ⟨r,hr⟩:∃r,r=decide (l=k):=⟨_,rfl⟩;rw [←hr] at HE ⊢;clear hr;go_wp2;go_ret;exact ⟨by rw [HE.out];rfl,HB1.out⟩
 ·have x1:((bs s).toList==(bs t).toList)=false:=by rw [qe2];simpa using e
  have HE:=hide (show decide ((s,l)=(t,k))=false by simp [e]);clear e hsm
  go_enter Tryz.func122,Tryz.ntmps122
  go_wp2;go_ret;exact ⟨by rw [HE.out];rfl,by rw [←hW0];exact HB0.out⟩
theorem qnt (a:Option Addr) (n c:Nat) (fs:List Fl) (a':Option Addr) (m c':Nat) (gs:List Fl) (w:World) (h1:RdF w (.slice a n c) fs) (hn:n=fs.length) (h2:RdF w (.slice a' m c') gs) (hm:m=gs.length):
  Calls Tryz.prog 62 #[.agg #[.slice a n c],.agg #[.slice a' m c']] w fun e w'=>e=.returned (.bool (decide (fs=gs)))∧Below w.heap.size w w':=by
 have hnb:n≤maxLen:=hn ▸ h1.len_le;unfold maxLen at hnb;have H1:=hide h1;have H2:=hide h2;have HN:=hide hn;have HM:=hide hm;obtain ⟨W0,hW0⟩:∃W0,W0=(w.alloc (.cells #[.slice a n c] 30)).alloc (.cells #[.slice a' m c'] 30):=⟨_,rfl⟩;have hb1:Below w.heap.size w (w.alloc (.cells #[.slice a n c] 30)):=(Below.refl _ _).alloc (Nat.le_refl _) _
 have hb0:Below w.heap.size w W0:=by rw [hW0];exact hb1.alloc (by simp) _
 have HD0:=hide (show DirAt W0 w.heap.size (.slice a n c) by
  rw [hW0]
  exact (DirAt.new w (.slice a n c)).carry ((Below.refl _ _).alloc (Nat.le_refl _) _))
 have HE0:=hide (show DirAt W0 (w.heap.size+1) (.slice a' m c') by
  have:=DirAt.new (w.alloc (.cells #[.slice a n c] 30)) (.slice a' m c')
  rw [hW0];simpa using this)
 have HB0:=hide hb0;clear h1 h2 hn hm hb0 hb1
 by_cases g1:n=m
 ·subst g1
  go_enter Tryz.func62,Tryz.ntmps62
  go_wp2;rw [←hW0];clear hW0
  go_loopw [5] (fun i wr=>∃k:Nat,k≤n∧i=.int .i64 k∧Hid (fs.take k=gs.take k)∧Below W0.heap.size W0 wr) (fun i _=>n - (intOf i).toNat)
  case atStart=>exact ⟨0,Nat.zero_le _,rfl,hide rfl,Below.refl _ _⟩
  case round=>
   obtain ⟨k,hk,rfl,hall,hbel⟩:=hrel;have hdir:=(HD0.out.carry hbel).cell;have hdir2:=(HE0.out.carry hbel).cell;have hbw:Below w.heap.size w wr:=HB0.out.trans (hbel.mono HB0.out.size)
   by_cases hlt:k<n
   ·have hlt':(k:Int)<n:=by omega
    have hkl:k<fs.length:=by have:=HN.out;omega
    have hkg:k<gs.length:=by have:=HM.out;omega
    have HT:=hide (qa0 fs k hkl);have HU:=hide (qa0 gs k hkg);obtain ⟨b,off,a2,c2,rfl,q0,q1,q2⟩:=H1.out.atB hbw k hkl;obtain ⟨b',off',a3,c3,rfl,p0,p1,p2⟩:=H2.out.atB hbw k hkg
    have HX:=hide (show fs[k]≠gs[k]→decide (fs=gs)=false by
     intro h
     simp only [decide_eq_false_iff_not]
     rintro rfl
     exact h rfl)
    obtain ⟨f,hf⟩:∃f,f=fs[k]:=⟨_,rfl⟩;obtain ⟨g,hg⟩:∃g,g=gs[k]:=⟨_,rfl⟩;rw [←hf] at q0 q1 q2 HT HX;rw [←hg] at p0 p1 p2 HU HX;clear hf hg;obtain ⟨s,l⟩:=f;obtain ⟨t,l'⟩:=g
    simp only at q0 q1 q2 p0 p1 p2
    obtain ⟨m1,hm1⟩:∃m1,m1=l.length:=⟨_,rfl⟩;obtain ⟨m2,hm2⟩:∃m2,m2=l'.length:=⟨_,rfl⟩;rw [←hm1] at q1 q2;rw [←hm2] at p1 p2
    have hsf:=fun wx (hbx:Below w.heap.size w wx)=>qpl s t a2 m1 c2 a3 m2 c3 l l' wx (q2.carry hbx) hm1 (p2.carry hbx) hm2
    obtain ⟨r,hr⟩:∃r,r=decide ((s,l)=(t,l')):=⟨_,rfl⟩
    simp only [←hr] at hsf
    have HR:=hide hr;have HSF:=hide hsf;clear hm1 hm2 q2 p2 hsf hr
    obtain ⟨S,eS⟩:∃S:World→Prop,S=fun wx=>(wx.cell? ⟨w.heap.size,0,none⟩=some (.slice (some ⟨b,off,none⟩) n c)∧wx.cell? ⟨w.heap.size+1,0,none⟩=some (.slice (some ⟨b',off',none⟩) n c'))∧(wx.cell? ⟨b,off+k*2,none⟩=some (.string (bs s))∧wx.cell? ⟨b,off+k*2+1,none⟩=some (.slice a2 m1 c2))∧wx.cell? ⟨b',off'+k*2,none⟩=some (.string (bs t))∧wx.cell? ⟨b',off'+k*2+1,none⟩=some (.slice a3 m2 c3):=⟨_,rfl⟩
    have hS0:S wr:=by rw [eS];exact ⟨⟨hdir,hdir2⟩,⟨q0,q1⟩,p0,p1⟩
    have hK:Keeps S:=by rw [eS];exact ((qaa _ _).and (qaa _ _)).and (((qaa _ _).and (qaa _ _)).and ((qaa _ _).and (qaa _ _)))
    go_wp2;rw [eS] at hK hS0;have HKS:=hide hK;clear eS hdir hdir2 q0 q1 p0 p1
    refine qaj hK (by kernel_rfl) hS0 ?_
    intro hS
    refine qah [0,1,2,3,4,5,6,7,8,9] (fuel:=2) (a':=?qa1) (by kernel_rfl) (by kernel_rfl) (by kernel_rfl) ?qp1 hS ?qn1
    case qp1=>
     iterate 10 (apply Yl.cons rfl rfl;focus (rintro wx ⟨⟨x1,x2⟩,⟨x3,x4⟩,x5,x6⟩;go_simp;all_goals (with_reducible rfl));try simp only [Act.put,sA,sB,sC])
     exact Yl.nil
    try simp only [Act.put,sA,sB,sC]
    refine qat (i:=10) (R:=fun v wx=>v=.bool r∧Below wr.heap.size wr wx) rfl (by kernel_rfl) (by rfl) (by go_simp) ((HSF.out wr.drew hbw.drew).mono fun e wx ⟨h1,h2⟩=>⟨_,h1,rfl,((Below.refl wr.heap.size wr).drew).trans h2⟩) ?_
    rintro v30 w30 ⟨rfl,hb30⟩;refine ⟨HKS.out _ _ hS0 hb30, ?_⟩;have hS30:=HKS.out _ _ hS0 hb30;have hb30':Below W0.heap.size W0 w30:=hbel.trans (hb30.mono hbel.size)
    try simp only [Act.put,sA,sB,sC]
    refine qah [11] (fuel:=0) (a':=?qa2) (by kernel_rfl) (by kernel_rfl) (by kernel_rfl) ?qp2 hS30 ?qn2
    case qp2=>
     iterate 1 (apply Yl.cons rfl rfl;focus (rintro wx ⟨⟨x1,x2⟩,⟨x3,x4⟩,x5,x6⟩;go_simp;all_goals (with_reducible rfl));try simp only [Act.put,sA,sB,sC])
     exact Yl.nil
    try simp only [Act.put,sA,sB,sC]
    refine wpAnyH_done (by kernel_rfl) ?_ _
    refine NoPanic.normal ?_
    clear hS30 hS hK hS0 HKS hb30
    cases r with
    | true=>
     have e:(s,l)=(t,l'):=by have:=HR.out;simpa using this.symm
     have HA:=hide (show fs.take (k+1)=gs.take (k+1) by rw [HT.out,HU.out,hall.out,e]);clear e;go_wp2;go_roundw
     case rel=>exact ⟨k+1,by omega,rfl,HA,hb30'⟩
     case measure=>simp only [intOf];omega
    | false=>
     have HA:=hide (HX.out (by have:=HR.out;exact of_decide_eq_false this.symm));go_wp2;go_ret;exact ⟨by rw [HA.out];rfl,HB0.out.trans (hb30'.mono HB0.out.size)⟩
   ·have hd:decide ((k:Int)<n)=false:=by simpa using (by omega:¬(k:Int)<n)
    have HA:=hide (show decide (fs=gs)=true by
     have h:=hall.out;rw [List.take_of_length_le (by have:=HN.out;omega),List.take_of_length_le (by have:=HM.out;omega)] at h
     simpa using h)
    go_wp2;go_ret;exact ⟨by rw [HA.out];rfl,hbw⟩
 ·have HA:=hide (show decide (fs=gs)=false by
   simp only [decide_eq_false_iff_not]
   rintro rfl
   exact g1 (HN.out.trans HM.out.symm))
  have g1':((n:Int)==(m:Int))=false:=by simp;omega
  go_enter Tryz.func62,Tryz.ntmps62
  go_wp2
  all_goals (go_ret;exact ⟨by rw [HA.out];rfl,by rw [←hW0];exact HB0.out⟩)
/-! ### counting blocks -/
/-! ### extents that may be -/
theorem extP_parts {l:List Ex} {b:Int}:extP l b↔(apX l=true∧allX l=0∧∀x∈l,34≤x.1∧x.1+x.2≤b):=by
 unfold extP
 constructor
 ·rintro ⟨h,k⟩
  obtain ⟨h1,h2⟩:=qwg h;exact ⟨h2,h1,k⟩
 ·rintro ⟨h1,h2,h3⟩
  exact ⟨qkf h2 h1,h3⟩
theorem qnu {l:List Ex} {b:Int} (h:extP l b):∀x∈l,34≤x.1∧1≤x.2∧x.1+x.2≤b:=by
 intro x hx;obtain ⟨_,h2,h3⟩:=extP_parts.1 h
 have:=(qe6 h2).2 x hx
 have:=h3 x hx
 omega
theorem qad1 {l:List Ex} {b c:Int} (h:extP l b) (hbc:b≤c):extP l c:=⟨h.1,fun x hx=>by have:=h.2 x hx;omega⟩
theorem qad2 {fs:List Fl} {b c:Int} (h:mayF fs b) (hbc:b≤c):mayF fs c:=⟨h.1,h.2.1,qad1 h.2.2.1 hbc,h.2.2.2⟩
theorem qet {fs:List Fl} {b:Int} (h:chkF fs b=0):blkP b∧mayF fs b:=by
 unfold chkF at h
 by_cases h1:blkP b
 ·rw [if_neg (by simpa using h1)] at h
  by_cases h2:mayF fs b
  ·exact ⟨h1,h2⟩
  ·rw [if_neg h2] at h;omega
 ·rw [if_pos h1] at h;omega
theorem qnv {fs:List Fl} {b:Int} (h1:blkP b) (h2:mayF fs b):chkF fs b=0:=by
 unfold chkF;rw [if_neg (by simpa using h1),if_pos h2]
theorem qaan:blkP 4096:=⟨by omega,by omega⟩
theorem qjw {fs:List Fl} {b:Int} (h:chkF fs b=0):chkF fs 4096=0:=by
 obtain ⟨h1,h2⟩:=qet h;exact qnv qaan (qad2 h2 h1.2)
/-! ### FilesApart -/
theorem qaao {a b:Int} {l:List Ex} {w:Int} (h:qdd a b l w=0):qdb a b l=0∧1≤w∧∃r,cutX (qcz a b l) w=some r∧qde a b l w=r:=by
 by_cases h1:qdb a b l=0
 ·by_cases h2:w<1∨4096<w
  ·rw [(qfc h1 h2).1] at h;omega
  ·have h3:1≤w:=by omega
   have h4:w≤4096:=by omega
   cases hc:cutX (qcz a b l) w with
   | none=>rw [(qmb h1 h3 h4 hc).1] at h;omega
   | some r=>exact ⟨h1,h3,r,rfl,(qma h1 h3 h4 hc).2⟩
 ·rw [(qiw h1).1] at h;exact absurd h h1
/-! ### FilesFind -/
theorem qi1 (fs:List Fl) (s:List UInt8):isF fs s=true↔∃l,(s,l)∈fs:=by
 unfold isF;rw [List.any_eq_true]
 constructor
 ·rintro ⟨f,hf,e⟩
  obtain ⟨f1,f2⟩:=f
  have e:f1=s:=by simpa using e
  subst e;exact ⟨f2,hf⟩
 ·rintro ⟨l,hl⟩
  exact ⟨_,hl,by simp⟩
theorem qwy {fs:List Fl} {s:List UInt8} (h:isF fs s=false):∀f∈fs,f.1≠s:=by
 intro f hf e
 have:isF fs s=true:=(qi1 fs s).2 ⟨f.2,by rw [←e];exact hf⟩
 rw [h] at this;cases this
theorem qnw {fs:List Fl} (hr:qcs fs) {s:List UInt8} {l:List Ex} (h:(s,l)∈fs):getF fs s=l:=by
 obtain ⟨t,ht,e⟩:=List.mem_iff_getElem.1 h;rw [qnn hr ht (by rw [e]),e]
theorem qnx {fs:List Fl} (hr:qcs fs) {s:List UInt8} (h:isF fs s=true):(s,getF fs s)∈fs:=by
 obtain ⟨l,hl⟩:=(qi1 fs s).1 h
 rw [qnw hr hl];exact hl
theorem qny (fs:List Fl) (f:Fl):(insF fs f).Perm (f::fs):=by
 unfold insF
 refine List.perm_middle.trans ?_
 rw [List.take_append_drop]
theorem ins_mem {fs:List Fl} {f g:Fl}:g∈insF fs f↔g=f∨g∈fs:=by
 rw [(qny fs f).mem_iff,List.mem_cons]
theorem qry (fs:List Fl) (f:Fl):(insF fs f).length=fs.length+1:=by rw [(qny fs f).length_eq,List.length_cons]
theorem qtm {fs:List Fl} (hr:qcs fs) {f:Fl} (h:isF fs f.1=false):qcs (insF fs f):=by
 have hlt:=qnm hr f.1;have hne:=qwy h;have e:fs=fs.take (posF fs f.1)++fs.drop (posF fs f.1):=(List.take_append_drop _ fs).symm;have hr':=hr;rw [e] at hr';unfold qcs at hr';rw [List.pairwise_append] at hr';unfold qcs insF;rw [List.pairwise_append,List.pairwise_cons]
 have hb:∀a∈fs.take (posF fs f.1),ltN a.1 f.1=true:=by
  intro a ha;obtain ⟨t,ht,rfl⟩:=List.mem_iff_getElem.1 ha;rw [List.length_take] at ht;rw [List.getElem_take];exact (hlt t (by omega)).1 (by omega)
 refine ⟨hr'.1,⟨?_,hr'.2.1⟩, ?_⟩
 ·intro g hg
  obtain ⟨t,ht,rfl⟩:=List.mem_iff_getElem.1 hg;rw [List.length_drop] at ht;rw [List.getElem_drop];refine qf8 _ _ ((hlt _ (by omega)).2 (by omega)) (hne _ (List.getElem_mem _))
 ·intro a ha g hg
  rcases List.mem_cons.1 hg with rfl | hg
  ·exact hb a ha
  ·exact hr'.2.2 a ha g hg
theorem qpm {fs gs:List Fl} (h:fs.Perm gs):(qas fs).Perm (qas gs):=List.Perm.flatMap_right _ h
theorem qack (l:List Ex):apX l=true↔l.Pairwise fun x y=>qe0 x y=false:=by
 induction hn:l.length generalizing l with
 | zero=>
  obtain rfl:=List.eq_nil_of_length_eq_zero hn
  simp [apX]
 | succ n ih=>
  rcases List.eq_nil_or_concat l with rfl | ⟨r,x,rfl⟩
  ·simp at hn
  ·rw [List.concat_eq_append] at hn ⊢
   rw [qhu,List.pairwise_append,Bool.and_eq_true,ih r (by simpa using hn),List.all_eq_true]
   simp only [List.pairwise_cons,List.not_mem_nil,false_implies,implies_true,List.Pairwise.nil,and_self,true_and,List.mem_singleton,forall_eq]
   refine and_congr_right fun _=>forall_congr' fun y=>forall_congr' fun _=>?_
   rw [ql6 x y]
   cases qe0 y x<;>simp
theorem qaap {l m:List Ex} (h:l.Perm m) (hl:apX l=true):apX m=true:=by
 rw [qack] at hl ⊢;exact (h.pairwise_iff (fun {a b} hab=>by rw [ql6];exact hab)).1 hl
theorem qkq {l m:List Ex} {b:Int} (h:l.Perm m) (hl:extP l b):extP m b:=by
 obtain ⟨h1,h2,h3⟩:=extP_parts.1 hl;refine extP_parts.2 ⟨qaap h h1, ?_,fun x hx=>h3 x (h.mem_iff.2 hx)⟩;obtain ⟨k1,k2⟩:=qe6 h2
 exact qnh (by rw [←h.length_eq];exact k1) fun x hx=>k2 x (h.mem_iff.2 hx)
theorem qtn {l m:List Ex} {b:Int} (h:l.Sublist m) (hm:extP m b):extP l b:=by
 obtain ⟨h1,h2,h3⟩:=extP_parts.1 hm;obtain ⟨k1,k2⟩:=qe6 h2;refine extP_parts.2 ⟨?_,qnh (Nat.le_trans h.length_le k1) fun x hx=>k2 x (h.subset hx),fun x hx=>h3 x (h.subset hx)⟩;rw [qack] at h1 ⊢;exact h1.sublist h
theorem qnz {fs gs:List Fl} (h:fs.Sublist gs):(qas fs).Sublist (qas gs):=by
 unfold qas
 induction h with
 | slnil=>exact List.Sublist.refl _
 | cons a _ ih=>rw [List.flatMap_cons];exact ih.trans (List.sublist_append_right _ _)
 | cons_cons a _ ih=>rw [List.flatMap_cons,List.flatMap_cons];exact (List.Sublist.refl _).append ih
theorem qhk {a b:Nat} (h:a≤b):(sm a).length≤(sm b).length:=by
 induction b using Nat.strongRecOn generalizing a with
 | ind b ih=>
  rcases Nat.lt_or_ge a 128 with ha | ha
  ·rw [qot ha];exact qwa b
  ·rw [qou ha,qou (by omega:128≤b),List.length_cons,List.length_cons]
   have:=ih (b / 128) (by omega) (a:=a / 128) (by omega)
   omega
theorem qad3 {fs gs:List Fl} (h:fs.Sublist gs):(bytF fs).length≤(bytF gs).length:=by
 unfold bytF;rw [List.length_append,List.length_append];have h1:=qhk h.length_le
 have h2:(fs.flatMap qcm).length≤(gs.flatMap qcm).length:=by
  induction h with
  | slnil=>exact Nat.le_refl _
  | cons a h ih=>rw [List.flatMap_cons,List.length_append];have:=ih (qhk h.length_le);omega
  | cons_cons a h ih=>rw [List.flatMap_cons,List.flatMap_cons,List.length_append,List.length_append];have:=ih (qhk h.length_le);omega
 omega
theorem qaaq {fs gs:List Fl} {b:Int} (h:fs.Sublist gs) (hg:mayF gs b):mayF fs b:=by
 refine ⟨Nat.le_trans h.length_le hg.1,⟨fun f hf=>hg.2.1.1 f (h.subset hf),hg.2.1.2.sublist h⟩,qtn (qnz h) hg.2.2.1,Nat.le_trans (qad3 h) hg.2.2.2⟩
theorem qdt (fs:List Fl) (s:List UInt8):(delF fs s).Sublist fs:=List.filter_sublist
theorem qwz (fs:List Fl) (s:List UInt8):isF (delF fs s) s=false:=by
 unfold isF delF;rw [List.any_eq_false];intro f hf
 have:=(List.mem_filter.1 hf).2
 simpa using this
theorem qad4 {fs gs:List Fl} (h:fs.Sublist gs) {s:List UInt8} (hg:isF gs s=false):isF fs s=false:=by
 cases e:isF fs s with
 | false=>rfl
 | true=>
  obtain ⟨l,hl⟩:=(qi1 _ _).1 e
  have:=(qi1 gs s).2 ⟨l,h.subset hl⟩
  rw [hg] at this;cases this
theorem qw0 {fs:List Fl} (h:fitE fs=0):(bytF fs).length≤2048:=by
 unfold fitE at h
 split at h
 ·assumption
 ·omega
theorem qmm {fs:List Fl} {s:List UInt8} {l:List Ex} {b:Int} (h:qap fs s l b=0):chkF fs b=0∧qbv s=true∧isF fs s=false∧l≠[]∧extP (qas fs++l) b∧fs.length≠40∧l.length≤64∧(bytF (insF fs (s,l))).length≤2048:=by
 unfold qap at h
 by_cases h1:chkF fs b=0
 ·rw [if_neg (by simpa using h1)] at h
  cases h2:qbv s with
  | false=>rw [if_pos h2] at h;omega
  | true=>
   rw [if_neg (by simp [h2])] at h
   cases h3:isF fs s with
   | true=>rw [if_pos h3] at h;omega
   | false=>
    rw [if_neg (by simp [h3])] at h
    by_cases h4:l=[]∨¬extP (qas fs++l) b
    ·rw [if_pos h4] at h;omega
    ·rw [if_neg h4] at h
     by_cases h5:fs.length=40∨64<l.length
     ·rw [if_pos h5] at h;omega
     ·rw [if_neg h5] at h
      refine ⟨h1,rfl,rfl,fun e=>h4 (.inl e), ?_,fun e=>h5 (.inl e),by omega,qw0 h⟩
      by_cases h6:extP (qas fs++l) b
      ·exact h6
      ·exact absurd (.inr h6) h4
 ·rw [if_pos h1] at h;exact absurd h h1
theorem qto (fs:List Fl) (f:Fl):(qas (insF fs f)).Perm (qas fs++f.2):=by
 refine (qpm (qny fs f)).trans ?_
 unfold qas;rw [List.flatMap_cons];exact List.perm_append_comm
theorem qrz {fs:List Fl} {s:List UInt8} {l:List Ex} {b:Int} (h:qap fs s l b=0):mayF (insF fs (s,l)) b:=by
 obtain ⟨h1,h2,h3,h4,h5,h6,h7,h8⟩:=qmm h;obtain ⟨g1,g2⟩:=qet h1;refine ⟨?_,⟨?_,qtm g2.2.1.2 h3⟩,qkq (qto fs (s,l)).symm h5,h8⟩
 ·rw [qry];have:=g2.1;omega
 ·intro f hf
  rcases ins_mem.1 hf with rfl | hf
  ·simp only [oneF,Bool.and_eq_true,decide_eq_true_eq]
   refine ⟨⟨h2, ?_⟩,h7⟩
   cases l with
   | nil=>exact absurd rfl h4
   | cons _ _=>simp
  ·exact g2.2.1.1 f hf
theorem qw1 {fs:List Fl} {s:List UInt8} {b:Int} (h:chkF fs b=0) (h1:qbv s=true) (h2:isF fs s=true):qav fs s=0∧qfp fs s=(s,getF fs s):=by
 have e:qav fs s=0:=by
  unfold qav;rw [if_neg (by simpa using qjw h),if_neg (by simp [h1]),if_pos h2]
 exact ⟨e,by unfold qfp;rw [if_pos e]⟩
theorem qu8 {fs:List Fl} {s:List UInt8} {b:Int} (h:chkF fs b=0) (h1:qbv s=true) (h2:isF fs s=false):qav fs s=6:=by
 unfold qav;rw [if_neg (by simpa using qjw h),if_neg (by simp [h1]),if_neg (by simp [h2])]
theorem qu9 {fs:List Fl} {s:List UInt8} (h:qav fs s=0):chkF fs 4096=0∧qbv s=true∧isF fs s=true:=by
 unfold qav at h
 by_cases h1:chkF fs 4096=0
 ·rw [if_neg (by simpa using h1)] at h
  cases h2:qbv s with
  | false=>rw [if_pos h2] at h;omega
  | true=>
   rw [if_neg (by simp [h2])] at h
   cases h3:isF fs s with
   | true=>exact ⟨h1,rfl,rfl⟩
   | false=>rw [if_neg (by simp [h3])] at h;omega
 ·rw [if_pos h1] at h;exact absurd h h1
theorem qkr {fs:List Fl} {s t:List UInt8} (h:qay fs s t=0):chkF fs 4096=0∧qbv s=true∧qbv t=true∧isF fs s=true∧(bytF (renF fs s t)).length≤2048:=by
 unfold qay at h
 by_cases h1:chkF fs 4096=0
 ·rw [if_neg (by simpa using h1)] at h
  by_cases h2:qbv s=false∨qbv t=false
  ·rw [if_pos h2] at h;omega
  ·rw [if_neg h2] at h
   cases h3:isF fs s with
   | false=>rw [if_neg (by simp [h3])] at h;omega
   | true=>
    rw [if_pos h3] at h
    simp at h2
    exact ⟨h1,h2.1,h2.2,rfl,qw0 h⟩
 ·rw [if_pos h1] at h;exact absurd h h1
theorem qaar {fs:List Fl} (hr:qcs fs) {s:List UInt8} (h:isF fs s=true):fs.Perm ((s,getF fs s)::delF fs s):=by
 induction fs with
 | nil=>simp [isF] at h
 | cons f r ih=>
  have hr':qcs r:=(List.pairwise_cons.1 hr).2;have hf:=(List.pairwise_cons.1 hr).1
  by_cases e:f.1=s
  ·have hg:getF (f::r) s=f.2:=qnw hr (by subst e;exact List.mem_cons_self ..)
   have hd:delF (f::r) s=r:=by
    unfold delF;rw [List.filter_cons_of_neg (by simp [e])];rw [List.filter_eq_self];intro g hg
    have:=qs9 (hf g hg)
    rw [e] at this
    simp [Ne.symm this]
   rw [hg,hd];subst e;exact List.Perm.refl _
  ·have h':isF r s=true:=by
    unfold isF at h ⊢;rw [List.any_cons] at h
    simpa [e] using h
   have hg:getF (f::r) s=getF r s:=by
    have:=qnx hr' h'
    exact qnw hr (List.mem_cons_of_mem _ this)
   have hd:delF (f::r) s=f::delF r s:=by
    unfold delF;rw [List.filter_cons_of_pos (by simp [e])]
   rw [hg,hd];exact ((ih hr' h').cons f).trans (List.Perm.swap _ _ _)
theorem qr0 {fs:List Fl} {s t:List UInt8} {b:Int} (hb:mayF fs b) (h:qay fs s t=0):mayF (renF fs s t) b:=by
 obtain ⟨h1,h2,h3,h4,h5⟩:=qkr h;have hr:=hb.2.1.2;have hp:=qaar hr h4;have hsub:(delF (delF fs s) t).Sublist (delF fs s):=qdt _ _;refine ⟨?_,⟨?_,qtm (qff (qff hr s) t) (qwz _ _)⟩, ?_,h5⟩
 ·unfold renF
  rw [qry];have e1:=hp.length_eq;rw [List.length_cons] at e1;have e2:=hsub.length_le
  have:=hb.1
  omega
 ·intro f hf
  rcases ins_mem.1 hf with rfl | hf
  ·have:=hb.2.1.1 _ (qnx hr h4)
   simp only [oneF,Bool.and_eq_true] at this ⊢
   exact ⟨⟨h3,this.1.2⟩,this.2⟩
  ·exact hb.2.1.1 f ((qdt fs s).subset (hsub.subset hf))
 ·have e1:=qto (delF (delF fs s) t) (t,getF fs s)
  have e2:(qas fs).Perm (qas (delF fs s)++getF fs s):=(qpm hp).trans (by unfold qas;rw [List.flatMap_cons];exact List.perm_append_comm);have e3:=qkq e2 hb.2.2.1;exact qkq e1.symm (qtn ((qnz hsub).append (List.Sublist.refl _)) e3)
theorem qacl {fs:List Fl} (h:∀f∈fs,∀x∈f.2,wfX x) {f:Fl} (hf:∀x∈f.2,wfX x):∀g∈insF fs f,∀x∈g.2,wfX x:=by
 intro g hg
 rcases ins_mem.1 hg with rfl | hg
 ·exact hf
 ·exact h g hg
theorem qw2 {fs:List Fl} (h:∀f∈fs,∀x∈f.2,wfX x) (s:List UInt8):∀g∈delF fs s,∀x∈g.2,wfX x:=fun g hg=>h g ((qdt fs s).subset hg)
theorem wf_ren {fs:List Fl} (h:∀f∈fs,∀x∈f.2,wfX x) (s t:List UInt8):∀g∈renF fs s t,∀x∈g.2,wfX x:=by
 refine qacl (qw2 (qw2 h s) t) ?_
 show ∀x∈getF fs s,wfX x
 unfold getF;intro x hx
 cases e:fs.find? (fun f=>f.1==s) with
 | none=>rw [e] at hx;simp at hx
 | some f=>rw [e] at hx;exact h f (List.mem_of_find?_eq_some e) x (by simpa using hx)
end Go.Proofs.YthilibleedbchaaGreat

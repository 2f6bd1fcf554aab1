/-
  Of the document's side of layer 5: Find, Delete, Used, Create.
-/
import Derived.Test.YthpammbgcidloaaGreatFiRef5
set_option maxHeartbeats 8000000
set_option maxRecDepth 100000
namespace Go.Proofs.YthpammbgcidloaaGreat
open Go.RowKit
set_option linter.all false
theorem qup {w:World} {base:Nat} {v:Value} {l:ak} (h:jq w base v l):∃a c,v=.slice a l.length c:=by
 rcases h.2 with ⟨rfl,b⟩ | ⟨g,cap,d,rfl,_⟩
 ·exact ⟨none,0,by rw [b]⟩
 ·exact ⟨_,_,rfl⟩
theorem PX {fs:List Fl} {B:Int} (hb:fq B) (h:¬eD fs B):bA fs B=8:=by unfold bA;rw [if_neg (by simpa using hb),if_neg h]
theorem WM (a:au) (n c:Nat) (fs:List Fl) (B:Int) (w:World) (O:RdF w (.slice a n c) fs) (hn:n=fs.length) (X:wfFs fs):
  Calls Tryz.prog 62 #[.agg #[.slice a n c],.int .i64 B] w fun e w'=>e=.returned (.int .i64 (bA fs B))∧ah w w':=by
 have hm:n<=maxLen:=hn ▸ O.len_le;unfold maxLen at hm;have HR:=ag O;have S:=ag hn;have HW:=ag X;obtain ⟨W0,x⟩:=ai (w.alloc (.cells #[.slice a n c] 30));have Y:ah w W0:=by rw [x];exact ae
 have Z:=ag (show bG W0 w.heap.size (.slice a n c) by rw [x];exact bG.new w _);have C:=ag Y;have y:=qke B W0;clear O hn X Y;by_cases T:fq B
 case neg=>
  have q:=ag (show bA fs B=2 by unfold bA;rw [if_pos T]);rw [decide_eq_false T] at y;clear T;go_enter Tryz.func62,Tryz.ntmps62;go_wp2_with fail
  rw [<-x];clear x;refine y.mono ?_
  rintro e w1 ⟨rfl,b1⟩;clear y;go_wp2;go_ret;exact ⟨by rw [q.o];rfl,C.o.trans (b1.mono C.o.size)⟩
 rw [decide_eq_true T] at y;have U:=ag T;clear T;go_enter Tryz.func62,Tryz.ntmps62;go_wp2_with fail
 rw [<-x];clear x;refine y.mono ?_
 rintro e w1 ⟨rfl,b1⟩;clear y;have P:=bT C b1;have D:=ag (Z.o.a b1);have d1:=D.o.cell;clear b1 C Z;by_cases g2:40<n
 ·have al:(40:Int)<n:=by omega
  have q:=ag (show bA fs B=8 from PX U.o (fun h=>by have:=h.1;have:=S.o;omega));go_wp2;go_ret;exact ⟨by rw [q.o];rfl,P.o⟩
 have al:decide ((40:Int)<n)=false:=aA (by omega);go_wp2;go_loopw [5] (fun i wr=>∃k:Nat,k<=n∧i=.int .i64 k∧af (oP (fs.take k))∧ah w1 wr) (fun i _=>n - (intOf i).toNat)
 case atStart=>exact ⟨0,Nat.zero_le _,rfl,ag (by simpa using qrs),aB⟩
 case round=>
  obtain ⟨k,hk,rfl,jr,t⟩:=hrel;have z:ah w wr:=P.o.trans (t.mono P.o.size);have Ms:=(D.o.a t).cell;clear d1;by_cases ax:k<n
  ·have av:(k:Int)<n:=by omega
   have E:k<fs.length:=by have:=S.o;omega
   have ay:wrap64 ((k:Int)+1)=(k:Int)+1:=vo (by omega);have G:=ag (fun h1 h2=>Z6 E jr.o h1 h2);have V:=ag (fun (h:jb fs[k]=false)=>PX U.o (fun h':eD fs B=>VR E h h'.2.1));obtain ⟨b,am,a2,c2,rfl,q0,q1,q2⟩:=HR.o.atB z k E;clear q2;obtain ⟨w2,d⟩:=ai (wr.alloc (.cells #[.string (bs (fs[k]).1),.slice a2 (fs[k]).2.length c2] 98));have aa:ah wr w2:=by rw [d];exact ae
   have A:aQ w2 wr.heap.size (bs (fs[k]).1) (.slice a2 (fs[k]).2.length c2):=by rw [d];exact aQ.new wr _ _
   have aT:ah w1 w2:=t.trans (aa.mono t.size);have g:ah w w2:=z.trans (aa.mono z.size);have CV:=(D.o.a aT).cell;have r0:=A.cell0;have r1:=A.cell1;have Q:=ag (show ∀j,(hj:j+1=k)->∃s,w2.cell? ⟨b,am+j*2,none⟩=some (.string (bs s))∧s=(fs[j]).1 from fun j hj=>by
    obtain ⟨b',aw,a',c',e',z0, -⟩:=HR.o.atB g j (by omega);cases e';exact ⟨_,z0,rfl⟩)
   have H:=ag (show ∀j,(hj:j+1=k)->ek (fs[j]).1 (fs[k]).1=false->bA fs B=8 from fun j hj h=>by
    subst hj;exact PX U.o (fun h':eD fs B=>qny E h h'.2.1))
   obtain ⟨F,u⟩:=ai wr.heap.size;rw [<-u] at r0 r1;obtain ⟨f,hf⟩:=ai (fs[k]);rw [<-hf] at q0 q1 r0 r1 G V H d;clear hf A;obtain ⟨s,l⟩:=f;simp only at q0 q1 r0 r1 G H d
   obtain ⟨p,hp⟩:=ai l.length;rw [<-hp] at q1 r1 d;have HO:=ag (show jb (s,l)=(jw s && decide (1<=p) && decide (p<=64)) by unfold jb;rw [hp]);clear hp;cases hnm:jw s with
   | false=>
    have q:=ag (V.o (by rw [HO.o,hnm];simp));have r:∀I,Calls Tryz.prog 111 #[.string (bs s)] I fun e w'=>e=.returned (.bool false)∧w'=I:=fun I=>by have:=qoq s I;rw [hnm] at this;exact this
    clear hnm G V Q H;go_wp2;rw [<-d];try rw [<-u]
    clear d u;go_quiet (exact Calls.quiet_of_same (r _))
    go_wp2;go_ret;exact ⟨by rw [q.o];rfl,below_drewN g _⟩
   | true=>
    have r:∀I,Calls Tryz.prog 111 #[.string (bs s)] I fun e w'=>e=.returned (.bool true)∧w'=I:=fun I=>by have:=qoq s I;rw [hnm] at this;exact this
    by_cases v:p<1∨64<p
    ·have L:jb (s,l)=false:=by
      rw [HO.o];have:¬(1<=p∧p<=64):=by omega
      simp
      intro _ h;omega
     have q:=ag (V.o L);clear L;clear hnm G V;by_cases R:k=0
     ·subst R
      simp only [Nat.zero_mul,Nat.add_zero] at q0 q1;clear Q H;rcases v with v | v
      ·have J:(p:Int)<1:=by omega
       go_wp2;rw [<-d];rw [<-u];clear d u;go_quiet (exact Calls.quiet_of_same (r _))
       go_wp2;go_ret;exact ⟨by rw [q.o];rfl,below_drewN g _⟩
      ·have J:decide ((p:Int)<1)=false:=aA (by omega)
       have K:(64:Int)<p:=by omega
       go_wp2;rw [<-d];rw [<-u];clear d u;go_quiet (exact Calls.quiet_of_same (r _))
       go_wp2;go_ret;exact ⟨by rw [q.o];rfl,below_drewN g _⟩
     ·obtain ⟨j,rfl⟩:∃j,k=j+1:=⟨k - 1,by omega⟩
      obtain ⟨sp,an, -⟩:=Q.o j rfl;clear Q H;have ao:(0:Int)<((j+1:Nat):Int):=by omega
      have M:IntKind.i64.wrap (((j+1:Nat):Int) - 1)=(j:Int):=by rw [IntKind.wrap_i64];omega
      have ap:((j:Int)+1 - 1)=j:=by omega
      have aq:(j:Int)<n:=by omega
      have WN:=L9 sp s;obtain ⟨lt,N⟩:=ai (ek sp s);rw [<-N] at WN;clear N;cases lt with
      | false=>
       go_wp2;rw [<-d];rw [<-u];clear d u;go_quiet (exact Calls.quiet_of_same (r _))
       go_wp2;go_ret;exact ⟨by rw [q.o];rfl,below_drewN g _⟩
      | true=>
       rcases v with v | v
       ·have J:(p:Int)<1:=by omega
        go_wp2;rw [<-d];rw [<-u];clear d u;go_quiet (exact Calls.quiet_of_same (r _))
        go_wp2;go_ret;exact ⟨by rw [q.o];rfl,below_drewN g _⟩
       ·have J:decide ((p:Int)<1)=false:=aA (by omega)
        have K:(64:Int)<p:=by omega
        go_wp2;rw [<-d];rw [<-u];clear d u;go_quiet (exact Calls.quiet_of_same (r _))
        go_wp2;go_ret;exact ⟨by rw [q.o];rfl,below_drewN g _⟩
    ·have ab:=ag (show jb (s,l)=true by rw [HO.o,hnm];simp;omega)
     have J:decide ((p:Int)<1)=false:=aA (by omega);have K:decide ((64:Int)<p)=false:=aA (by omega);clear hnm V v;by_cases R:k=0
     ·subst R
      simp only [Nat.zero_mul,Nat.add_zero] at q0 q1;have q:=ag (G.o ab.o (fun j hj=>by omega));clear Q H G;go_wp2;rw [<-d];rw [<-u];clear d u;go_quiet (exact Calls.quiet_of_same (r _))
      go_wp2;go_roundw
      case rel=>exact ⟨0+1,by omega,rfl,q,below_drewN aT _⟩
      case measure=>simp only [intOf];omega
     ·obtain ⟨j,rfl⟩:∃j,k=j+1:=⟨k - 1,by omega⟩
      obtain ⟨sp,an,PY⟩:=Q.o j rfl;have WO:=ag PY;clear Q PY;have ao:(0:Int)<((j+1:Nat):Int):=by omega
      have M:IntKind.i64.wrap (((j+1:Nat):Int) - 1)=(j:Int):=by rw [IntKind.wrap_i64];omega
      have ap:((j:Int)+1 - 1)=j:=by omega
      have aq:(j:Int)<n:=by omega
      have WN:=L9 sp s;cases hlq:ek sp s with
      | false=>
       rw [hlq] at WN;have q:=ag (H.o j rfl (by rw [<-WO.o];exact hlq));clear H G WO hlq;go_wp2;rw [<-d];rw [<-u];clear d u;go_quiet (exact Calls.quiet_of_same (r _))
       go_wp2;go_ret;exact ⟨by rw [q.o];rfl,below_drewN g _⟩
      | true=>
       rw [hlq] at WN;have q:=ag (G.o ab.o (fun i hi=>by
        obtain rfl:i=j:=by omega
        rw [<-WO.o];exact hlq))
       clear H G WO hlq;go_wp2;rw [<-d];rw [<-u];clear d u;go_quiet (exact Calls.quiet_of_same (r _))
       go_wp2;go_roundw
       case rel=>exact ⟨j+1+1,by omega,rfl,q,below_drewN aT _⟩
       case measure=>simp only [intOf];omega
  ·have hd:decide ((k:Int)<n)=false:=aA (by omega)
   have e:k=fs.length:=by have:=S.o;omega
   rw [e,List.take_length] at jr;clear e;have Cm:=ag (show fs.length<=40 by have:=S.o;omega);have CR:=ag (Gz jr.o Cm.o);have Mw:=ag (D.o.a t);have CX:=ag z;clear t z;go_wp2_with fail
   refine (Hf a n c fs wr (HR.o.a CX.o) S.o (by omega) (by have:=CR.o;omega)).mono ?_
   rintro e w3 ⟨v3,rfl,o3,b3⟩;have ac:=bT CX b3;have ad:=ag (Mw.o.a b3);have d3:=ad.o.cell;clear b3 Ms;obtain ⟨m,z8⟩:=ai ((cZ fs).length);obtain ⟨a3,c3,ar⟩:∃a c,v3=.slice a m c:=by rw [z8];exact o3.form
   subst ar;have M:=qmf a3 m c3 (cZ fs) B w3 o3.rd z8 (Pe HW.o);clear z8 o3;by_cases v:dL (cZ fs) B
   ·rw [decide_eq_true v] at M
    have HX:=ag v;clear v;go_wp2_with fail
    refine M.mono ?_
    rintro e w4 ⟨rfl,W⟩;have iR:=bT ac W;have d4:=(ad.o.a W).cell;clear W d3 M;go_wp2_with fail
    refine (qjt a n c fs w4 (HR.o.a iR.o) S.o (Wp Cm.o jr.o HX.o)).mono ?_
    rintro e w5 ⟨v5,rfl,o5,b5⟩;have lK:=bT iR b5;clear b5 d4;obtain ⟨m5,wT⟩:=ai ((dS fs).length);obtain ⟨a5,c5,GR⟩:∃a c,v5=.slice a m5 c:=by rw [wT];exact qup o5
    subst GR;clear o5;by_cases g4:2048<m5
    ·have q:=ag (show bA fs B=8 from PX U.o (fun h=>by have:=h.2.2.2;omega))
     have K:(2048:Int)<m5:=by omega
     clear wT;go_wp2;go_ret;exact ⟨by rw [q.o];rfl,lK.o⟩
    ·have q:=ag (show bA fs B=0 from VX U.o ⟨Cm.o,jr.o,HX.o,by omega⟩)
     have K:decide ((2048:Int)<m5)=false:=aA (by omega);clear wT;go_wp2;go_ret;exact ⟨by rw [q.o];rfl,lK.o⟩
   ·rw [decide_eq_false v] at M
    have q:=ag (show bA fs B=8 from PX U.o (fun h=>v h.2.2.1));clear v;go_wp2_with fail
    refine M.mono ?_
    rintro e w4 ⟨rfl,W⟩;have iR:=bT ac W;clear W d3 M;go_wp2;go_ret;exact ⟨by rw [q.o];rfl,iR.o⟩
def jd (fs:List Fl) (s:ak) (B:Int):Int:=if bA fs B≠0 then bA fs B else if jw s=false then 50 else 0
theorem qot (a:au) (n c:Nat) (fs:List Fl) (s:ak) (B:Int) (w:World) (l:RdF w (.slice a n c) fs) (r:n=fs.length) (m:wfFs fs):
  Calls Tryz.prog 118 #[.agg #[.slice a n c],.string (bs s),.int .i64 B] w fun e w'=>e=.returned (.int .i64 (jd fs s B))∧ah w w':=by
 obtain ⟨t,f⟩:=ai (w.alloc (.cells #[.slice a n c] 30));have h:ah w t:=by rw [f];exact ae
 have i:=ag h;have b:=WM a n c fs B t (l.a h) r m;clear l r m h;by_cases j:bA fs B=0
 case neg=>
  have k:=ag (show jd fs s B=bA fs B by unfold jd;rw [if_pos j]);obtain ⟨z,u⟩:=ai (bA fs B);rw [<-u] at b j k;have y:(z==0)=false:=by simpa using j
  clear u;go_enter Tryz.func118,Tryz.ntmps118;go_wp2_with fail
  rw [<-f];clear f;refine b.mono ?_
  rintro e v ⟨rfl,p⟩;clear b;go_wp2;go_ret;exact ⟨by rw [k.o];rfl,i.o.trans (p.mono i.o.size)⟩
 rw [j] at b;have x:=ag j;clear j;go_enter Tryz.func118,Tryz.ntmps118;go_wp2_with fail
 rw [<-f];clear f;refine b.mono ?_
 rintro e v ⟨rfl,p⟩;have g:=bT i p;clear b p;have d:=Xo s v;cases hq:jw s with
 | false=>
  have k:=ag (show jd fs s B=50 by unfold jd;rw [if_neg (by simp [x.o]),if_pos hq]);rw [hq] at d;clear hq;go_wp2_with fail
  refine d.mono ?_
  rintro e A ⟨rfl,q⟩;clear d;go_wp2;go_ret;exact ⟨by rw [k.o];rfl,g.o.trans (q.mono g.o.size)⟩
 | true=>
  have k:=ag (show jd fs s B=0 by unfold jd;rw [if_neg (by simp [x.o]),if_neg (by simp [hq])]);rw [hq] at d;clear hq;go_wp2_with fail
  refine d.mono ?_
  rintro e A ⟨rfl,q⟩;clear d;go_wp2;go_ret;exact ⟨by rw [k.o];rfl,g.o.trans (q.mono g.o.size)⟩
theorem GU {fs:List Fl} {s:ak} {B:Int} (h:jd fs s B=0):bA fs B=0∧jw s=true:=by
 unfold jd at h;by_cases a:bA fs B=0
 ·rw [if_neg (by simpa using a)] at h
  cases h2:jw s with
  | false=>rw [if_pos h2] at h;omega
  | true=>exact ⟨a,rfl⟩
 ·rw [if_pos a] at h;exact absurd h a
theorem qsh {fs:List Fl} {s:ak} (h:jd fs s 4096≠0):gN fs s=jd fs s 4096:=by
 unfold gN jd at *;by_cases a:bA fs 4096=0
 ·by_cases b:jw s=false
  ·simp [a,b]
  ·simp [a,b] at h
 ·simp [a]
theorem qyh {fs:List Fl} {s:ak} {l:List Ex} {B:Int} (h:jd fs s B≠0):gU fs s l B=jd fs s B:=by
 unfold gU jd at *;by_cases a:bA fs B=0
 ·by_cases b:jw s=false
  ·simp [a,b]
  ·simp [a,b] at h
 ·simp [a]
theorem xC {fs:List Fl} {s:ak} (h:jd fs s 4096=0) (a:jZ fs s=true):gN fs s=0:=(BR (GU h).1 (GU h).2 a).1
theorem qabh {fs:List Fl} {s:ak} (h:jd fs s 4096=0) (a:jZ fs s=false):gN fs s=6:=qnz (GU h).1 (GU h).2 a
theorem qwq {fs:List Fl} {B:Int} (h:eD fs B):∀f∈fs,f.2.length<=1000000:=fun f a=>by have:=LV (h.2.1.1 f a);omega
theorem qsi (a:au) (n c:Nat) (fs:List Fl) (s:ak) (w:World) (F:RdF w (.slice a n c) fs) (hn:n=fs.length) (G:wfFs fs):
  Calls Tryz.prog 66 #[.agg #[.slice a n c],.string (bs s)] w fun e w'=>∃v,e=.returned (.tuple #[.agg #[.string (bs (nu fs s).1),v],.int .i64 (gN fs s)])∧bB w' w.heap.size v (nu fs s).2∧ah w w':=by
 obtain ⟨L,f⟩:∃L,L=(w.alloc (.cells #[.slice a n c] 30)).alloc (.cells #[.string {data:=#[]},.slice none 0 0] 98):=⟨_,rfl⟩
 have H:ah w L:=by rw [f];exact (ae).alloc (by simp) _
 have Y:=ag (show bG L w.heap.size (.slice a n c) by rw [f];exact (bG.new w _).a (ae));have Z:=ag (show aQ L (w.heap.size+1) {data:=#[]} (.slice none 0 0) by rw [f];have:=aQ.new (w.alloc (.cells #[.slice a n c] 30)) {data:=#[]} (.slice none 0 0);simpa using this);have dM:=ag H;have HR:=ag F;have HN:=ag hn;have HW:=ag G;have M:=qot a n c fs s 4096 L (F.a H) hn G;clear F hn G H;by_cases i:jd fs s 4096=0
 case neg=>
  have j:=ag (show nu fs s=([],[]) by unfold nu;rw [if_neg (by rw [qsh i];exact i)]);have A:=ag (qsh i);obtain ⟨z,hz⟩:=ai (jd fs s 4096);rw [<-hz] at M i A;have ac:(z==0)=false:=by simpa using i
  clear hz;go_enter Tryz.func66,Tryz.ntmps66;go_wp2_with fail
  rw [<-f];clear f;refine (M).mono ?_
  rintro e h ⟨rfl,d⟩;have qc:=ag (Y.o.a d);have B:=ag (Z.o.a d);have N:=bT dM d;clear Y Z dM d;clear M;have e0:=B.o.cell0;have e1:=B.o.cell1;have Q:=frozen_of_row h (w.heap.size+1) 0 _ _ B.o;have R:=frozen_of_row h (w.heap.size+1) 1 _ _ B.o;have p:=wR (w:=h) (q:=w.heap.size+1) (.string {data:=#[]}) (.slice none 0 0);have g:aQ ((h.setCell ⟨w.heap.size+1,0,none⟩ (.string {data:=#[]})).setCell ⟨w.heap.size+1,1,none⟩ (.slice none 0 0)) (w.heap.size+1) {data:=#[]} (.slice none 0 0):=by
   have S:=heap_setCell_same h (w.heap.size+1) 0 _ 98 (.string {data:=#[]}) B.o;have a2:=heap_setCell_same (h.setCell ⟨w.heap.size+1,0,none⟩ (.string {data:=#[]})) (w.heap.size+1) 1 _ 98 (.slice none 0 0) S;unfold aQ;rw [a2];rfl
  have C:=ag (show bB ((h.setCell ⟨w.heap.size+1,0,none⟩ (.string {data:=#[]})).setCell ⟨w.heap.size+1,1,none⟩ (.slice none 0 0)) w.heap.size (.slice none 0 0) _ from bB.nil _ _);have D:=ag (N.o.grown p N.o.size (by intro k T;cases T;omega));have U:=g.cell0;have V:=g.cell1;clear p g;go_wp2;obtain ⟨O,E⟩:∃O,O=(h.setCell ⟨w.heap.size+1,0,none⟩ (.string {data:=#[]})).setCell ⟨w.heap.size+1,1,none⟩ (.slice none 0 0):=⟨_,rfl⟩;rw [<-E] at U V C D ⊢
  try simp only [Exit.inBlock,Exit.then]
  refine bodyPost_ret (v:=.tuple #[.agg #[.string {data:=#[]},.slice none 0 0],.int .i64 z]) ?_ rfl ⟨.slice none 0 0,by rw [A.o,j.o];rfl,by rw [j.o];exact C.o,D.o⟩
  clear E e0 e1 Q R;simp [results,Tryz.results66,go_sem, *]
 rw [i] at M;have HK:=ag (Cu (GU i).1).2;have HG:=ag i;clear i;go_enter Tryz.func66,Tryz.ntmps66;go_wp2_with fail
 rw [<-f];clear f;refine (M).mono ?_
 rintro e h ⟨rfl,d⟩;have qc:=ag (Y.o.a d);have B:=ag (Z.o.a d);have N:=bT dM d;clear Y Z dM d;clear M;have r0:=qc.o.cell;have PZ:=qsf a n c fs s h (HR.o.a N.o) HN.o (by have:=HK.o.1;have:=HN.o;omega);go_wp2_with fail
 refine (PZ).mono ?_
 rintro e r ⟨aa,u⟩;clear r0;have uJ:=ag (qc.o.a u);have I:=ag (B.o.a u);have J:=bT N u;clear qc B N u;clear PZ;rcases aa with ⟨rfl,W⟩ | ⟨t,ht,rfl,K,nR⟩
 ·have A:=ag (qabh HG.o W)
  have j:=ag (show nu fs s=([],[]) by unfold nu;rw [if_neg (by rw [A.o];omega)]);clear W;have e0:=I.o.cell0;have e1:=I.o.cell1;have Q:=frozen_of_row r (w.heap.size+1) 0 _ _ I.o;have R:=frozen_of_row r (w.heap.size+1) 1 _ _ I.o;have p:=wR (w:=r) (q:=w.heap.size+1) (.string {data:=#[]}) (.slice none 0 0);have g:aQ ((r.setCell ⟨w.heap.size+1,0,none⟩ (.string {data:=#[]})).setCell ⟨w.heap.size+1,1,none⟩ (.slice none 0 0)) (w.heap.size+1) {data:=#[]} (.slice none 0 0):=by
   have S:=heap_setCell_same r (w.heap.size+1) 0 _ 98 (.string {data:=#[]}) I.o;have a2:=heap_setCell_same (r.setCell ⟨w.heap.size+1,0,none⟩ (.string {data:=#[]})) (w.heap.size+1) 1 _ 98 (.slice none 0 0) S;unfold aQ;rw [a2];rfl
  have C:=ag (show bB ((r.setCell ⟨w.heap.size+1,0,none⟩ (.string {data:=#[]})).setCell ⟨w.heap.size+1,1,none⟩ (.slice none 0 0)) w.heap.size (.slice none 0 0) _ from bB.nil _ _);have D:=ag (J.o.grown p J.o.size (by intro k T;cases T;omega));have U:=g.cell0;have V:=g.cell1;clear p g;go_wp2;obtain ⟨O,E⟩:∃O,O=(r.setCell ⟨w.heap.size+1,0,none⟩ (.string {data:=#[]})).setCell ⟨w.heap.size+1,1,none⟩ (.slice none 0 0):=⟨_,rfl⟩;rw [<-E] at U V C D ⊢
  try simp only [Exit.inBlock,Exit.then]
  refine bodyPost_ret (v:=.tuple #[.agg #[.string {data:=#[]},.slice none 0 0],.int .i64 6]) ?_ rfl ⟨.slice none 0 0,by rw [A.o,j.o];rfl,by rw [j.o];exact C.o,D.o⟩
  clear E e0 e1 Q R;simp [results,Tryz.results66,go_sem, *]
 ·have A:=ag (xC HG.o nR)
  have j:=ag (show nu fs s=(s,(fs[t]).2) by unfold nu;rw [if_pos A.o,Z8 HK.o.2.1.2 ht K]);have Et:=ag (qwq HK.o _ (List.getElem_mem ht));have ad:(t:Int)<n:=by have:=HN.o;omega
  have al:decide ((t:Int)<0)=false:=decide_eq_false (by omega);have ab:t<n:=by omega
  obtain ⟨b,am,a2,c2,rfl,q0,q1,q2⟩:=HR.o.atB J.o t ht;rw [K] at q0;have HQ:=ag q2;obtain ⟨l,hl⟩:=ai ((fs[t]).2);rw [<-hl] at q1 HQ j Et;obtain ⟨m,hm⟩:=ai l.length;rw [<-hm] at q1 HQ;have HM:=ag hm;clear hm hl q2 K nR;have r0:=uJ.o.cell;have jy:=ag J.o.size;go_wp2_with fail
  refine (qkf s a2 m c2 l r (HQ.o.a J.o) HM.o Et.o).mono ?_
  rintro e x ⟨a3,c3,rfl,X,y⟩;clear r0;have xV:=ag (uJ.o.a y);have P:=ag (I.o.a y);have bU:=bT J y;clear uJ I J y;have WP:=ag (show bB x w.heap.size (.slice a3 m c3) l from X.mono jy.o);clear X q0 q1;have e0:=P.o.cell0;have e1:=P.o.cell1;have Q:=frozen_of_row x (w.heap.size+1) 0 _ _ P.o;have R:=frozen_of_row x (w.heap.size+1) 1 _ _ P.o;have p:=wR (w:=x) (q:=w.heap.size+1) (.string (bs s)) (.slice a3 m c3);have g:aQ ((x.setCell ⟨w.heap.size+1,0,none⟩ (.string (bs s))).setCell ⟨w.heap.size+1,1,none⟩ (.slice a3 m c3)) (w.heap.size+1) (bs s) (.slice a3 m c3):=by
   have S:=heap_setCell_same x (w.heap.size+1) 0 _ 98 (.string (bs s)) P.o;have a2:=heap_setCell_same (x.setCell ⟨w.heap.size+1,0,none⟩ (.string (bs s))) (w.heap.size+1) 1 _ 98 (.slice a3 m c3) S;unfold aQ;rw [a2];rfl
  have C:=ag (show bB ((x.setCell ⟨w.heap.size+1,0,none⟩ (.string (bs s))).setCell ⟨w.heap.size+1,1,none⟩ (.slice a3 m c3)) w.heap.size (.slice a3 m c3) _ from World.ownsRow.kept WP.o p (.inr (bB.apartF WP.o P.o)));have D:=ag (bU.o.grown p bU.o.size (by intro k T;cases T;omega));have U:=g.cell0;have V:=g.cell1;clear p g;go_wp2;obtain ⟨O,E⟩:=ai ((x.setCell ⟨w.heap.size+1,0,none⟩ (.string (bs s))).setCell ⟨w.heap.size+1,1,none⟩ (.slice a3 m c3));rw [<-E] at U V C D ⊢;try simp only [Exit.inBlock,Exit.then]
  refine bodyPost_ret (v:=.tuple #[.agg #[.string (bs s),.slice a3 m c3],.int .i64 0]) ?_ rfl ⟨.slice a3 m c3,by rw [A.o,j.o],by rw [j.o];exact C.o,D.o⟩
  clear E e0 e1 Q R;simp [results,Tryz.results66,go_sem, *]
theorem qsj (a:au) (n c:Nat) (fs:List Fl) (w:World) (h:RdF w (.slice a n c) fs) (s:n=fs.length) (i:wfFs fs):
  Calls Tryz.prog 121 #[.agg #[.slice a n c]] w fun e w'=>∃v,e=.returned (.tuple #[v,.int .i64 (bA fs 4096)])∧bB w' w.heap.size v (mq fs)∧ah w w':=by
 obtain ⟨t,d⟩:=ai (w.alloc (.cells #[.slice a n c] 30));have j:ah w t:=by rw [d];exact ae
 have p:=ag (show bG t w.heap.size (.slice a n c) by rw [d];exact bG.new w _);have q:=ag j;have D:=ag h;have B:=ag s;have J:=ag i;have f:=WM a n c fs 4096 t (h.a j) s i;clear h s i j;by_cases g:bA fs 4096=0
 case neg=>
  have u:=ag (show mq fs=[] by unfold mq;rw [if_neg g]);obtain ⟨z,x⟩:=ai (bA fs 4096);rw [<-x] at f g;have y:=ag x;have E:(z==0)=false:=by simpa using g
  clear x;go_enter Tryz.func121,Tryz.ntmps121;go_wp2_with fail
  rw [<-d];clear d;refine (f).mono ?_
  rintro e C ⟨rfl,b⟩;have r:=ag (p.o.a b);have l:=bT q b;clear p q b;clear f;go_wp2;all_goals (go_ret2;exact ⟨.slice none 0 0,by rw [<-y.o];rfl,by rw [u.o];exact bB.nil _ _,l.o⟩)
 have A:=ag (Cu g).2;have u:=ag (show mq fs=cZ fs by unfold mq;rw [if_pos g]);have y:=ag g;rw [g] at f;clear g;go_enter Tryz.func121,Tryz.ntmps121;go_wp2_with fail
 rw [<-d];clear d;refine (f).mono ?_
 rintro e C ⟨rfl,b⟩;have r:=ag (p.o.a b);have l:=bT q b;clear p q b;clear f;have F:=ag l.o.size;have G:=r.o.cell;go_wp2_with fail
 refine (Hf a n c fs C (D.o.a l.o) B.o (by have:=A.o.1;have:=B.o;omega) (by have:=Gz A.o.2.1 A.o.1;omega)).mono ?_
 rintro e K ⟨L,rfl,m,k⟩;clear G;have M:=ag (r.o.a k);have H:=bT l k;clear r l k;have I:=ag (m.mono F.o);clear m;go_wp2;go_ret2;exact ⟨_,by rw [y.o];rfl,by rw [u.o];exact I.o,H.o⟩
theorem quq (a:au) (n c:Nat) (fs:List Fl) (s:ak) (al:au) (m cl:Nat) (l:List Ex) (B:Int) (w:World) (Z:RdF w (.slice a n c) fs) (L:n=fs.length) (aa:wfFs fs) (aq:RdE w (.slice al m cl) l) (hm:m=l.length) (oN:l.length<=100000) (ar:∀x∈l,wfX x):
  Calls Tryz.prog 69 #[.agg #[.slice a n c],.string (bs s),.slice al m cl,.int .i64 B] w fun e w'=>∃v,e=.returned (.tuple #[.agg #[v],.int .i64 (gU fs s l B)])∧bJ w' w.heap.size v (kN fs s l B)∧ah w w':=by
 obtain ⟨W0,G⟩:=ai ((w.alloc (.cells #[.slice a n c] 30)).alloc (.cells #[.slice none 0 0] 30));have ab:ah w W0:=by rw [G];exact (ae).alloc (by simp) _
 have iZ:=ag (show bG W0 w.heap.size (.slice a n c) by rw [G];exact (bG.new w _).a (ae));have dW:=ag (show dV W0 (w.heap.size+1) by rw [G];have:=dV.new (w.alloc (.cells #[.slice a n c] 30)) (.slice none 0 0);simpa using this);have dM:=ag ab;have HR:=ag Z;have HN:=ag L;have HW:=ag aa;have mP:=qot a n c fs s B W0 (Z.a ab) L aa;have jN:=ag aq;have HM:=ag hm;have BK:=ag oN;have WR:=ag ar;have Nu:m<=100000:=by omega
 clear aq hm oN ar;clear Z L aa ab;by_cases R:jd fs s B=0
 case neg=>
  have j:=ag (qyh (l:=l) R);have H:=ag (show kN fs s l B=[] by unfold kN;rw [if_neg (by rw [j.o];exact R)]);obtain ⟨z,hz⟩:=ai (jd fs s B);rw [<-hz] at mP R j;have a4:(z==0)=false:=by simpa using R
  clear hz;go_enter Tryz.func69,Tryz.ntmps69;go_wp2_with fail
  rw [<-G];clear G;refine (mP).mono ?_
  rintro e w1 ⟨rfl,D⟩;have qc:=ag (iZ.o.a D);have eO:=ag (dW.o.a D);have bi:=bT dM D;clear iZ dW dM D;clear mP;have A:=eO.o.cell;have C:=eO.o.fz;obtain ⟨E,b, -⟩:=eO.o.put (.slice none 0 0);obtain ⟨y,u⟩:=eO.o;have d:=ag (show bJ (w1.setCell ⟨w.heap.size+1,0,none⟩ (.slice none 0 0)) w.heap.size (.slice none 0 0) _ from bJ.nil _ _);have g:=ag (bi.o.grown b bi.o.size (by intro k F;cases F;omega));clear u b;go_wp2;obtain ⟨S,i⟩:=ai (w1.setCell ⟨w.heap.size+1,0,none⟩ (.slice none 0 0));rw [<-i] at E d g ⊢;try simp only [Exit.inBlock,Exit.then]
  refine bodyPost_ret (v:=.tuple #[.agg #[.slice none 0 0],.int .i64 z]) ?_ rfl ⟨.slice none 0 0,by rw [j.o],by rw [H.o];exact d.o,g.o⟩
  clear i A C;simp [results,Tryz.results69,go_sem, *]
 rw [R] at mP;have O:=ag (Cu (GU R).1).2;have HG:=ag (GU R);clear R;go_enter Tryz.func69,Tryz.ntmps69;go_wp2_with fail
 rw [<-G];clear G;refine (mP).mono ?_
 rintro e w1 ⟨rfl,D⟩;have qc:=ag (iZ.o.a D);have eO:=ag (dW.o.a D);have bi:=bT dM D;clear iZ dW dM D;clear mP;have T:=qc.o.cell;have PZ:=qsf a n c fs s w1 (HR.o.a bi.o) HN.o (by have:=O.o.1;have:=HN.o;omega);go_wp2_with fail
 refine (PZ).mono ?_
 rintro e w2 ⟨aJ,P⟩;clear T;have uJ:=ag (qc.o.a P);have fo:=ag (eO.o.a P);have bg:=bT bi P;clear qc eO bi P;clear PZ;rcases aJ with ⟨rfl,aw⟩ | ⟨t,ht,rfl,aK,nR⟩
 rotate_left
 ·have j:=ag (show gU fs s l B=51 by unfold gU;rw [if_neg (by simp [HG.o.1]),if_neg (by simp [HG.o.2]),if_pos nR])
  have H:=ag (show kN fs s l B=[] by unfold kN;rw [if_neg (by rw [j.o];omega)]);have a5:(0:Int)<=t:=by omega
  clear aK nR;have A:=fo.o.cell;have C:=fo.o.fz;obtain ⟨E,b, -⟩:=fo.o.put (.slice none 0 0);obtain ⟨y,u⟩:=fo.o;have d:=ag (show bJ (w2.setCell ⟨w.heap.size+1,0,none⟩ (.slice none 0 0)) w.heap.size (.slice none 0 0) _ from bJ.nil _ _);have g:=ag (bg.o.grown b bg.o.size (by intro k F;cases F;omega));clear u b;go_wp2;obtain ⟨S,i⟩:=ai (w2.setCell ⟨w.heap.size+1,0,none⟩ (.slice none 0 0));rw [<-i] at E d g ⊢;try simp only [Exit.inBlock,Exit.then]
  refine bodyPost_ret (v:=.tuple #[.agg #[.slice none 0 0],.int .i64 51]) ?_ rfl ⟨.slice none 0 0,by rw [j.o],by rw [H.o];exact d.o,g.o⟩
  clear i A C;simp [results,Tryz.results69,go_sem, *]
 have yS:=ag aw;clear aw;have qx:=ag (show gU fs s l B=if l=[]∨¬dL (cZ fs++l) B then 8 else if fs.length=40∨64<l.length then 40 else jG (cO fs (s,l)) by unfold gU;rw [if_neg (by simp [HG.o.1]),if_neg (by simp [HG.o.2]),if_neg (by simp [yS.o])]);have CR:=ag (Gz O.o.2.1 O.o.1);have T:=uJ.o.cell;go_wp2_with fail
 refine (Hf a n c fs w2 (HR.o.a bg.o) HN.o (by have:=O.o.1;have:=HN.o;omega) (by have:=CR.o;omega)).mono ?_
 rintro e w3 ⟨v3,rfl,ac,K⟩;clear T;have xV:=ag (uJ.o.a K);have pM:=ag (fo.o.a K);have bU:=bT bg K;have CS:=ag K.size;have ll:=ag bg.o.size;have BC:=ag (Array.getElem?_eq_some_iff.1 uJ.o).1;have aM:=ag (show w.heap.size+1<w2.heap.size by obtain ⟨y,u⟩:=fo.o;exact (Array.getElem?_eq_some_iff.1 u).1);clear uJ fo bg K;obtain ⟨g9,c9,x9,r,bN,bI⟩:=Er (base:=w2.heap.size) ac CS.o (jN.o.a bU.o) HM.o (by have:=CR.o;have:=BK.o;omega);have eF:ah w x9:=bU.o.trans (bI.mono ll.o);have Ad:=ag (show bG x9 w.heap.size (.slice a n c) from (bI.block _ BC.o).trans xV.o);have Ae:=ag (show dV x9 (w.heap.size+1) by obtain ⟨y,u⟩:=pM.o;exact ⟨y,(bI.block _ aM.o).trans u⟩);have Af:=ag eF;have jT:=ag bN;clear xV pM bU bI eF bN;obtain ⟨av,cv,qJ⟩:=ac.form;subst qJ;clear ac;obtain ⟨U,hU⟩:=ai ((cZ fs).length);rw [<-hU] at r ⊢;clear hU;obtain ⟨q,hq⟩:=ai ((cZ fs++l).length);rw [<-hq] at r jT;have HQ:=ag hq;clear hq;obtain ⟨w8,aD⟩:=ai x9;rw [<-aD] at r Ad Ae Af jT;clear aD;have CY:=Ad;have V:=Ae;have sV:=Af;clear Ad Ae Af;by_cases g2:m<1
 ·have aO:(m:Int)<1:=by omega
  have j:=ag (show gU fs s l B=8 by rw [qx.o,if_pos (.inl (by have:=HM.o;exact List.eq_nil_of_length_eq_zero (by omega)))]);have H:=ag (show kN fs s l B=[] by unfold kN;rw [if_neg (by rw [j.o];omega)]);have A:=V.o.cell;have C:=V.o.fz;obtain ⟨E,b, -⟩:=V.o.put (.slice none 0 0);obtain ⟨y,u⟩:=V.o;have d:=ag (show bJ (w8.setCell ⟨w.heap.size+1,0,none⟩ (.slice none 0 0)) w.heap.size (.slice none 0 0) _ from bJ.nil _ _);have g:=ag (sV.o.grown b sV.o.size (by intro k F;cases F;omega));clear u b;go_wp2_with (at_builtin;refine ku rfl (.tmp 27) (.tmp 28) 96 rfl rfl rfl rfl r ?_)
  obtain ⟨S,i⟩:=ai (w8.setCell ⟨w.heap.size+1,0,none⟩ (.slice none 0 0));rw [<-i] at E d g ⊢;try simp only [Exit.inBlock,Exit.then]
  refine bodyPost_ret (v:=.tuple #[.agg #[.slice none 0 0],.int .i64 8]) ?_ rfl ⟨.slice none 0 0,by rw [j.o],by rw [H.o];exact d.o,g.o⟩
  clear i A C;simp [results,Tryz.results69,go_sem, *]
 have aO:decide ((m:Int)<1)=false:=aA (by omega);have Cm:=ag (show l≠[] from fun e=>by have:=HM.o;rw [e] at this;simp at this;omega);have uI:=qmf g9 q c9 (cZ fs++l) B w8 jT.o.rd HQ.o (fun x hx=>(List.mem_append.1 hx).elim (Pe HW.o x) (WR.o x));by_cases g3:dL (cZ fs++l) B
 rotate_left
 ·rw [decide_eq_false g3] at uI
  have j:=ag (show gU fs s l B=8 by rw [qx.o,if_pos (.inr g3)]);have H:=ag (show kN fs s l B=[] by unfold kN;rw [if_neg (by rw [j.o];omega)]);clear g3;go_wp2_with (first | (at_builtin;refine ku rfl (.tmp 27) (.tmp 28) 96 rfl rfl rfl rfl r ?_) | fail)
  refine uI.mono ?_
  rintro e xS ⟨rfl,Q⟩;have WS:=ag (CY.o.a Q);have GV:=ag (V.o.a Q);have W:=bT sV Q;clear CY V sV Q;clear uI;have A:=GV.o.cell;have C:=GV.o.fz;obtain ⟨E,b, -⟩:=GV.o.put (.slice none 0 0);obtain ⟨y,u⟩:=GV.o;have d:=ag (show bJ (xS.setCell ⟨w.heap.size+1,0,none⟩ (.slice none 0 0)) w.heap.size (.slice none 0 0) _ from bJ.nil _ _);have g:=ag (W.o.grown b W.o.size (by intro k F;cases F;omega));clear u b;go_wp2;obtain ⟨S,i⟩:=ai (xS.setCell ⟨w.heap.size+1,0,none⟩ (.slice none 0 0));rw [<-i] at E d g ⊢;try simp only [Exit.inBlock,Exit.then]
  refine bodyPost_ret (v:=.tuple #[.agg #[.slice none 0 0],.int .i64 8]) ?_ rfl ⟨.slice none 0 0,by rw [j.o],by rw [H.o];exact d.o,g.o⟩
  clear i A C;simp [results,Tryz.results69,go_sem, *]
 rw [decide_eq_true g3] at uI;have HX:=ag g3;clear g3;have BS:=ag (show gU fs s l B=if fs.length=40∨64<l.length then 40 else jG (cO fs (s,l)) by rw [qx.o,if_neg (by simp [Cm.o,HX.o])]);go_wp2_with (first | (at_builtin;refine ku rfl (.tmp 27) (.tmp 28) 96 rfl rfl rfl rfl r ?_) | fail)
 refine uI.mono ?_
 rintro e xS ⟨rfl,Q⟩;have WS:=ag (CY.o.a Q);have GV:=ag (V.o.a Q);have W:=bT sV Q;clear CY V sV Q;clear uI r jT;have CU:=ag W.o.size;have ad:=qabg a n c fs s al m cl l xS (HR.o.a W.o) HN.o (by have:=O.o.1;have:=HN.o;omega) (qwq O.o) (jN.o.a W.o) HM.o (by have:=BK.o;omega);rw [qwp (f:=(s,l)) O.o.2.1.2 yS.o] at ad;have T:=WS.o.cell;go_wp2_with fail
 refine (ad).mono ?_
 rintro e uZ ⟨aP,rfl,CZ,C8⟩;clear T;have P5:=ag (WS.o.a C8);have P6:=ag (GV.o.a C8);have GX:=bT W C8;clear WS GV W C8;clear ad;have am:=ag (Qm fs (s,l));have jo:=ag (fun (h:l.length<=64)=>Pt O.o HG.o.2 h HX.o);obtain ⟨gs,an⟩:=ai (cO fs (s,l));have aS:=ag an.symm;rw [<-an] at CZ am jo BS;clear an;obtain ⟨p,hp⟩:=ai gs.length;obtain ⟨M,N,aT⟩:∃a c,aP=.slice a p c:=by rw [hp];exact CZ.form
 subst aT;have HP:=ag hp;have P7:=ag (CZ.mono CU.o);clear hp CZ;have L:ah uZ (uZ.alloc (.cells #[.slice M p N] 30)):=ae;obtain ⟨GY,I⟩:=ai (uZ.alloc (.cells #[.slice M p N] 30));have oC:=ag (bG.new uZ (.slice M p N));rw [<-I] at L oC;have Ah:=ag (P5.o.a L);have J:=ag (P6.o.a L);have vR:=ag (P7.o.a L);have X:=bT GX L;clear P5 P6 P7 GX L;by_cases g4:40<p∨64<m
 ·have j:=ag (show gU fs s l B=40 by rw [BS.o,if_pos (by have h1:=HP.o;have h2:=am.o;have h3:=HM.o;have h4:=O.o.1;omega)])
  have H:=ag (show kN fs s l B=[] by unfold kN;rw [if_neg (by rw [j.o];omega)]);have d9:=oC.o.cell;rw [I] at d9;rcases g4 with g4 | g4
  ·have ao:(40:Int)<p:=by omega
   have A:=J.o.cell;have C:=J.o.fz;obtain ⟨E,b, -⟩:=J.o.put (.slice none 0 0);obtain ⟨y,u⟩:=J.o;have d:=ag (show bJ (GY.setCell ⟨w.heap.size+1,0,none⟩ (.slice none 0 0)) w.heap.size (.slice none 0 0) _ from bJ.nil _ _);have g:=ag (X.o.grown b X.o.size (by intro k F;cases F;omega));clear u b;rw [I] at A C;go_wp2;try rw [<-I]
   obtain ⟨S,i⟩:=ai (GY.setCell ⟨w.heap.size+1,0,none⟩ (.slice none 0 0));rw [<-i] at E d g ⊢;try simp only [Exit.inBlock,Exit.then]
   refine bodyPost_ret (v:=.tuple #[.agg #[.slice none 0 0],.int .i64 40]) ?_ rfl ⟨.slice none 0 0,by rw [j.o],by rw [H.o];exact d.o,g.o⟩
   clear i A C I;simp [results,Tryz.results69,go_sem, *]
  ·by_cases g5:40<p
   ·have ao:(40:Int)<p:=by omega
    have A:=J.o.cell;have C:=J.o.fz;obtain ⟨E,b, -⟩:=J.o.put (.slice none 0 0);obtain ⟨y,u⟩:=J.o;have d:=ag (show bJ (GY.setCell ⟨w.heap.size+1,0,none⟩ (.slice none 0 0)) w.heap.size (.slice none 0 0) _ from bJ.nil _ _);have g:=ag (X.o.grown b X.o.size (by intro k F;cases F;omega));clear u b;rw [I] at A C;go_wp2;try rw [<-I]
    obtain ⟨S,i⟩:=ai (GY.setCell ⟨w.heap.size+1,0,none⟩ (.slice none 0 0));rw [<-i] at E d g ⊢;try simp only [Exit.inBlock,Exit.then]
    refine bodyPost_ret (v:=.tuple #[.agg #[.slice none 0 0],.int .i64 40]) ?_ rfl ⟨.slice none 0 0,by rw [j.o],by rw [H.o];exact d.o,g.o⟩
    clear i A C I;simp [results,Tryz.results69,go_sem, *]
   ·have ao:decide ((40:Int)<p)=false:=aA (by omega)
    have BB:(64:Int)<m:=by omega
    have A:=J.o.cell;have C:=J.o.fz;obtain ⟨E,b, -⟩:=J.o.put (.slice none 0 0);obtain ⟨y,u⟩:=J.o;have d:=ag (show bJ (GY.setCell ⟨w.heap.size+1,0,none⟩ (.slice none 0 0)) w.heap.size (.slice none 0 0) _ from bJ.nil _ _);have g:=ag (X.o.grown b X.o.size (by intro k F;cases F;omega));clear u b;rw [I] at A C;go_wp2;try rw [<-I]
    obtain ⟨S,i⟩:=ai (GY.setCell ⟨w.heap.size+1,0,none⟩ (.slice none 0 0));rw [<-i] at E d g ⊢;try simp only [Exit.inBlock,Exit.then]
    refine bodyPost_ret (v:=.tuple #[.agg #[.slice none 0 0],.int .i64 40]) ?_ rfl ⟨.slice none 0 0,by rw [j.o],by rw [H.o];exact d.o,g.o⟩
    clear i A C I;simp [results,Tryz.results69,go_sem, *]
 have ao:decide ((40:Int)<p)=false:=aA (by omega);have BB:decide ((64:Int)<m)=false:=aA (by omega);have aE:=ag (show gU fs s l B=jG gs by rw [BS.o,if_neg (by have h1:=HP.o;have h2:=am.o;have h3:=HM.o;omega)]);have a0:=ag (show gU fs s l B=0->kN fs s l B=cO fs (s,l) from fun h=>by unfold kN;rw [if_pos h]);have aF:=qjt M p N gs GY vR.o.rd HP.o (jo.o (by have:=HM.o;omega));have T:=oC.o.cell;rw [I] at T;go_wp2_with fail
 try rw [<-I]
 refine (aF).mono ?_
 rintro e zn ⟨a1,rfl,P8,xX⟩;clear T I;have aH:=ag (Ah.o.a xX);have Y:=ag (J.o.a xX);have GZ:=ag (vR.o.a xX);have G5:=ag (oC.o.a xX);have G6:=bT X xX;clear Ah J vR oC X xX;clear aF;obtain ⟨y5,ap⟩:=ai ((dS gs).length);obtain ⟨ay,cy,a2⟩:∃a c,a1=.slice a y5 c:=by rw [ap];exact qup P8
 subst a2;have HY:=ag ap;clear ap P8;by_cases g6:2048<y5
 ·have a3:(2048:Int)<y5:=by omega
  have j:=ag (show gU fs s l B=40 by rw [aE.o];unfold jG;rw [if_neg (by have:=HY.o;omega)]);have H:=ag (show kN fs s l B=[] by unfold kN;rw [if_neg (by rw [j.o];omega)]);have A:=Y.o.cell;have C:=Y.o.fz;obtain ⟨E,b, -⟩:=Y.o.put (.slice none 0 0);obtain ⟨y,u⟩:=Y.o;have d:=ag (show bJ (zn.setCell ⟨w.heap.size+1,0,none⟩ (.slice none 0 0)) w.heap.size (.slice none 0 0) _ from bJ.nil _ _);have g:=ag (G6.o.grown b G6.o.size (by intro k F;cases F;omega));clear u b;go_wp2;obtain ⟨S,i⟩:=ai (zn.setCell ⟨w.heap.size+1,0,none⟩ (.slice none 0 0));rw [<-i] at E d g ⊢;try simp only [Exit.inBlock,Exit.then]
  refine bodyPost_ret (v:=.tuple #[.agg #[.slice none 0 0],.int .i64 40]) ?_ rfl ⟨.slice none 0 0,by rw [j.o],by rw [H.o];exact d.o,g.o⟩
  clear i A C;simp [results,Tryz.results69,go_sem, *]
 have a3:decide ((2048:Int)<y5)=false:=aA (by omega);have j:=ag (show gU fs s l B=0 by rw [aE.o];unfold jG;rw [if_pos (by have:=HY.o;omega)]);have H:=ag (show kN fs s l B=gs from (a0.o j.o).trans aS.o);have d9:=G5.o.cell;have A:=Y.o.cell;have C:=Y.o.fz;obtain ⟨E,b, -⟩:=Y.o.put (.slice M p N);obtain ⟨y,u⟩:=Y.o;have d:=ag (show bJ (zn.setCell ⟨w.heap.size+1,0,none⟩ (.slice M p N)) w.heap.size (.slice M p N) _ from (GZ.o).keptS b u (by decide) (by decide));have g:=ag (G6.o.grown b G6.o.size (by intro k F;cases F;omega));clear u b;go_wp2;obtain ⟨S,i⟩:=ai (zn.setCell ⟨w.heap.size+1,0,none⟩ (.slice M p N));rw [<-i] at E d g ⊢;try simp only [Exit.inBlock,Exit.then]
 refine bodyPost_ret (v:=.tuple #[.agg #[.slice M p N],.int .i64 0]) ?_ rfl ⟨.slice M p N,by rw [j.o],by rw [H.o];exact d.o,g.o⟩
 clear i A C;simp [results,Tryz.results69,go_sem, *]
end Go.Proofs.YthpammbgcidloaaGreat

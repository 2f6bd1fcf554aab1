/-
  without; the library's Insert of one file.
-/
import Derived.Test.YthpammbgcidloaaGreatFiChk2
import Derived.Lib.AppendZerosOnto
import Derived.Lib.Overlaps
set_option maxHeartbeats 2000000
set_option maxRecDepth 100000
namespace Go.Proofs.YthpammbgcidloaaGreat
open Go.RowKit
set_option linter.all false
theorem Wo (n:Nat) (w:World) (a:n<18446744073709551616):Calls Tryz.prog 217 #[.int .u64 n] w fun e w'=>∃v,e=.returned v∧jq w' w.heap.size v (sm n)∧ah w w':=qr2 n w a
theorem qaja (s:ak) (w:World) (a:s.length<=1000000):Calls Tryz.prog 218 #[.string (bs s)] w fun e w'=>∃v,e=.returned v∧jq w' w.heap.size v (tx s)∧ah w w':=by
 have:=qF (bs s) w (by rw [Lx];omega)
 rwa [Lv] at this
theorem qud (a:au) (n c:Nat) (fs:List Fl) (w:World) (R:RdF w (.slice a n c) fs) (hn:n=fs.length) (E:okB fs):
  Calls Tryz.prog 203 #[.slice a n c] w fun e w'=>∃v,e=.returned v∧jq w' w.heap.size v (dS fs)∧ah w w':=by
 have hm:n<=1000:=hn ▸ E.1;have HR:=ag R;have HN:=ag hn;have HK:=ag E;clear R hn E;go_enter Tryz.func203,Tryz.ntmps203;go_wp2_with fail
 refine (Wo n _ (by omega)).mono ?_
 rintro e w1 ⟨v1,rfl,S,T⟩;go_wp2;go_loopw [14,3] (fun i v wr=>∃k:Nat,k<=n∧i=.int .i64 k∧af (jq wr w.heap.size v (sm n++(fs.take k).flatMap kv))∧ah w wr) (fun i _ _=>n - (intOf i).toNat)
 case atStart=>exact ⟨0,Nat.zero_le _,rfl,ag (by simpa using S),T⟩
 case round=>
  obtain ⟨k,hk,rfl,d,g⟩:=hrel;clear S T;by_cases U:k<n
  ·have V:(k:Int)<n:=by omega
   have F:k<fs.length:=by have:=HN.o;omega
   have HU:=ag (qrq fs k F);have pG:=ag (qv8 HK.o k);obtain ⟨b,ac,a2,c2,rfl,q0,q1,q2⟩:=HR.o.atB g k F;have HQ:=ag q2;clear q2;have G:=ag (HK.o.2 _ (List.getElem_mem F));obtain ⟨f,hf⟩:=ai (fs[k]);rw [<-hf] at q0 q1 HQ HU G;clear hf;obtain ⟨L,hL⟩:=ai ((fs.take k).flatMap kv);rw [<-hL] at d HU pG;clear hL;obtain ⟨m,C⟩:=ai f.2.length;rw [<-C] at q1 HQ;have ad:m<=1000:=by rw [C];exact G.o.2.1
   have gT:=ag C;clear C;have pI:=ag (rF (n:=n) (by omega));have sM:=ag (rF (n:=m) (by omega));have Gy:=ag (show (tx f.1).length<=1010 by
    have W:=G.o.1;have:=rF (n:=f.1.length) (by omega)
    simp only [tx,List.length_append];omega)
   -- the file's copy,its name
   obtain ⟨D,h⟩:=ai (wr.alloc (.cells #[.string (bs f.1),.slice a2 m c2] 98));have q:D.heap[wr.heap.size]? =some (.cells #[.string (bs f.1),.slice a2 m c2] 98 (0,0)):=by rw [h];exact heap_alloc_new wr _
   have s:ah wr D:=by rw [h];exact ae
   have X:wr.heap.size<D.heap.size:=by rw [h];simp
   have H:ah w D:=g.trans (s.mono g.size);have Y:=ag (d.o.a s);go_wp2_with fail
   rw [<-h];clear d;refine (qaja f.1 _ (by have:=G.o.1;omega)).mono ?_
   rintro e w3 ⟨v3,rfl,t,l⟩;have I:ah w w3:=H.trans (l.mono H.size);obtain ⟨v4,J,Z,iW,u,z⟩:=Es (Y.o.a l) I.size (BA t) (by
    have W:=pI.o;have h2:=pG.o;have h3:=Gy.o;rw [List.length_append];omega)
   have iX:ah w J:=I.trans u;have P:=z _ _ _ _ (by decide) (iV.of_below l _ _ _ _ (by decide) q);have r4:J.cell? ⟨wr.heap.size,1,none⟩=some (.slice a2 m c2):=by rw [cell_of_row J wr.heap.size 1 _ _ (0,0) P];rfl
   have mD:=ag iW;have K:=ag iX;have yN:=ag P;clear iW iX u z t l I q s h X H Y P g q0 q1;go_wp2_with (first | (at_builtin;refine ku rfl (.tmp 18) (.tmp 21) 22 rfl rfl rfl rfl Z ?_) | fail)
   refine (Wo m _ (by omega)).mono ?_
   rintro e w5 ⟨v5,rfl,nE,r⟩;have N:ah w w5:=K.o.trans (r.mono K.o.size);obtain ⟨v6,w6,lY,lu,A,BJ⟩:=Es (mD.o.a r) N.size (BA nE) (by
    have W:=pI.o;have h2:=pG.o;have h3:=Gy.o;have h4:=sM.o;simp only [List.length_append];omega)
   have sN:ah w w6:=N.trans A;have B:=BJ _ _ _ _ (by decide) (iV.of_below r _ _ _ _ (by decide) yN.o);have r6:w6.cell? ⟨wr.heap.size,1,none⟩=some (.slice a2 m c2):=by rw [cell_of_row w6 wr.heap.size 1 _ _ (0,0) B];rfl
   have vD:=ag lu;have vG:=ag sN;clear lu sN A BJ nE r N B mD K yN r4 Z;go_wp2_with (at_builtin;refine ku rfl (.tmp 23) (.tmp 28) 22 rfl rfl rfl rfl lY ?_)
   go_loopw [33,3] (fun i v wx=>∃j:Nat,j<=m∧i=.int .i64 j∧af (jq wx w.heap.size v (sm n++L++tx f.1++sm m++dZ (f.2.take j)))∧ah w wx) (fun i _ _=>m - (intOf i).toNat)
   case atStart=>exact ⟨0,Nat.zero_le _,rfl,ag (by simpa [dZ] using vD.o),vG.o⟩
   case round=>
    obtain ⟨j,hj,rfl,d,g⟩:=hrel;have mK:=ag U;clear vD vG r6 lY V U;by_cases al:j<m
    ·have CJ:(j:Int)<m:=by omega
     have O:j<f.2.length:=by have:=gT.o;omega
     have HE:=ag (qrr f.2 j O);obtain ⟨bx,ox,rfl,p0,p1⟩:=(HQ.o.a g).at j O;have Q:=ag (G.o.2.2 _ (List.getElem_mem O));have jH:=ag (show (dZ (f.2.take j)).length<=20000 by
      have:=Wn (f.2.take j) (fun x hx=>G.o.2.2 x (List.mem_of_mem_take hx))
      have h2:=G.o.2.1;rw [List.length_take] at this;omega)
     obtain ⟨x,hx⟩:=ai (f.2[j]);rw [<-hx] at p0 p1 HE Q;clear hx;obtain ⟨x,y⟩:=x;obtain ⟨x,rfl⟩:∃p:Nat,x=p:=⟨x.toNat,by have:=Q.o.1;simp only at this;omega⟩;obtain ⟨y,rfl⟩:∃p:Nat,y=p:=⟨y.toNat,by have:=Q.o.2.2.1;simp only at this;omega⟩
     have am:x<=4096:=by have:=Q.o.2.1;simp only at this;omega
     have an:y<=4096:=by have:=Q.o.2.2.2;simp only at this;omega
     simp only at p0 p1
     have aa:=ag (show dZ (f.2.take (j+1))=dZ (f.2.take j)++(sm x++sm y) by have:=HE.o;simpa [kM] using this);clear HE Q;obtain ⟨M,hM⟩:=ai (sm n++L++tx f.1++sm m++dZ (f.2.take j));have BK:=ag (show M.length<=100000000 by
      have W:=pI.o;have h2:=pG.o;have h3:=Gy.o;have h4:=sM.o;have h5:=jH.o;rw [hM];simp only [List.length_append];omega)
     rw [<-hM] at d;have HM:=ag hM;clear hM;have Pi:=ag (rF (n:=x) (by omega));have ab:=ag (rF (n:=y) (by omega));obtain ⟨D,h⟩:=ai (wr.alloc (.cells #[.int .i64 (x:Int),.int .i64 (y:Int)] 185));have q:D.heap[wr.heap.size]? =some (.cells #[.int .i64 (x:Int),.int .i64 (y:Int)] 185 (0,0)):=by rw [h];exact heap_alloc_new wr _
     have s:ah wr D:=by rw [h];exact ae
     have H:ah w D:=g.trans (s.mono g.size);have Y:=ag (d.o.a s);clear d;go_wp2_with fail
     rw [<-h];refine (Wo x _ (by omega)).mono ?_
     rintro e w3 ⟨v3,rfl,t,l⟩;have I:ah w w3:=H.trans (l.mono H.size);obtain ⟨v4,J,Z,iW,u,z⟩:=Es (Y.o.a l) I.size (BA t) (by
      have W:=BK.o;have h2:=Pi.o;omega)
     have iX:ah w J:=I.trans u;have P:=z _ _ _ _ (by decide) (iV.of_below l _ _ _ _ (by decide) q);have r4:J.cell? ⟨wr.heap.size,1,none⟩=some (.int .i64 (y:Int)):=by rw [cell_of_row J wr.heap.size 1 _ _ (0,0) P];rfl
     have mD:=ag iW;have K:=ag iX;clear iW iX u z t l I q s h H Y P g p0 p1;go_wp2_with (first | (at_builtin;refine ku rfl (.tmp 37) (.tmp 41) 22 rfl rfl rfl rfl Z ?_) | fail)
     refine (Wo y _ (by omega)).mono ?_
     rintro e w5 ⟨v5,rfl,nE,r⟩;have N:ah w w5:=K.o.trans (r.mono K.o.size);obtain ⟨v6,w6,lY,lu,A,BJ⟩:=Es (mD.o.a r) N.size (BA nE) (by
      have W:=BK.o;have h2:=Pi.o;have h3:=ab.o;simp only [List.length_append];omega)
     have vD:=ag lu;have vG:=ag (N.trans A);clear lu A BJ nE r N mD K r4 Z;go_wp2_with (at_builtin;refine ku rfl (.tmp 43) (.tmp 47) 22 rfl rfl rfl rfl lY ?_)
     go_roundw
     case rel=>exact ⟨j+1,by omega,rfl,ag (by
      rw [aa.o];have:=vD.o
      rw [HM.o] at this;simpa using this),vG.o⟩
     case measure=>simp only [intOf];omega
    ·have ao:decide ((j:Int)<m)=false:=aA (by omega)
     have e:j=f.2.length:=by have:=gT.o;omega
     rw [e,List.take_length] at d;have HO:=ag (d.o);clear e d;go_wp2;go_roundw
     case rel=>exact ⟨k+1,mK.o,rfl,ag (by
      rw [HU.o];have:=HO.o
      rw [gT.o] at this;simpa [kv] using this),g⟩
     case measure=>have:=mK.o;simp only [intOf];omega
  ·have hd:decide ((k:Int)<n)=false:=aA (by omega)
   have e:k=fs.length:=by have:=HN.o;omega
   rw [e,List.take_length] at d;clear e;go_wp2;go_ret;exact ⟨_,rfl,by have:=d.o;rw [HN.o] at this;exact this,g⟩
theorem xA:∀(fs:List Fl) (m:Nat),(∀f∈fs,f.2.length<=m)->(cZ fs).length<=m*fs.length
 | [],m,_=>by simp [cZ]
 | f::fs,m,h=>by
  have a:=xA fs m (fun g b=>h g (by simp [b]));have c:=h f (by simp);unfold cZ at a ⊢;simp only [List.flatMap_cons,List.length_append,List.length_cons,Nat.mul_add];omega
theorem Gz {fs:List Fl} (h:oP fs) (b:fs.length<=40):(cZ fs).length<=2560:=by
 have:=xA fs 64 (fun f a=>(LV (h.1 f a)).2.2.2)
 omega
theorem GA {fs:List Fl} {B:Int} (d:fs.length<=1000) (c:∀f∈fs,f.1.length<=1000∧f.2.length<=1000) (e:dY (cZ fs)=0):okB fs:=by
 refine ⟨d,fun f a=>⟨(c f a).1,(c f a).2,fun x b=>?_⟩⟩;have:=(Ma e).2 x (List.mem_flatMap.2 ⟨f,a,b⟩)
 omega
theorem Wp {fs:List Fl} {B:Int} (d:fs.length<=40) (a:oP fs) (b:dL (cZ fs) B):okB fs:=
 GA (B:=B) (by omega) (fun f c=>by have:=LV (a.1 f c);omega) b.1
theorem qv9 (a:au) (n c:Nat) (fs:List Fl) (w:World) (d:RdF w (.slice a n c) fs) (k:n=fs.length) (f:okB fs):
  Calls Tryz.prog 179 #[.slice a n c] w fun e w'=>e=.returned (.bool (decide ((dS fs).length<=2048)))∧ah w w':=by
 have b:=qud a n c fs w d k f;clear d k f;obtain ⟨L,l⟩:=ai (dS fs);rw [<-l] at b ⊢;clear l;go_enter Tryz.func179,Tryz.ntmps179;go_wp2_with fail
 refine b.mono ?_
 rintro e u ⟨q,rfl,h,i⟩;obtain ⟨p,c1,rfl⟩:∃p c1,q=.slice p L.length c1:=by
   rcases h.2 with ⟨rfl,r⟩ | ⟨g,cap,s,rfl,_⟩
   ·exact ⟨_,_,by rw [r]⟩
   ·exact ⟨_,_,rfl⟩
 clear h b;obtain ⟨m,j⟩:=ai L.length;rw [<-j];have t:=ag j;clear j;go_wp2;go_ret;exact ⟨by have:=t.o;simp;omega,i⟩
theorem qwa (a:au) (n c:Nat) (fs:List Fl) (B:Int) (w:World) (f:RdF w (.slice a n c) fs) (p:n=fs.length) (l:wfFs fs):
  Calls Tryz.prog 141 #[.slice a n c,.int .i64 B] w fun e w'=>e=.returned (.bool (decide (eD fs B)))∧ah w w':=by
 have L:n<=maxLen:=p ▸ f.len_le;unfold maxLen at L;by_cases Q:40<n
 ·have q:=ag (show decide (eD fs B)=false by simp only [decide_eq_false_iff_not];intro h;have:=h.1;omega)
  have z:decide ((n:Int)<=40)=false:=aA (by omega);clear f p;go_enter Tryz.func141,Tryz.ntmps141;go_wp2;all_goals first | (go_ret;exact ⟨by rw [q.o];first | rfl | simp [z],aB⟩) | (exfalso;omega)
 have z:(n:Int)<=40:=by omega
 have x:fs.length<=40:=by omega
 have t:=qp0 a n c fs w f p;by_cases m:oP fs
 ·have i:decide (oP fs)=true:=by simpa using m
  rw [i] at t;clear i;have I:=Gz m x;have J:=ag (fun s (hb1:ah w s)=>Y0 a n c fs s (f.a hb1) p (by omega));by_cases u:dL (cZ fs) B
  ·have A:=Wp x m u
   have M:=ag (fun s (hb1:ah w s)=>qv9 a n c fs s (f.a hb1) p A);have q:=ag (show decide (eD fs B)=decide ((dS fs).length<=2048) by
    rw [decide_eq_decide];exact ⟨fun h=>h.2.2.2,fun h=>⟨x,m,u,h⟩⟩)
   have E:=ag u;have F:=ag (Pe l);clear f p l m I A u x;go_enter Tryz.func141,Tryz.ntmps141;go_wp2_with fail
   refine t.mono ?_
   rintro e s ⟨rfl,hb1⟩;clear t;go_wp2_with fail
   refine (J.o _ hb1).mono ?_
   rintro e C ⟨N,rfl,d,j⟩;have b:ah w C:=hb1.trans (j.mono hb1.size);obtain ⟨a2,c2,rfl⟩:=d.form;obtain ⟨G,g⟩:=ai ((cZ fs).length);rw [<-g] at d ⊢;have v:=Gr a2 G c2 (cZ fs) B C d.rd g F.o;rw [show decide (dL (cZ fs) B)=true by simpa using E.o] at v;clear g d hb1 j;go_wp2_with fail
   refine v.mono ?_
   rintro e H ⟨rfl,k⟩;have y:ah w H:=b.trans (k.mono b.size);clear v k b;go_wp2_with fail
   refine (M.o _ y).mono ?_
   rintro e O ⟨rfl,D⟩;have P:ah w O:=y.trans (D.mono y.size);clear D y;obtain ⟨r,K⟩:=ai (decide ((dS fs).length<=2048));rw [<-K] at q ⊢;clear K;go_wp2;go_ret;exact ⟨by rw [q.o];rfl,P⟩
  ·have q:=ag (show decide (eD fs B)=false by simp only [decide_eq_false_iff_not];exact fun h=>u h.2.2.1)
   have E:=ag u;have F:=ag (Pe l);clear f p l m I u x;go_enter Tryz.func141,Tryz.ntmps141;go_wp2_with fail
   refine t.mono ?_
   rintro e s ⟨rfl,hb1⟩;clear t;go_wp2_with fail
   refine (J.o _ hb1).mono ?_
   rintro e C ⟨N,rfl,d,j⟩;have b:ah w C:=hb1.trans (j.mono hb1.size);obtain ⟨a2,c2,rfl⟩:=d.form;obtain ⟨G,g⟩:=ai ((cZ fs).length);rw [<-g] at d ⊢;have v:=Gr a2 G c2 (cZ fs) B C d.rd g F.o;rw [show decide (dL (cZ fs) B)=false by simpa using E.o] at v;clear g d hb1 j;go_wp2_with fail
   refine v.mono ?_
   rintro e H ⟨rfl,k⟩;have y:ah w H:=b.trans (k.mono b.size);clear v k b;go_wp2;go_ret;exact ⟨by rw [q.o];rfl,y⟩
 ·have i:decide (oP fs)=false:=by simpa using m
  rw [i] at t;have q:=ag (show decide (eD fs B)=false by simp only [decide_eq_false_iff_not];exact fun h=>m h.2.1);clear f p m i x;go_enter Tryz.func141,Tryz.ntmps141;go_wp2_with fail
  refine t.mono ?_
  rintro e s ⟨rfl,hb1⟩;go_wp2;go_ret;exact ⟨by rw [q.o];rfl,hb1⟩
theorem Wq (a:au) (n c:Nat) (fs:List Fl) (B:Int) (w:World) (i:RdF w (.slice a n c) fs) (p:n=fs.length) (j:wfFs fs):
  Calls Tryz.prog 97 #[.agg #[.slice a n c],.int .i64 B] w fun e w'=>e=.returned (.int .i64 (bA fs B))∧ah w w':=by
 have f:∀o,ah w (w.alloc o):=fun o=>ae
 have s:=ag (fun m (hb1:ah w m)=>qwa a n c fs B m (i.a hb1) p j);have g:=ag f;clear i p j;have b:=qgx B;by_cases h:fq B
 ·rw [show decide (fq B)=true by simpa using h] at b
  have k:=ag (show bA fs B=if decide (eD fs B)=true then 0 else 8 by unfold bA;rw [if_neg (by simpa using h)];simp);clear h;go_enter Tryz.func97,Tryz.ntmps97;go_wp2_with (first | (go_at_call 139;refine (b _).mono ?_;rintro e m ⟨rfl,rfl⟩) | fail)
  refine (s.o _ (f _)).mono ?_
  rintro e t ⟨rfl,l⟩;have d:ah w t:=(g.o _).trans (l.mono (g.o _).size);obtain ⟨r,q⟩:=ai (decide (eD fs B));rw [<-q] at k ⊢;clear q l f b;cases r with
  | true=>
   go_wp2;go_ret;exact ⟨by rw [k.o];rfl,d⟩
  | false=>
   go_wp2;go_ret;exact ⟨by rw [k.o];rfl,d⟩
 ·rw [show decide (fq B)=false by simpa using h] at b
  have k:=ag (show bA fs B=2 by unfold bA;rw [if_pos h]);clear h;go_enter Tryz.func97,Tryz.ntmps97;go_wp2_with (go_at_call 139;refine (b _).mono ?_;rintro e m ⟨rfl,rfl⟩)
  go_ret;exact ⟨by rw [k.o];rfl,g.o _⟩
theorem qp8 (s t:ak) (w:World):
  Calls Tryz.prog 212 #[.string (bs s),.string (bs t)] w fun e w'=>e=.returned (.int .i64 (Lib.compareBytes s t))∧w'=w:=by
 go_enter Tryz.func212,Tryz.ntmps212;go_wp2;rw [run_callFunc_extern Tryz.func219 (by kernel_rfl) (by kernel_rfl) (by kernel_rfl) (e:=Extern.BytealgCompare.compare) (by kernel_rfl),Lib.run_compareString];simp only [Result.andThen,Lv];rw [Oper.upon_value];go_wp2;go_ret;exact ⟨rfl,rfl⟩
theorem que (s t:ak) (w:World):
  Calls Tryz.prog 190 #[.string (bs s),.string (bs t)] w fun e w'=>e=.returned (.int .i64 (Lib.compareBytes s t))∧w'=w:=by
 go_enter Tryz.func190,Tryz.ntmps190;go_wp2_with (go_at_call 212;refine (qp8 s t _).mono ?_;rintro e wc ⟨rfl,rfl⟩)
 go_ret;exact ⟨rfl,rfl⟩
theorem qok (s t:ak) (x:Value) (w:World):
  Calls Tryz.prog 189 #[.agg #[.string (bs s),x],.string (bs t)] w fun e w'=>e=.returned (.int .i64 (Lib.compareBytes s t))∧ah w w':=by
 have a:∀o,ah w (w.alloc o):=fun o=>ae
 go_enter Tryz.func189,Tryz.ntmps189;go_wp2_with (go_at_call 190;refine (que s t _).mono ?_;rintro e wc ⟨rfl,rfl⟩)
 go_ret;exact ⟨rfl,a _⟩
theorem quf (a:au) (n c:Nat) (fs:List Fl) (t:ak) (w:World) (C:RdF w (.slice a n c) fs) (Y:n=fs.length) (Z:mo fs) (hl:n<=1000000):
  Calls Tryz.prog 188 #[.slice a n c,.string (bs t),.func (.func 189) #[] #[]] w fun e w'=>e=.returned (.tuple #[.int .i64 (dU fs t),.bool (jZ fs t)])∧ah w w':=by
 have HR:=ag C;have D:=ag Y;have O:=ag Z;clear C Y Z;go_enter Tryz.func188,Tryz.ntmps188;go_wp2;go_loopw [9,10] (fun x y wr=>∃i j:Nat,i<=j∧j<=n∧x=.int .i64 i∧y=.int .i64 j∧af (∀k,(h:k<fs.length)->(k<i->ek (fs[k]).1 t=true)∧(j<=k->ek (fs[k]).1 t=false))∧ah w wr) (fun x y _=>(intOf y).toNat - (intOf x).toNat)
 case atStart=>exact ⟨0,n,Nat.zero_le _,Nat.le_refl _,rfl,rfl,ag (fun k h=>⟨fun h=>by omega,fun E=>by have:=D.o;omega⟩),aB⟩
 case round=>
  obtain ⟨i,j,al,P,rfl,rfl,l,d⟩:=hrel;by_cases am:i<j
  ·have aa:(i:Int)<j:=by omega
   obtain ⟨h,hh⟩:=ai ((i+j) / 2);have Q:i<=h:=by omega
   have an:h<j:=by omega
   have ao:h<n:=by omega
   have ap:((i:Int)+(j:Int)) / 2=(h:Int):=by omega
   have HH:=ag hh;have ab:(h:Int)<n:=by omega
   have p:h<fs.length:=by have:=D.o;omega
   obtain ⟨b,R,a2,c2,rfl,F,u,S⟩:=HR.o.atB d h p;clear hh;have HK:=ag (l.o h p);obtain ⟨f,A⟩:=ai (fs[h]);have K:=ag A;rw [<-A] at F u;clear A S;obtain ⟨m,G⟩:=ai f.2.length;rw [<-G] at u;clear G;go_wp2_with fail
   refine (qok f.1 t _ _).mono ?_
   rintro e T ⟨rfl,q⟩;have g:ah w T:=d.trans (q.mono d.size);have B:=ag (ZZ f.1 t).1;obtain ⟨z,H⟩:=ai (Lib.compareBytes f.1 t);rw [<-H] at B ⊢;clear H q F u;by_cases v:z<0
   ·have I:=ag (B.o.1 v)
    go_wp2;go_roundw
    case rel=>exact ⟨h+1,j,by omega,P,rfl,rfl,ag (fun k L=>⟨fun U=>by
      rcases Nat.lt_or_eq_of_le (Nat.le_of_lt_succ U) with r | r
      ·exact Gb _ _ _ (VS O.o r p) (by rw [<-K.o];exact I.o)
      ·subst r;rw [<-K.o];exact I.o,fun V=>(l.o k L).2 V⟩),g⟩
    case measure=>simp only [intOf];omega
   ·have I:=ag (show ek f.1 t=false by
     cases hq:ek f.1 t with
     | false=>rfl
     | true=>exact absurd (B.o.2 hq) v)
    have ac:decide (z<0)=false:=by simpa using v
    go_wp2;go_roundw
    case rel=>exact ⟨i,h,Q,by omega,rfl,rfl,ag (fun k L=>⟨fun W=>(l.o k L).1 W,fun X=>by
      rcases Nat.lt_or_eq_of_le X with r | r
      ·cases hq:ek (fs[k]).1 t with
       | false=>rfl
       | true=>
        have:=Gb _ _ _ (VS O.o r L) hq
        rw [<-K.o,I.o] at this;cases this
      ·subst r;rw [<-K.o];exact I.o⟩),g⟩
    case measure=>simp only [intOf];omega
  ·have hd:decide ((i:Int)<j)=false:=aA (by omega)
   obtain rfl:i=j:=by omega
   have M:=ag (Z7 (fs:=fs) (s:=t) (i:=i) (by have:=D.o;omega) (fun k h E=>(l.o k h).1 E) (fun k h E=>(l.o k h).2 E));have HI:=ag (NS O.o t);by_cases ad:i<n
   ·have J:(i:Int)<n:=by omega
    have p:i<fs.length:=by have:=D.o;omega
    obtain ⟨b,R,a2,c2,rfl,F,u,S⟩:=HR.o.atB d i p;have N:=ag (show jZ fs t=((fs[i]).1==t) by
     have r:=M.o;rw [HI.o,dif_pos (by omega)];simp only [r])
    obtain ⟨f,A⟩:=ai (fs[i]);rw [<-A] at F u N;clear A S;obtain ⟨m,G⟩:=ai f.2.length;rw [<-G] at u;clear G;go_wp2_with fail
    refine (qok f.1 t _ _).mono ?_
    rintro e T ⟨rfl,q⟩;have g:ah w T:=d.trans (q.mono d.size);have B:=ag (ZZ f.1 t).2;obtain ⟨z,H⟩:=ai (Lib.compareBytes f.1 t);rw [<-H] at B ⊢;clear H q F u;go_wp2
    all_goals (
     go_ret2;refine ⟨?_,g⟩;have hc:(z==0)=(f.1==t):=by rw [Bool.eq_iff_iff];simpa using B.o
     rw [M.o,N.o,<-hc];simp)
   ·have J:decide ((i:Int)<n)=false:=aA (by omega)
    have N:=ag (show jZ fs t=false by
     have r:=M.o;have E:=D.o;rw [HI.o,dif_neg (by omega)])
    go_wp2;go_ret2;exact ⟨by rw [M.o,N.o];rfl,d⟩
theorem FH (a:au) (n c:Nat) (fs:List Fl) (t:ak) (w:World) (b:RdF w (.slice a n c) fs) (g:n=fs.length) (h:mo fs) (i:n<=1000000):
  Calls Tryz.prog 152 #[.slice a n c,.string (bs t)] w fun e w'=>e=.returned (.tuple #[.int .i64 (dU fs t),.bool (jZ fs t)])∧ah w w':=by
 have d:=quf a n c fs t w b g h i;clear b g h;go_enter Tryz.func152,Tryz.ntmps152;go_wp2_with fail
 refine d.mono ?_
 rintro e j ⟨rfl,f⟩;go_wp2;go_ret2;exact ⟨rfl,f⟩
theorem qr7 (a:au) (n c:Nat) (l:List Ex) (w:World) (d:RdE w (.slice a n c) l) (h:n=l.length) (p:l.length<=1000000):
  Calls Tryz.prog 159 #[.slice a n c] w fun e w'=>∃v,e=.returned v∧bB w' w.heap.size v l∧ah w w':=by
 have t:=fun q=>Lib.run_eql_slice_nil (P:=Tryz.prog) q 96 185 a n c 0 0 Tryz.underlying96
 cases a with
 | none=>
  have i:=ag (show bB w w.heap.size (.slice none 0 0) l by
   rcases d with ⟨rfl,_⟩ | ⟨b,r,u,e,_⟩
   ·exact bB.nil _ _
   ·cases e)
  clear d h;go_enter Tryz.func159,Tryz.ntmps159;go_wp2;go_ret;exact ⟨_,rfl,i.o,aB⟩
 | some ad=>
  have f:ah w (w.alloc (.cells #[] 185)):=ae;have j:bB (w.alloc (.cells #[] 185)) w.heap.size (.slice (some ⟨w.heap.size,0,none⟩) 0 0) []:=World.ownsRow_made w #[] 0 aI (by decide) rfl;obtain ⟨x,y,z,g,k,m⟩:=Er j f.size (d.a f) h (by simpa using p);have i:=ag k;have s:=ag (f.trans m);clear j k m d h f;go_enter Tryz.func159,Tryz.ntmps159;go_wp2_with (at_builtin;refine ku rfl (.tmp 5) (.tmp 6) 96 rfl rfl rfl rfl g ?_)
  go_ret;exact ⟨_,rfl,by simpa using i.o,s.o⟩
def Me (w:World) (a:Addr):Value:=(w.cell? a).getD undef
def Two (p q:Nat) (s:ByteArray) (x:Value) (w:World):Prop:=p≠q∧w.heap[p]? =some (.cells #[.string s,x] 98 (0,0))∧∃y z,w.heap[q]? =some (.cells #[y,z] 98 (0,0))
theorem Two.a {p q:Nat} {s:ByteArray} {x:Value} {w w':World} (h:Two p q s x w) (hb:ah w w'):Two p q s x w':=by
 obtain ⟨c,a,y,z,b⟩:=h;exact ⟨c,(hb.block p (Array.getElem?_eq_some_iff.1 a).1).trans a,y,z,(hb.block q (Array.getElem?_eq_some_iff.1 b).1).trans b⟩
theorem Two.c0 {p q:Nat} {s:ByteArray} {x:Value} (w:World) (h:Two p q s x w):w.cell? ⟨p,0,none⟩=some (.string s):=by rw [cell_of_row w p 0 _ _ (0,0) h.2.1];rfl
theorem Two.c1 {p q:Nat} {s:ByteArray} {x:Value} (w:World) (h:Two p q s x w):w.cell? ⟨p,1,none⟩=some x:=by rw [cell_of_row w p 1 _ _ (0,0) h.2.1];rfl
theorem Two.e0 {p q:Nat} {s:ByteArray} {x:Value} (w:World) (h:Two p q s x w):w.cell? ⟨q,0,none⟩=some (Me w ⟨q,0,none⟩):=by obtain ⟨_,_,y,z,h⟩:=h;unfold Me;rw [cell_of_row w q 0 _ _ (0,0) h];rfl
theorem Two.e1 {p q:Nat} {s:ByteArray} {x:Value} (w:World) (h:Two p q s x w):w.cell? ⟨q,1,none⟩=some (Me w ⟨q,1,none⟩):=by obtain ⟨_,_,y,z,h⟩:=h;unfold Me;rw [cell_of_row w q 1 _ _ (0,0) h];rfl
theorem Two.fz {p q:Nat} {s:ByteArray} {x:Value} (w:World) (h:Two p q s x w) (i:Nat):w.frozen? ⟨q,i,none⟩=false:=by obtain ⟨_,_,y,z,h⟩:=h;exact frozen_of_row w q i _ _ h
theorem Two.put {p q:Nat} {s:ByteArray} {x:Value} {w:World} (h:Two p q s x w) (u v:Value):Two p q s x ((w.setCell ⟨q,0,none⟩ u).setCell ⟨q,1,none⟩ v)∧((w.setCell ⟨q,0,none⟩ u).setCell ⟨q,1,none⟩ v).heap[q]? =some (.cells #[u,v] 98 (0,0)):=by
 obtain ⟨a,b,y,z,c⟩:=h;have d:=heap_setCell_same w q 0 #[y,z] 98 u c;have a2:=heap_setCell_same (w.setCell ⟨q,0,none⟩ u) q 1 _ 98 v d;have e:=heap_setCell_other w ⟨q,0,none⟩ p u a;have f:=heap_setCell_other (w.setCell ⟨q,0,none⟩ u) ⟨q,1,none⟩ p v a;have a3:((w.setCell ⟨q,0,none⟩ u).setCell ⟨q,1,none⟩ v).heap[q]? =some (.cells #[u,v] 98 (0,0)):=by rw [a2];rfl
 exact ⟨⟨a,(f.trans e).trans b,u,v,a3⟩,a3⟩
theorem wR {w:World} {q:Nat} (u v:Value):w.grownBy ((w.setCell ⟨q,0,none⟩ u).setCell ⟨q,1,none⟩ v) (some q):=NF (lV w ⟨q,0,none⟩ u) (lV _ ⟨q,1,none⟩ v)
theorem JS (s:ak) (a:au) (n c:Nat) (l:List Ex) (w:World) (r:RdE w (.slice a n c) l) (D:n=l.length) (E:l.length<=1000000):
  Calls Tryz.prog 146 #[.agg #[.string (bs s),.slice a n c]] w fun e w'=>∃v,e=.returned (.agg #[.string (bs s),v])∧bB w' w.heap.size v l∧ah w w':=by
 have L:=ag (fun F (hb1:ah w F)=>qr7 a n c l F (r.a hb1) D E);clear r D E;obtain ⟨g,u⟩:∃g,g=(w.alloc (.cells #[.string (bs s),.slice a n c] 98)).alloc (.cells #[.string {data:=#[]},.slice none 0 0] 98):=⟨_,rfl⟩
 have f:ah w g:=by rw [u];exact (ae).alloc (by simp) _
 have j:Two w.heap.size (w.heap.size+1) (bs s) (.slice a n c) g:=by
  rw [u];refine ⟨by omega, ?_,.string {data:=#[]},.slice none 0 0, ?_⟩
  ·have:=heap_alloc_new w (.cells #[.string (bs s),.slice a n c] 98)
   rw [<-this];exact ((Below.refl (w.alloc (.cells #[.string (bs s),.slice a n c] 98)).heap.size _).alloc aI _).block _ (by simp)
  ·have:=heap_alloc_new (w.alloc (.cells #[.string (bs s),.slice a n c] 98)) (.cells #[.string {data:=#[]},.slice none 0 0] 98)
   simpa using this
 have M:=fun d h=>Two.c0 (p:=w.heap.size) (q:=w.heap.size+1) (s:=bs s) (x:=.slice a n c) d h
 have N:=fun d h=>Two.c1 (p:=w.heap.size) (q:=w.heap.size+1) (s:=bs s) (x:=.slice a n c) d h
 have O:=fun d h=>Two.e0 (p:=w.heap.size) (q:=w.heap.size+1) (s:=bs s) (x:=.slice a n c) d h
 have P:=fun d h=>Two.e1 (p:=w.heap.size) (q:=w.heap.size+1) (s:=bs s) (x:=.slice a n c) d h
 have Q:=fun d i h=>Two.fz (p:=w.heap.size) (q:=w.heap.size+1) (s:=bs s) (x:=.slice a n c) d h i
 go_enter Tryz.func146,Tryz.ntmps146;go_wp2;rw [<-u];have G:=j;clear j u;go_region_held3 (fun d=>Two w.heap.size (w.heap.size+1) (bs s) (.slice a n c) d) (first | assumption | exact (Two.put (by assumption) _ _).1 | exact Two.a (by assumption) (by assumption)) ((go_at_call 159;refine (L.o _ (by exact f.drew)).mono ?_;rintro e A ⟨V,rfl,b,H⟩;obtain ⟨a2,c2,rfl⟩:=b.form))
 have I:ah g A:=((Below.refl g.heap.size g).drew).trans H;have j:=G.a I;obtain ⟨R,B⟩:=j.put (.string (bs s)) (.slice a2 l.length c2);obtain ⟨y,z,J⟩:=j.2.2;have t:ah w A:=f.trans (I.mono f.size);have C:=wR (w:=A) (q:=w.heap.size+1) (.string (bs s)) (.slice a2 l.length c2);obtain ⟨m,K⟩:=ai ((A.setCell ⟨w.heap.size+1,0,none⟩ (.string (bs s))).setCell ⟨w.heap.size+1,1,none⟩ (.slice a2 l.length c2));rw [<-K] at B C ⊢;have S:=ag (show bB m w.heap.size (.slice a2 l.length c2) l from bB.mono (World.ownsRow.kept b C (.inr (b.apartF J))) f.size);have T:=ag (show ah w m from t.grown C t.size (by intro k U;cases U;omega));have W:m.cell? ⟨w.heap.size+1,0,none⟩=some (.string (bs s)):=by rw [cell_of_row m _ 0 _ _ (0,0) B];rfl
 have X:m.cell? ⟨w.heap.size+1,1,none⟩=some (.slice a2 l.length c2):=by rw [cell_of_row m _ 1 _ _ (0,0) B];rfl
 clear j R B J C K b H G M N O P Q;go_wp2;try simp only [Exit.inBlock,Exit.then]
 refine bodyPost_ret (v:=.agg #[.string (bs s),.slice a2 l.length c2]) ?_ rfl ⟨_,rfl,S.o,T.o⟩
 simp [results,Tryz.results146,go_sem, *]
theorem bJ.parts {w:World} {base:Nat} {v:Value} {fs:List Fl} (h:bJ w base v fs):∃b a c,b.map Prod.fst=fs∧b.length=fs.length∧v=.slice a fs.length c∧mE w base (.slice a fs.length c) b:=by
 obtain ⟨a,c,rfl⟩:=h.form;obtain ⟨b,rfl,h⟩:=h;exact ⟨b,a,c,rfl,by simp,rfl,h⟩
theorem Eu {w:World} {base:Nat} {v:Value} {fs:List Fl} (h:bJ w base v fs) (hb:base<=w.heap.size) (d:fs.length<=1000000) (s:ak) (x:Value) (l:List Ex) (e:bB w base x l):
  ∃g c w',(Builtin.append_ #[28,28] 28 #[v,.slice (some ⟨w.heap.size,0,none⟩) 1 1]).run Tryz.prog (w.alloc (.cells #[.string (bs s),x] 98))=.ok (.slice (some ⟨g,0,none⟩) (fs.length+1) c) w'∧
   bJ w' base (.slice (some ⟨g,0,none⟩) (fs.length+1) c) (fs++[(s,l)])∧Below base w w':=by
 obtain ⟨f,rfl,h⟩:=h;rw [List.length_map] at d;obtain ⟨g,c,w',a,i,b⟩:=qv7 h hb d s x l e;rw [List.length_map];exact ⟨g,c,w',a,⟨f++[((s,l),x)],by simp,i⟩,b⟩
theorem qyb (a:au) (n c:Nat) (fs:List Fl) (w:World) (y:RdF w (.slice a n c) fs) (G:n=fs.length) (S:fs.length<=1000) (z:∀f∈fs,f.2.length<=1000000):
  Calls Tryz.prog 193 #[.slice a n c] w fun e w'=>∃v,e=.returned v∧bJ w' w.heap.size v fs∧ah w w':=by
 have hm:n<=1000:=by omega
 have T:=ag y;have H:=ag G;have U:=ag z;clear y G S z;go_enter Tryz.func193,Tryz.ntmps193;go_wp2;go_loopw [8,3] (fun i v wr=>∃k:Nat,k<=n∧i=.int .i64 k∧af (bJ wr w.heap.size v (fs.take k))∧ah w wr) (fun i _ _=>n - (intOf i).toNat)
 case atStart=>exact ⟨0,Nat.zero_le _,rfl,ag (by simpa using bJ.nil _ _),aB⟩
 case round=>
  obtain ⟨k,hk,rfl,h,d⟩:=hrel;by_cases V:k<n
  ·have I:(k:Int)<n:=by omega
   have t:k<fs.length:=by have:=H.o;omega
   have J:=ag (uE fs k t);have K:=ag (show (fs.take k).length=k by rw [List.length_take];omega);obtain ⟨b,W,a2,c2,rfl,D,B,L⟩:=T.o.atB d k t;have E:=ag L;have M:=ag (U.o _ (List.getElem_mem t));clear L;obtain ⟨f,N⟩:=ai (fs[k]);rw [<-N] at D B E J M;clear N;obtain ⟨s,l⟩:=f;simp only at D B
   obtain ⟨m,j⟩:=ai l.length;have X:=ag (show RdE w (.slice a2 m c2) l by rw [j];exact E.o);rw [<-j] at B;have Y:=ag j;clear j E;have A:∀o,ah w (wr.alloc o):=fun o=>d.alloc d.size o
   go_wp2_with fail
   refine (JS s a2 m c2 l _ (X.o.a (A _)) Y.o M.o).mono ?_
   rintro e Z ⟨v1,rfl,p,q⟩;obtain ⟨O,u⟩:=ai (wr.alloc (.cells #[.string (bs s),.slice a2 m c2] 98));rw [<-u] at p q;have x:ah wr O:=by rw [u];exact ae
   have C:ah w O:=d.trans (x.mono d.size);have F:ah w Z:=C.trans (q.mono C.size);obtain ⟨g,cc,w9,r,P,Q⟩:=Eu ((h.o.a x).a q) F.size (by have:=K.o;omega) s v1 l (p.mono C.size);have R:=ag P;have lh:=ag (F.trans Q);rw [K.o] at r R;obtain ⟨av,cv,rfl⟩:=p.form;clear P Q p q u x C F h D B A;go_wp2_with (at_builtin;refine ku rfl (.tmp 12) (.tmp 15) 28 rfl rfl rfl rfl r ?_)
   go_roundw
   case rel=>exact ⟨k+1,by omega,rfl,ag (by rw [J.o];exact R.o),lh.o⟩
   case measure=>simp only [intOf];omega
  ·have hd:decide ((k:Int)<n)=false:=aA (by omega)
   have e:k=fs.length:=by have:=H.o;omega
   rw [e,List.take_length] at h;clear e;go_wp2;go_ret;exact ⟨_,rfl,h.o,d⟩
theorem qr8 (w:World) (g:Nat) (cs:Array Value):w.grownBy (w.setRow g cs) (some g):=
 ⟨rfl,rfl,rfl,by simp [World.setRow],fun k _ a=>setRow_other w g k cs (fun e=>a (by rw [e]))⟩
theorem Wu (w:World) (m:TypeId) (g o b e:Nat) (a:Addr) (c f:Nat) (d:Array Value) (cs:List Value)
  (n:w.heap[g]? =some (.cells d 98 (0,0))) (p:cs.length=Nat.min c b*2)
  (h:∀j v,cs[j]? =some v->w.cell? (a.add j)=some v) (i:o+cs.length<=d.size) (q:∀v∈cs,v.oneCell'=true):
  (Builtin.copy_ #[28,28] m #[.slice (some ⟨g,o,none⟩) b e,.slice (some a) c f]).run Tryz.prog w=
   .ok (goInt (Nat.min c b)) (w.setRow g (d.toList.take o++cs++d.toList.drop (o+cs.length)).toArray):=by
 have r:=run_loadCells_list (P:=Tryz.prog) w a cs h;have k:=run_storeCells_at Tryz.prog g o 98 cs 0 d w n (by simpa using i) q;obtain ⟨x,s,t,l,u⟩:=info_parts Tryz.infoFl;simp [Builtin.copy_,run_underlying Tryz.underlying28,Builtin.lenOf,Builtin.firstCells,sizeOf,typeInfo,s,l,<-p,r,k]
theorem mE.block {w:World} {base g n c:Nat} {d:List (Fl × Value)} (h:mE w base (.slice (some ⟨g,0,none⟩) n c) d):
  ∃a:Array Value,n=d.length∧base<=g∧w.heap[g]? =some (.cells a 98 (0,0))∧n<=c∧c<=maxLen∧a.size=c*2∧a.toList.take (n*2)=fK d:=by
 rcases h.1.2 with ⟨e,_⟩ | ⟨m,cap,a,e,i,j,k,l,f,b⟩
 ·cases e
 ·cases e;exact ⟨a,rfl,i,j,k,l,f,b⟩
theorem mE.laid {w:World} {base g n c m:Nat} {o qs:List (Fl × Value)} (h:mE w base (.slice (some ⟨g,0,none⟩) n c) o) (new:List Value) (d:new.length=c*2) (j:m=qs.length) (p:m<=c)
  (r:new.take (m*2)=fK qs) (k:∀q∈qs,bB w base q.2 q.1.2):mE (w.setRow g new.toArray) base (.slice (some ⟨g,0,none⟩) m c) qs∧w.grownBy (w.setRow g new.toArray) (some g):=by
 obtain ⟨e,rfl,s,l,t,f,u,i⟩:=h.block;have a:=qr8 w g new.toArray;refine ⟨⟨⟨by rw [Ep],.inr ⟨g,c,new.toArray,by rw [j],s,setRow_heap w g e _ 98 _ l,by omega,f,by simpa using d,by subst j;simpa using r⟩⟩,fun q b=>?_⟩,a⟩;exact World.ownsRow.kept (k q b) a (.inr ((k q b).apartF l))
abbrev dl (t:ak):Fl × Value->Bool:=fun p=>!(p.1.1==t)
theorem qwb {P:Program} {o:Oper} {a:Act} {s x:Operand} {t:TypeId} {v y c:Value} {w w':World} (d:o.op=.call {callee:=.builtin .copy,args:=#[s,x],argTypes:=#[t,t]}) (e:a.eval s=v) (f:a.eval x=y)
  (b:(Builtin.copy_ #[t,t] o.type #[v,y]).run P w=.ok c w'):(execOp a.eval o).run P w=.ok (.value c) w':=by
 simp [execOp,d,resolve,invoke,builtin,e,f,b,Result.andThen]
theorem qh3 {P:Program} {w w':World} {b:Array Oper} {rest:List Oper} {o:Oper} {a:Act} {Q:Exit->Act->World->Prop} (d:o.guard=none) (s x:Operand) (t:TypeId)
  (g:o.op=.call {callee:=.builtin .copy,args:=#[s,x],argTypes:=#[t,t]}) {v e f:Value} (i:a.eval s=v) (j:a.eval x=e)
  (c:(Builtin.copy_ #[t,t] o.type #[v,e]).run P w=.ok f w') (h:wpList P b Q rest (a.put o.dst f) w'):wpList P b Q (o::rest) a w:=by
 refine wpList_plain d fun K k=>?_
 unfold Oper.wp execOp;simp only [g,resolve,invoke,builtin,Sem.run_bind,Sem.run_pure,Result.andThen_ok,List.map_toArray,List.map_cons,List.map_nil,i,j,c];exact k _ _ h
theorem qh4 {P:Program} {w w':World} {b:Array Oper} {rest:List Oper} {o:Oper} {a:Act} {Q:Exit->Act->World->Prop} (d:o.guard=none) (s x:Operand) (t u:TypeId)
  (g:o.op=.call {callee:=.builtin .append,args:=#[s,x],argTypes:=#[t,u]}) {v e f:Value} (i:a.eval s=v) (j:a.eval x=e)
  (c:(Builtin.append_ #[t,u] o.type #[v,e]).run P w=.ok f w') (h:wpList P b Q rest (a.put o.dst f) w'):wpList P b Q (o::rest) a w:=by
 refine wpList_plain d fun K k=>?_
 unfold Oper.wp execOp;simp only [g,resolve,invoke,builtin,Sem.run_bind,Sem.run_pure,Result.andThen_ok,List.map_toArray,List.map_cons,List.map_nil,i,j,c];exact k _ _ h
theorem zw (R A B D:List Value) (k:Nat) (a:R.take k=A) (b:A.length=k) (c:k+B.length+D.length<=R.length):
  (((R.take k++B++R.drop (k+B.length)).take (k+B.length)++D++(R.take k++B++R.drop (k+B.length)).drop (k+B.length+D.length))).take (k+B.length+D.length)=A++B++D:=by
 rw [a];have e1:(A++B++R.drop (k+B.length)).take (k+B.length)=A++B:=by
  rw [List.take_append_of_le_length (by rw [List.length_append];omega),List.take_of_length_le (by rw [List.length_append];omega)]
 rw [e1,List.take_append_of_le_length (by simp only [List.length_append];omega),List.take_of_length_le (by simp only [List.length_append];omega)]
theorem qafj (R A B D:List Value) (k:Nat) (a:R.take k=A) (c:A.length=k) (d:k+B.length+D.length<=R.length):
  ((R.take (k+B.length)++D++R.drop (k+B.length+D.length)).take k++B++(R.take (k+B.length)++D++R.drop (k+B.length+D.length)).drop (k+B.length)).take (k+B.length+D.length)=A++B++D:=by
 have e0:(R.take (k+B.length)).length=k+B.length:=by rw [List.length_take];omega
 have e1:(R.take (k+B.length)++D++R.drop (k+B.length+D.length)).take k=A:=by
  rw [List.append_assoc,List.take_append_of_le_length (by omega),List.take_take,Nat.min_eq_left (by omega),a]
 have b:(R.take (k+B.length)++D++R.drop (k+B.length+D.length)).drop (k+B.length)=D++R.drop (k+B.length+D.length):=by
  rw [List.append_assoc,List.drop_append_of_le_length (by omega),List.drop_of_length_le (by omega)];rfl
 rw [e1,b,<-List.append_assoc,List.take_append_of_le_length (by simp only [List.length_append];omega),List.take_of_length_le (by simp only [List.length_append];omega)]
theorem Wv (R B:List Value) (k:Nat) (a:k+B.length<=R.length):(R.take k++B++R.drop (k+B.length)).length=R.length:=by
 simp only [List.length_append,List.length_take,List.length_drop];omega
end Go.Proofs.YthpammbgcidloaaGreat

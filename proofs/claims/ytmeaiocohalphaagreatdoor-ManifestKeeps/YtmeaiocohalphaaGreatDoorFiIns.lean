/-
  without; the library's Insert of one file.
-/
import Derived.Test.YtmeaiocohalphaaGreatDoorFiRow
import Derived.Lib.AppendZerosOnto
import Derived.Lib.Overlaps
set_option maxHeartbeats 2000000
set_option maxRecDepth 100000
namespace Go.Proofs.YtmeaiocohalphaaGreatDoor
open Go.RowKit
set_option linter.unusedVariables false
set_option linter.unusedSimpArgs false
theorem qoh:∀(ps:List (Fl × Value)) (i:Nat) (q:Fl × Value),i<ps.length→qai (ps.set i q)=((qai ps).set (i*2) (.string (bs q.1.1))).set (i*2+1) q.2
 | p::ps,0,q,_=>by simp [qai]
 | p::ps,i+1,q,h=>by
  have:=qoh ps i q (by simpa using h)
  rw [List.set_cons_succ,qe4,qe4,this,show (i+1)*2=i*2+1+1 by omega];rfl
theorem OwP.block {w:World} {base g n c:Nat} {ps:List (Fl × Value)} (h:OwP w base (.slice (some ⟨g,0,none⟩) n c) ps):
  ∃cur:Array Value,n=ps.length∧base≤g∧w.heap[g]? =some (.cells cur 98 (0,0))∧n≤c∧c≤maxLen∧cur.size=c*2∧cur.toList.take (n*2)=qai ps:=by
 rcases h.1.2 with ⟨e,_⟩ | ⟨g',cap,cur,e,hb,hg,hn,hm,hsz,htake⟩
 ·cases e
 ·cases e;exact ⟨cur,rfl,hb,hg,hn,hm,hsz,htake⟩
theorem OwP.stored {w:World} {base g n c:Nat} {ps:List (Fl × Value)} (h:OwP w base (.slice (some ⟨g,0,none⟩) n c) ps) (i:Nat) (hi:i<ps.length) (q:Fl × Value) (hq:OwE w base q.2 q.1.2):
  OwP ((w.setCell ⟨g,i*2,none⟩ (.string (bs q.1.1))).setCell ⟨g,i*2+1,none⟩ q.2) base (.slice (some ⟨g,0,none⟩) n c) (ps.set i q)∧
   w.grownBy ((w.setCell ⟨g,i*2,none⟩ (.string (bs q.1.1))).setCell ⟨g,i*2+1,none⟩ q.2) (some g):=by
 obtain ⟨cur,rfl,hb,hg,_⟩:=h.block;have h1:=World.ownsRow.stored h.1 (i*2) (.string (bs q.1.1));have h2:=World.ownsRow.stored h1.1 (i*2+1) q.2;have hgr:=qdj h1.2 h2.2;refine ⟨⟨?_, ?_⟩,hgr⟩
 ·rw [qoh ps i q hi,List.length_set];exact h2.1
 ·intro p hp
  have hpo:OwE w base p.2 p.1.2:=by
   rcases List.mem_or_eq_of_mem_set hp with hp | rfl
   ·exact h.2 p hp
   ·exact hq
  exact World.ownsRow.kept hpo hgr (.inr (hpo.apartF hg))
theorem OwP.cells {w:World} {base g n c:Nat} {ps:List (Fl × Value)} (h:OwP w base (.slice (some ⟨g,0,none⟩) n c) ps) (j:Nat) (hj:j<ps.length):
  w.cell? ⟨g,j*2,none⟩=some (.string (bs (ps[j]).1.1))∧w.cell? ⟨g,j*2+1,none⟩=some (ps[j]).2:=by
 obtain ⟨e1,e2⟩:=qgn ps j hj;have c1:=h.1.cells (g:=g) rfl _ _ e1;have c2:=h.1.cells (g:=g) rfl _ _ e2;rw [Addr.add_lit] at c1 c2;exact ⟨by simpa using c1,by simpa [Nat.add_assoc] using c2⟩
theorem OwP.fz {w:World} {base g n c:Nat} {ps:List (Fl × Value)} (h:OwP w base (.slice (some ⟨g,0,none⟩) n c) ps) (j:Nat):w.frozen? ⟨g,j,none⟩=false:=by
 obtain ⟨cur,rfl,hb,hg,_⟩:=h.block;exact frozen_of_row w g j _ _ hg
theorem OwP.laid {w:World} {base g n c m:Nat} {ps qs:List (Fl × Value)} (h:OwP w base (.slice (some ⟨g,0,none⟩) n c) ps) (new:List Value) (hnl:new.length=c*2) (hm:m=qs.length) (hmc:m≤c)
  (ht:new.take (m*2)=qai qs) (hq:∀q∈qs,OwE w base q.2 q.1.2):OwP (w.setRow g new.toArray) base (.slice (some ⟨g,0,none⟩) m c) qs∧w.grownBy (w.setRow g new.toArray) (some g):=by
 obtain ⟨cur,rfl,hb,hg,hnc,hcm,hsz,htake⟩:=h.block;have hgr:=qr1 w g new.toArray;refine ⟨⟨⟨by rw [qbn],.inr ⟨g,c,new.toArray,by rw [hm],hb,setRow_heap w g cur _ 98 _ hg,by omega,hcm,by simpa using hnl,by subst hm;simpa using ht⟩⟩,fun q hq'=>?_⟩,hgr⟩;exact World.ownsRow.kept (hq q hq') hgr (.inr ((hq q hq').apartF hg))
theorem qng {P:Program} {w w':World} {ops:Array Oper} {rest:List Oper} {o:Oper} {a:Act} {Q:Exit→Act→World→Prop} (hgd:o.guard=none) (s:Operand) (t:TypeId)
  (ho:o.op=.call {callee:=.builtin .clear,args:=#[s],argTypes:=#[t]}) {v v':Value} (hs:a.eval s=v)
  (hrun:(Builtin.clear_ #[t] o.type #[v]).run P w=.ok v' w') (h:wpList P ops Q rest (a.put o.dst v') w'):wpList P ops Q (o::rest) a w:=by
 refine wpList_plain hgd fun K hK=>?_
 unfold Oper.wp execOp
 simp only [ho,resolve,invoke,builtin,Sem.run_bind,Sem.run_pure,Result.andThen_ok,List.map_toArray,List.map_cons,List.map_nil,hs,hrun]
 exact hK _ _ h
abbrev dl (t:List UInt8):Fl × Value→Bool:=fun p=>!(p.1.1==t)
theorem dl_map (ps:List (Fl × Value)) (t:List UInt8):(ps.filter (dl t)).map Prod.fst=delF (ps.map Prod.fst) t:=by
 unfold delF;rw [List.filter_map];rfl
theorem qab0 {fs:List Fl} {t:List UInt8} {k:Nat} (h:idxF fs t=k):∃hk:k<fs.length,(fs[k]).1=t∧∀j,(h:j<k)→(fs[j]).1≠t:=by
 unfold idxF at h
 split at h
 ·rename_i h1
  have e:fs.findIdx (fun f=>f.1==t)=k:=by omega
  subst e;refine ⟨h1, ?_,fun j hj=>?_⟩
  ·have:=List.findIdx_getElem (w:=h1);simpa using this
  ·have:=List.not_of_lt_findIdx hj;simpa using this
 ·omega
theorem qab1 {fs:List Fl} {t:List UInt8} (h:idxF fs t=-1):∀f∈fs,(f.1==t)=false:=by
 unfold idxF at h
 split at h
 ·omega
 ·rename_i h1
  intro f hf
  have h2:fs.findIdx (fun f=>f.1==t)=fs.length:=by have:=List.findIdx_le_length (xs:=fs) (p:=fun f=>f.1==t);omega
  have:=List.findIdx_eq_length.1 h2 f hf
  simpa using this
theorem qaf7 (fs:List Fl) (t:List UInt8):idxF fs t=-1∨∃k:Nat,idxF fs t=k:=by
 unfold idxF
 split
 ·exact .inr ⟨_,rfl⟩
 ·exact .inl rfl
theorem qt0 (base:Nat) (v:Value) (a:Option Addr) (n c:Nat) (ps:List (Fl × Value)) (t:List UInt8) (p:Nat) (w:World) (hv:v=.slice a n c) (hown:OwP w base v ps) (hn:n=ps.length) (hl:n≤1000) (hb:base≤w.heap.size) (hpb:p<base) (hp:w.cell? ⟨p,0,none⟩=some (.string (bs t))):
  Calls Tryz.prog 249 #[v,.func (.func 251) #[] #[.pointer (some ⟨p,0,none⟩)]] w fun e w'=>∃v',e=.returned v'∧OwF w' base v' (delF (ps.map Prod.fst) t)∧Below base w w':=by
 subst hv;have hix:=qy7 a n c (ps.map Prod.fst) t p w hown.rd (by simpa using hn) hp
 rcases qaf7 (ps.map Prod.fst) t with hk | ⟨k,hk⟩
 ·have HO:=hide (show OwF w base (.slice a n c) (delF (ps.map Prod.fst) t) by
   refine ⟨ps, ?_,hown⟩;unfold delF;rw [List.filter_eq_self.2];intro f hf
   simp [qab1 hk f hf])
  rw [hk] at hix;clear hk hown hn
  go_enter Tryz.func249,Tryz.ntmps249
  go_wp2_with fail
  refine hix.mono ?_
  rintro e w1 ⟨rfl,hb1⟩;go_wp2;go_ret;exact ⟨_,rfl,HO.out.carry hb1,hb1.mono hb⟩
 ·obtain ⟨hkl,hkt,hkb⟩:=qab0 hk
  rw [hk] at hix
  have hkn:k<n:=by rw [List.length_map] at hkl;omega
  obtain ⟨g,rfl⟩:∃g,a=some ⟨g,0,none⟩:=by
   rcases hown.1.2 with ⟨e,h0⟩ | ⟨g,cap,cur,e,_⟩
   ·omega
   ·cases e;exact ⟨g,rfl⟩
  have HT:=hide (show ps.take k=(ps.take (k+1)).filter (dl t) by
   have hk2:k<ps.length:=by omega
   rw [qbd ps k hk2,List.filter_append]
   have e1:(ps.take k).filter (dl t)=ps.take k:=by
    rw [List.filter_eq_self];intro q hq;obtain ⟨j,hj,rfl⟩:=List.mem_iff_getElem.1 hq;rw [List.length_take] at hj
    have:=hkb j (by omega)
    simp only [List.getElem_map] at this
    simp [dl,List.getElem_take,this]
   have e2:[ps[k]].filter (dl t)=[]:=by
    have:(ps[k]).1.1=t:=by simpa using hkt
    simp [dl,this]
   rw [e1,e2,List.append_nil])
  have HOWN:=hide hown;have HN:=hide hn;have HP:=hide hp;clear hk hkl hkt hkb hown hn hp
  have hkn':(k:Int)<n:=by omega
  go_enter Tryz.func249,Tryz.ntmps249
  go_wp2_with fail
  refine hix.mono ?_
  rintro e w1 ⟨rfl,hb1⟩;clear hix
  have hk0:((k:Int)==-1)=false:=by first | (simp;done) | (simp;omega)
  go_wp2
  go_loopw [5,6] (fun x y wr=>∃(i j:Nat) (qs:List (Fl × Value)),i<j∧j≤n∧x=.int .i64 i∧y=.int .i64 j∧Hid (OwP wr base (.slice (some ⟨g,0,none⟩) n c) qs∧qs.length=n∧qs.take i=(ps.take j).filter (dl t)∧qs.drop j=ps.drop j)∧Below base w wr) (fun _ y _=>n - (intOf y).toNat)
  case atStart=>exact ⟨k,k+1,ps,by omega,by omega,rfl,by go_num,hide ⟨HOWN.out.carry hb1,HN.out.symm,HT.out,rfl⟩,hb1.mono hb⟩
  case round=>
   obtain ⟨i,j,qs,hij,hjn,rfl,rfl,hinv,hbel⟩:=hrel;clear hb1 hkn' hk0
   by_cases hlt:j<n
   ·have hlt':(j:Int)<n:=by omega
    have hjq:j<qs.length:=by have:=hinv.out.2.1;omega
    obtain ⟨q0,q1⟩:=hinv.out.1.cells j hjq;have HQ:=hide (hinv.out.1.2 _ (List.getElem_mem hjq))
    have HQJ:=hide (show ∃h:j<ps.length,qs[j]=ps[j] by
     have h1:=hinv.out.2.2.2
     have h2:j<ps.length:=by have:=HN.out;omega
     refine ⟨h2, ?_⟩
     have h3:(qs.drop j)[0]? =(ps.drop j)[0]?:=by rw [h1]
     rw [List.getElem?_drop,List.getElem?_drop,Nat.add_zero,List.getElem?_eq_getElem hjq,List.getElem?_eq_getElem h2] at h3
     exact Option.some.inj h3)
    obtain ⟨q,hq⟩:∃q,q=qs[j]:=⟨_,rfl⟩;rw [←hq] at q0 q1 HQ HQJ;have HE:=hide hq;clear hq;obtain ⟨⟨s,l⟩,x⟩:=q
    simp only at q0 q1
    obtain ⟨ax,cx,hxf⟩:∃ax cx,x=.slice ax l.length cx:=HQ.out.form;subst hxf;obtain ⟨m,hm⟩:∃m,m=l.length:=⟨_,rfl⟩;have HM:=hide hm;rw [←hm] at q1;clear hm
    have hb0:∀o,Below wr.heap.size wr (wr.alloc o):=fun o=>(Below.refl _ _).alloc (Nat.le_refl _) _
    have hbelo:∀o,Below base w (wr.alloc o):=fun o=>hbel.trans ((hb0 o).mono (Nat.le_trans hb hbel.size))
    go_wp2_with fail
    obtain ⟨w2,hw2⟩:∃w2,w2=wr.alloc (.cells #[.string (bs s),.slice ax m cx] 98):=⟨_,rfl⟩
    refine (qjo s t _ p _ (by rw [(hbelo _).cell (p:=⟨p,0,none⟩) hpb];exact HP.out)).mono ?_
    rintro e w3 ⟨rfl,hb3⟩;rw [←hw2] at hb3
    have hblk:w2.heap[wr.heap.size]? =some (.cells #[.string (bs s),.slice ax m cx] 98 (0,0)):=by rw [hw2];exact heap_alloc_new wr _
    have hblk3:w3.heap[wr.heap.size]? =some (.cells #[.string (bs s),.slice ax m cx] 98 (0,0)):=(hb3.block _ (Array.getElem?_eq_some_iff.1 hblk).1).trans hblk
    have z0:w3.cell? ⟨wr.heap.size,0,none⟩=some (.string (bs s)):=by rw [cell_of_row w3 _ 0 _ _ (0,0) hblk3];rfl
    have z1:w3.cell? ⟨wr.heap.size,1,none⟩=some (.slice ax m cx):=by rw [cell_of_row w3 _ 1 _ _ (0,0) hblk3];rfl
    have hb23:Below wr.heap.size wr w3:=by
     have h1:Below wr.heap.size wr w2:=by rw [hw2];exact hb0 _
     exact h1.trans (hb3.mono h1.size)
    have hbel3:Below base w w3:=hbel.trans (hb23.mono (Nat.le_trans hb hbel.size));have HI3:=hide (show OwP w3 base (.slice (some ⟨g,0,none⟩) n c) qs from hinv.out.1.carry hb23);have HQ3:=hide (HQ.out.carry hb23);clear hw2 hb3 hblk hblk3 hbelo hb0 hb23 q0 q1
    by_cases hst:s=t
    ·have HF:=hide (show (ps.take (j+1)).filter (dl t)=(ps.take j).filter (dl t) by
      obtain ⟨h2,h3⟩:=HQJ.out;rw [qbd ps j h2,List.filter_append,←h3]
      simp [dl,hst])
     have hst':(s==t)=true:=by simp [hst]
     rw [hst'];clear hst hst';go_wp2;go_roundw
     case rel=>exact ⟨i,j+1,qs,by omega,by omega,rfl,rfl,hide ⟨HI3.out,hinv.out.2.1,by rw [HF.out];exact hinv.out.2.2.1,by
      have:=hinv.out.2.2.2
      rw [←List.drop_drop,this,List.drop_drop]⟩,hbel3⟩
     case measure=>simp only [intOf];omega
    ·have HF:=hide (show (ps.take (j+1)).filter (dl t)=(ps.take j).filter (dl t)++[((s,l),.slice ax l.length cx)] by
      obtain ⟨h2,h3⟩:=HQJ.out;rw [qbd ps j h2,List.filter_append,←h3]
      simp [dl,hst])
     have hst':(s==t)=false:=by simp [hst]
     rw [hst'];clear hst hst'
     have hiq:i<qs.length:=by have:=hinv.out.2.1;omega
     have hin:(i:Int)<n:=by omega
     obtain ⟨y0,y1⟩:=HI3.out.cells i hiq;have f0:=HI3.out.fz (i*2);have f1:=HI3.out.fz (i*2+1);obtain ⟨u0,hu0⟩:∃u0,u0=Value.string (bs (qs[i]).1.1):=⟨_,rfl⟩;obtain ⟨u1,hu1⟩:∃u1,u1=(qs[i]).2:=⟨_,rfl⟩;rw [←hu0] at y0;rw [←hu1] at y1;clear hu0 hu1;have HST:=hide (HI3.out.stored i hiq ((s,l),.slice ax m cx) (by rw [HM.out];exact HQ3.out));have HG:=hide (show base≤g from (HI3.out.block).choose_spec.2.1);go_wp2;go_roundw
     case rel=>
      refine ⟨i+1,j+1,qs.set i ((s,l),.slice ax m cx),by omega,by omega,rfl,rfl,hide ⟨HST.out.1,by rw [List.length_set];exact hinv.out.2.1, ?_, ?_⟩,hbel3.grown HST.out.2 (Nat.le_trans hb hbel3.size) (by intro k hk;cases hk;exact HG.out)⟩
      ·rw [HF.out,←hinv.out.2.2.1,qbd _ i (by rw [List.length_set];exact hiq),List.take_set_of_le (Nat.le_refl _),List.getElem_set_self,←HM.out]
      ·rw [List.drop_set_of_lt (by omega),←List.drop_drop,hinv.out.2.2.2,List.drop_drop]
     case measure=>simp only [intOf];omega
   ·have hd:decide ((j:Int)<n)=false:=by simpa using (by omega:¬(j:Int)<n)
    obtain rfl:j=n:=by omega
    obtain ⟨cur,hcn,hbg,hg,hnc,hcm,hsz,htake⟩:=hinv.out.1.block;have hfil:=hinv.out.2.2.1;have hqn:=hinv.out.2.1
    have hrun:=fun ty=>qy6 wr ty g (i*2) (j - i) (c - i) cur (by omega) hg (by rw [hsz];omega)
    obtain ⟨new,hnew⟩:∃new,new=cur.toList.take (i*2)++qai (List.replicate (j - i) (([],[]),.slice none 0 0))++cur.toList.drop (i*2+(j - i)*2):=⟨_,rfl⟩;rw [←hnew] at hrun
    have hcl:cur.toList.length=c*2:=by simpa using hsz
    have HLA:=hide (hinv.out.1.laid (m:=i) (qs:=qs.take i) new (by rw [hnew];simp only [List.length_append,List.length_take,List.length_drop,qbn,List.length_replicate,hcl];omega) (by rw [List.length_take];omega) (by omega) (by
     rw [hnew,List.append_assoc,List.take_append_of_le_length (by rw [List.length_take,hcl];omega),List.take_take,Nat.min_self,←qg8 qs i (by omega),←htake,List.take_take,Nat.min_eq_left (by omega)]) (fun q hq=>hinv.out.1.2 q (List.mem_of_mem_take hq)))
    have HDF:=hide (show (qs.take i).map Prod.fst=delF (ps.map Prod.fst) t by
     rw [hfil,HN.out,List.take_length,dl_map])
    have HBL:=hide (show Below base w (wr.setRow g new.toArray) from hbel.grown HLA.out.2 (Nat.le_trans hb hbel.size) (by intro k hk;cases hk;exact hbg));obtain ⟨w9,hw9⟩:∃w9,w9=wr.setRow g new.toArray:=⟨_,rfl⟩;rw [←hw9] at hrun HLA HBL
    have hic:¬c=i:=by omega
    have hij':(i:Int)≤j:=by omega
    have hi0:((i:Int)).toNat=i:=by omega
    clear hw9 hnew hcl htake hcn hfil hqn hsz hg hcm hinv
    go_wp2_with (at_builtin;refine qng rfl (.tmp 38) 29 rfl rfl (hrun _) ?_)
    go_ret;exact ⟨_,rfl,⟨_,HDF.out,HLA.out.1⟩,HBL.out⟩
theorem qlo (a:Option Addr) (n c:Nat) (fs:List Fl) (t:List UInt8) (w:World) (hrd:RdF w (.slice a n c) fs) (hn:n=fs.length) (hl:fs.length≤1000) (hle:∀f∈fs,f.2.length≤1000000):
  Calls Tryz.prog 203 #[.slice a n c,.string (bs t)] w fun e w'=>∃v,e=.returned v∧OwF w' w.heap.size v (delF fs t)∧Below w.heap.size w w':=by
 have hb0:Below w.heap.size w (w.alloc (.cells #[.string (bs t)] 9)):=(Below.refl _ _).alloc (Nat.le_refl _) _;have hcp:=qog a n c fs (w.alloc (.cells #[.string (bs t)] 9)) (hrd.carry hb0) hn hl hle;have HB0:=hide hb0;clear hrd hb0;have HL:=hide hl;clear hn hl hle
 go_enter Tryz.func203,Tryz.ntmps203
 go_wp2_with fail
 refine hcp.mono ?_
 rintro e w1 ⟨v1,rfl,ho1,hb1⟩;obtain ⟨w0,hw0⟩:∃w0,w0=w.alloc (.cells #[.string (bs t)] 9):=⟨_,rfl⟩
 have hsz:w0.heap.size=w.heap.size+1:=by rw [hw0];simp
 have hblk:w0.heap[w.heap.size]? =some (.cells #[.string (bs t)] 9 (0,0)):=by rw [hw0];exact heap_alloc_new w _
 rw [←hw0] at ho1 hb1 HB0;clear hw0 hcp
 have hblk1:w1.heap[w.heap.size]? =some (.cells #[.string (bs t)] 9 (0,0)):=(hb1.block _ (by omega)).trans hblk
 have hc1:w1.cell? ⟨w.heap.size,0,none⟩=some (.string (bs t)):=by rw [cell_of_row w1 _ 0 _ _ (0,0) hblk1];rfl
 obtain ⟨a1,c1,rfl⟩:=ho1.form;obtain ⟨ps,hps,ho⟩:=ho1
 have hpl:fs.length=ps.length:=by rw [←hps];simp
 have hdel:=qt0 w0.heap.size _ a1 fs.length c1 ps t w.heap.size w1 rfl ho hpl HL.out hb1.size (by omega) hc1;rw [hps] at hdel;have HB1:=hide (show Below w.heap.size w w1 from HB0.out.trans (hb1.mono HB0.out.size));have HSZ:=hide hsz;clear hblk hblk1 ho hps hpl hb1 hsz hc1
 go_wp2_with fail
 refine hdel.mono ?_
 rintro e w2 ⟨v2,rfl,ho2,hb2⟩;clear hdel;have HO2:=hide (ho2.mono (show w.heap.size≤w0.heap.size by have:=HSZ.out;omega));have HB2:=hide (HB1.out.trans (hb2.mono (show w.heap.size≤w0.heap.size by have:=HSZ.out;omega)));clear ho2 hb2;go_wp2;go_ret;exact ⟨_,rfl,HO2.out,HB2.out⟩
theorem qw9 {P:Program} {o:Oper} {a:Act} {s x:Operand} {t:TypeId} {v y v':Value} {w w':World} (ho:o.op=.call {callee:=.builtin .copy,args:=#[s,x],argTypes:=#[t,t]}) (hs:a.eval s=v) (hx:a.eval x=y)
  (hrun:(Builtin.copy_ #[t,t] o.type #[v,y]).run P w=.ok v' w'):(execOp a.eval o).run P w=.ok (.value v') w':=by
 simp [execOp,ho,resolve,invoke,builtin,hs,hx,hrun,Result.andThen]
theorem qgw {P:Program} {w w':World} {ops:Array Oper} {rest:List Oper} {o:Oper} {a:Act} {Q:Exit→Act→World→Prop} (hgd:o.guard=none) (s x:Operand) (t:TypeId)
  (ho:o.op=.call {callee:=.builtin .copy,args:=#[s,x],argTypes:=#[t,t]}) {v vx v':Value} (hs:a.eval s=v) (hx:a.eval x=vx)
  (hrun:(Builtin.copy_ #[t,t] o.type #[v,vx]).run P w=.ok v' w') (h:wpList P ops Q rest (a.put o.dst v') w'):wpList P ops Q (o::rest) a w:=by
 refine wpList_plain hgd fun K hK=>?_
 unfold Oper.wp execOp
 simp only [ho,resolve,invoke,builtin,Sem.run_bind,Sem.run_pure,Result.andThen_ok,List.map_toArray,List.map_cons,List.map_nil,hs,hx,hrun]
 exact hK _ _ h
theorem qgx {P:Program} {w w':World} {ops:Array Oper} {rest:List Oper} {o:Oper} {a:Act} {Q:Exit→Act→World→Prop} (hgd:o.guard=none) (s x:Operand) (t u:TypeId)
  (ho:o.op=.call {callee:=.builtin .append,args:=#[s,x],argTypes:=#[t,u]}) {v vx v':Value} (hs:a.eval s=v) (hx:a.eval x=vx)
  (hrun:(Builtin.append_ #[t,u] o.type #[v,vx]).run P w=.ok v' w') (h:wpList P ops Q rest (a.put o.dst v') w'):wpList P ops Q (o::rest) a w:=by
 refine wpList_plain hgd fun K hK=>?_
 unfold Oper.wp execOp
 simp only [ho,resolve,invoke,builtin,Sem.run_bind,Sem.run_pure,Result.andThen_ok,List.map_toArray,List.map_cons,List.map_nil,hs,hx,hrun]
 exact hK _ _ h
theorem qaj7 (R A B D:List Value) (k:Nat) (hA:R.take k=A) (hk:A.length=k) (hl:k+B.length+D.length≤R.length):
  (((R.take k++B++R.drop (k+B.length)).take (k+B.length)++D++(R.take k++B++R.drop (k+B.length)).drop (k+B.length+D.length))).take (k+B.length+D.length)=A++B++D:=by
 rw [hA]
 have e1:(A++B++R.drop (k+B.length)).take (k+B.length)=A++B:=by
  rw [List.take_append_of_le_length (by rw [List.length_append];omega),List.take_of_length_le (by rw [List.length_append];omega)]
 rw [e1,List.take_append_of_le_length (by simp only [List.length_append];omega),List.take_of_length_le (by simp only [List.length_append];omega)]
theorem qaf8 (R A B D:List Value) (k:Nat) (hA:R.take k=A) (hk:A.length=k) (hl:k+B.length+D.length≤R.length):
  ((R.take (k+B.length)++D++R.drop (k+B.length+D.length)).take k++B++(R.take (k+B.length)++D++R.drop (k+B.length+D.length)).drop (k+B.length)).take (k+B.length+D.length)=A++B++D:=by
 have e0:(R.take (k+B.length)).length=k+B.length:=by rw [List.length_take];omega
 have e1:(R.take (k+B.length)++D++R.drop (k+B.length+D.length)).take k=A:=by
  rw [List.append_assoc,List.take_append_of_le_length (by omega),List.take_take,Nat.min_eq_left (by omega),hA]
 have e2:(R.take (k+B.length)++D++R.drop (k+B.length+D.length)).drop (k+B.length)=D++R.drop (k+B.length+D.length):=by
  rw [List.append_assoc,List.drop_append_of_le_length (by omega),List.drop_of_length_le (by omega)];rfl
 rw [e1,e2,←List.append_assoc,List.take_append_of_le_length (by simp only [List.length_append];omega),List.take_of_length_le (by simp only [List.length_append];omega)]
theorem qp3 (R B:List Value) (k:Nat) (hl:k+B.length≤R.length):(R.take k++B++R.drop (k+B.length)).length=R.length:=by
 simp only [List.length_append,List.length_take,List.length_drop];omega
end Go.Proofs.YtmeaiocohalphaaGreatDoor

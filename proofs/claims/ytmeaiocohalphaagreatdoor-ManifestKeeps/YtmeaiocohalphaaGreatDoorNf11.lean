/-
  What manifest.Load does.
-/
import Derived.Test.YtmeaiocohalphaaGreatDoorRowG
import Derived.Test.YtmeaiocohalphaaGreatDoorWal6
import Derived.Test.YtmeaiocohalphaaGreatDoorFsFn4
import Derived.Test.YtmeaiocohalphaaGreatDoorMathW3
import Derived.Test.YtmeaiocohalphaaGreatDoorNf8
set_option maxHeartbeats 4000000
set_option maxRecDepth 100000
namespace Go.Proofs.YtmeaiocohalphaaGreatDoor
open Go.RowKit
set_option linter.unusedVariables false
set_option linter.unusedSimpArgs false
theorem makeN9 (n:Nat) (w:World) (hn:n≤100000000):∃w2,(Instr.makeSlice 23 (.int .i64 n) (.int .i64 n)).run Tryz.prog w=.ok (.slice (some ⟨w.heap.size,0,none⟩) n n) w2∧OwB w2 w.heap.size (.slice (some ⟨w.heap.size,0,none⟩) n n) (List.replicate n 0)∧Below w.heap.size w w2:=by
 obtain ⟨i0,hi,hz0,hz1,hz2⟩:=info_parts Tryz.infoB;obtain ⟨w2,hmake,hown2,hg2⟩:=run_make_full (P:=Tryz.prog) w w.heap.size 23 5 i0 _ 1 Tryz.underlying23 hi hz0 hz1 .i64 .i64 n (by rw [hz2];omega) (by unfold maxLen;omega) (Nat.le_refl _);refine ⟨w2,hmake, ?_,(Below.refl _ _).grown hg2 (Nat.le_refl _) (fun k hk=>by cases hk)⟩
 show w2.ownsRow _ _ _ _ _ _
 rw [List.length_replicate]
 have e:(madeCells (Value.int IntKind.u8 0).cells (n*1)).toList=u8v (List.replicate n 0):=by
  show (madeCells #[Value.int .u8 0] (n*1)).toList=_
  rw [toList_madeCells_one]
  simp [u8v]
 rw [←e];exact hown2
theorem Bq.oth9 {w w':World} {p q:Nat} {t:TypeId} {cs:Array Value} (h:Bq w p t cs) (hg:w.grownBy w' (some q)) (hne:p≠q):Bq w' p t cs:=
 (hg.block p (Array.getElem?_eq_some_iff.1 h).1 (fun e=>hne (Option.some.inj e))).trans h
theorem qqr (x:FsV) (f:Fsd) (s:List UInt8) (n:Int) (w:World) (h:RdX w x f) (hw:WfX f) (hn1:-9223372036854775808≤n) (hn2:n≤9223372036854775807):
  Calls Tryz.prog 14 #[x.val,.string (bs s),.int .i64 n] w fun e w'=>∃v,e=.returned (.tuple #[v,.int .i64 (fetE f s n)])∧OwB w' w.heap.size v (fetB f s n)∧Below w.heap.size w w':=by
 have HW:=hide hw;clear hw;obtain ⟨w1,ew⟩:∃w1,w.alloc (.cells x.cs 33)=w1:=⟨_,rfl⟩
 have hb1:Below w.heap.size w w1:=by rw [←ew];exact (Below.refl _ _).alloc (Nat.le_refl _) _
 have qbc:=hide (show FsAt w1 w.heap.size x by rw [←ew];exact Bq.new _ _ _);obtain ⟨k0,k1,k2,k3,k4,k5⟩:=qab qbc.out;have HX:=hide h;have qad:=hide hb1;clear h hb1;unfold FsV.val;unfold FsV.cs at ew
 go_enter Tryz.func14,Tryz.ntmps14
 go_wp2_with fail
 refine (qlu x f s w1 (HX.out.carry qad.out) HW.out).mono ?_
 rintro e w2 ⟨rfl,hb2⟩;have qdt:=hide (qbc.out.carry hb2);have qaj:=hide (show Below w.heap.size w w2 from qad.out.trans (hb2.mono qad.out.size));clear k0 k1 k2 k3 k4 k5 ew hb2
 by_cases g1:qar f s=0
 ·have HG:=hide g1
  obtain ⟨m,hm⟩:∃m,m=(qbb f s).length:=⟨_,rfl⟩
  have hm4:m≤4096:=by rw [hm];exact qss f s
  have HM:=hide hm;rw [g1,qif g1,←hm];clear g1 hm;have HMUL:=hide (show wrap64 ((m:Int)*128)=(m:Int)*128 by unfold wrap64;omega)
  by_cases hbad:n<0∨(128*(qbb f s).length:Int)<n
  ·have HE:=hide (fet_e2 HG.out hbad)
   have hcase:n<0∨(decide (n<0)=false∧(m:Int)*128<n):=by
    rcases hbad with h | h
    ·exact .inl h
    ·by_cases h0:n<0
     ·exact .inl h0
     ·exact .inr ⟨decide_eq_false h0,by have:=HM.out;omega⟩
   clear hbad;have hmul:=HMUL.out
   rcases hcase with h0 | ⟨h0,h1⟩
   all_goals
    go_wp2;go_ret2;exact ⟨_,by rw [HE.out.1];rfl,by rw [HE.out.2];exact World.ownsRow_nil _ _ _ _,qaj.out⟩
  ·obtain ⟨q,rfl⟩:∃q:Nat,n=q:=⟨n.toNat,by omega⟩
   have hq:q≤128*m:=by have:=HM.out;omega
   have HE:=hide (qaip (n:=q) HG.out (by rw [←HM.out];exact hq));have HQ:=hide hq;have h0:decide ((q:Int)<0)=false:=decide_eq_false (by omega);have h1:decide ((m:Int)*128<q)=false:=decide_eq_false (by omega)
   have h2:¬(m:Int)*128<q:=by omega
   have hfl:=qil f s;obtain ⟨L,hL⟩:∃L,L=(qbb f s).flatten:=⟨_,rfl⟩;have HL:=hide hL;have HFL:=hide (show L.length=128*m by rw [hL,hfl,HM.out]);obtain ⟨w3,hmk,hO3,hb3⟩:=makeN9 q w2 (by omega);have qgu:=hide (qdt.out.carry hb3);have qaw:=hide (qaj.out.trans (hb3.mono qaj.out.size));have qalp:=hide hO3;obtain ⟨G,hG⟩:∃G,G=w2.heap.size:=⟨_,rfl⟩;rw [←hG] at hmk qalp;have HGG:=hide (show w.heap.size<G by rw [hG];have:=qdt.out.lt;omega);have HGB:=hide (show w.heap.size≤G by have:=HGG.out;omega);clear hbad hq hfl hL hO3 hb3 hG hn1 hn2;have hmul:=HMUL.out;go_wp2;clear hmk h0 h1 h2 hmul
   go_loopw [11,12] (fun i at_ wr=>∃k u:Nat,u=min q (128*k)∧(128*k<q+128)∧i=.int .i64 k∧at_=.int .i64 u∧Hid (OwB wr G (.slice (some ⟨G,0,none⟩) q q) (fetN L q k))∧Hid (FsAt wr w.heap.size x)∧Hid (Below w.heap.size w wr)) (fun i _ _=>m+1 - (intOf i).toNat)
   case atStart=>exact ⟨0,0,by omega,by omega,rfl,rfl,hide (by rw [qadd];exact qalp.out),qgu,qaw⟩
   case round=>
    clear qgu qaw qalp;obtain ⟨k,u,hu,hk,rfl,rfl,hown,hF,hB⟩:=hrel
    by_cases hlt:u<q
    ·have hlt':(u:Int)<q:=by omega
     obtain rfl:u=128*k:=by omega
     have hkm:k<m:=by have:=HQ.out;omega
     have hkl:k<(qbb f s).length:=by rw [←HM.out];exact hkm
     have HKM:=hide hkm;have HGT:=hide (qag7 HG.out hkl);have HPC:=hide (qzq hkl);obtain ⟨k0,k1,k2,k3,k4,k5⟩:=qab hF.out;clear hu
     go_wp2_with fail
     refine (get_fs x f s k wr (HX.out.carry hB.out) HW.out).mono ?_
     rintro e w4 ⟨v4,rfl,ho4,hb4⟩;obtain ⟨bk,hbk⟩:∃bk,bk=(qbb f s)[k]:=⟨_,rfl⟩;rw [HGT.out.2,←hbk] at ho4;rw [HGT.out.1]
     have hbl:bk=(L.drop (128*k)).take 128:=by rw [hbk,HPC.out,HL.out]
     have HRB:=hide (OwB.rd ho4);obtain ⟨y4,z4,rfl⟩:=ho4.form;have hO4:=hown.out.carry hb4;have HO4:=hide hO4;have HFN:=hide (show (fetN L q k).length=q from qahe (by rw [HFL.out];exact HQ.out) k);have HF4:=hide (hF.out.carry hb4);have HB4:=hide (hB.out.trans (hb4.mono hB.out.size));have hgl:=(World.ownsRow.lt hO4 G rfl).2
     have HSP:=hide (show splice (fetN L q k) (128*k) (bk.take (q - 128*k))=fetN L q (k+1) by
      rw [hbl];exact qade (by rw [HFL.out];exact HQ.out) hlt (by rw [HFL.out];omega))
     obtain ⟨t,ht⟩:∃t,t=(bk.take (q - 128*k)).length:=⟨_,rfl⟩
     have htv:t=min (q - 128*k) 128:=by
      have h8:=HFL.out
      rw [ht,hbl,List.length_take,List.length_take,List.length_drop];omega
     have HT:=hide ht.symm;have HTV:=hide htv
     have y1:128*k≤q:=by omega
     have y2:¬128*k=q:=by omega
     have hkb:k≤5000:=by omega
     have htb:128*k+t≤1000000:=by omega
     obtain ⟨at9,hat⟩:∃at9,at9=128*k:=⟨_,rfl⟩;have HAT:=hide hat;rw [←hat] at hlt hlt' y1 y2 htb ⊢;clear k0 k1 k2 k3 k4 k5 hbk hbl ho4 hb4 hO4 hown hF hB ht htv hgl HGT HPC hkl hkm hat
     go_wp2_with (refine qfv w4 rfl (.tmp 52) (.tmp 53) 23 rfl Tryz.underlying23 Tryz.sizeB G G q q at9 (q - at9) (q - at9) rfl _ bk rfl HRB.out _ HO4.out (by rw [HFN.out];omega) ?_;intro w5 hg5 hO5;rw [HAT.out,HSP.out] at hO5;have HO5:=hide hO5;have HG5:=hide hg5;clear hg5 hO5;rw [HAT.out,HT.out,←HAT.out])
     go_roundw
     case rel=>exact ⟨k+1,at9+t,by have:=HAT.out;have:=HTV.out;omega,by have:=HAT.out;omega,by go_num,by go_num,HO5,hide (HF4.out.oth9 HG5.out (by have:=HGG.out;omega)),hide (HB4.out.grown HG5.out HB4.out.size (by intro k hk;cases hk;exact HGB.out))⟩
     case measure=>
      clear hlt hlt' y1 y2 hk htb;have h1:=HKM.out
      simp only [intOf]
      omega
    ·have hd:decide ((u:Int)<q)=false:=decide_eq_false (by omega)
     have hk2:q≤128*k:=by omega
     have HO:=hide (show OwB wr G (.slice (some ⟨G,0,none⟩) q q) (L.take q) by
      have:=hown.out
      rwa [qahf hk2] at this)
     clear hown hu;go_wp2;go_ret2;exact ⟨_,by rw [HE.out.1];rfl,by rw [HE.out.2,←HL.out];exact HO.out.mono HGB.out,hB.out⟩
 ·have HE:=hide (fet_e1 (n:=n) g1)
  obtain ⟨z,hz⟩:∃z,z=qh0 f s:=⟨_,rfl⟩;obtain ⟨e,he⟩:∃e,e=qar f s:=⟨_,rfl⟩;rw [←he] at g1 HE ⊢;rw [←hz]
  have ge:(e==0)=false:=by simpa using g1
  have gn:(e !=0)=true:=by simpa using g1
  clear hz he g1;go_wp2;go_ret2;exact ⟨_,by rw [HE.out.1];rfl,by rw [HE.out.2];exact World.ownsRow_nil _ _ _ _,qaj.out⟩
theorem lod_e1 {f:Fsd} (h:¬qar f curN=0):lodE f=qar f curN∧lodV f=zerV:=⟨by unfold lodE;rw [if_pos h],by unfold lodV;rw [if_pos h]⟩
theorem qad3 {f:Fsd} (h:qar f curN=0):lodE f=hldE (qbb f curN).flatten∧lodV f=hldV (qbb f curN).flatten:=⟨by unfold lodE;rw [if_neg (fun e=>e h)],by unfold lodV;rw [if_neg (fun e=>e h)]⟩
theorem qha (x:FsV) (f:Fsd) (w:World) (h:RdX w x f) (hw:WfX f):
  Calls Tryz.prog 16 #[x.val] w fun e w'=>AnsV w.heap.size (lodV f) (lodE f) e w'∧Below w.heap.size w w':=by
 have HX:=hide h;have HW:=hide hw;have q0:Below w.heap.size w (w.alloc (.cells x.cs 33)):=(Below.refl _ _).alloc (Nat.le_refl _) _
 have hsz:(w.alloc (.cells x.cs 33)).heap.size=w.heap.size+1:=by simp
 obtain ⟨w1,ew⟩:∃w1,(w.alloc (.cells x.cs 33)).alloc (.cells #[.slice none 0 0,.int .i64 0,.int .i64 0,.string {data:=#[]}] 36)=w1:=⟨_,rfl⟩
 have q1:Below (w.alloc (.cells x.cs 33)).heap.size (w.alloc (.cells x.cs 33)) w1:=by rw [←ew];exact (Below.refl _ _).alloc (Nat.le_refl _) _
 have qbc:=hide (show FsAt w1 w.heap.size x from (Bq.new w 33 x.cs).carry q1);have HZ_w1:=hide (show VvAt w1 (w.heap.size+1) (.slice none 0 0) 0 0 [] by rw [←ew,←hsz];exact VvAt.new _ _ 0 0 []);have qad:=hide (show Below w.heap.size w w1 from q0.trans (q1.mono (by omega)));obtain ⟨k0,k1,k2,k3,k4,k5⟩:=qab qbc.out;have hcon:=qlu x f curN w1 (HX.out.carry qad.out) HW.out;rw [show bs curN={data:=#[99,117,114,114,101,110,116]} from rfl] at hcon;clear h hw q0 q1 hsz;unfold FsV.val;unfold FsV.cs at ew
 go_enter Tryz.func16,Tryz.ntmps16
 go_wp2_with fail
 try rw [ew]
 refine hcon.mono ?_
 rintro e w2 ⟨rfl,hb2⟩;have qdt:=hide (qbc.out.carry hb2);have qi3:=hide (HZ_w1.out.carry hb2);have qaj:=hide (qad.out.trans (hb2.mono qad.out.size));clear k0 k1 k2 k3 k4 k5 ew hb2 hcon
 by_cases g1:qar f curN=0
 case neg=>
  have HE:=hide (lod_e1 g1);obtain ⟨z,hz⟩:∃z,z=qh0 f curN:=⟨_,rfl⟩;obtain ⟨E,he⟩:∃e,e=qar f curN:=⟨_,rfl⟩;rw [←he] at g1 HE ⊢;rw [←hz]
  have ge:(E==0)=false:=by simpa using g1
  have gn:(E !=0)=true:=by simpa using g1
  clear hz he g1;obtain ⟨r0,r1,r2,r3⟩:=qi3.out.cells;have f0:=qi3.out.fz 0;have f1:=qi3.out.fz 1;have f2:=qi3.out.fz 2;have f3:=qi3.out.fz 3;have hp9:VvAt (set4v w2 (w.heap.size+1) (.slice none 0 0) (.int .i64 0) (.int .i64 0) (.string {data:=#[]})) (w.heap.size+1) (.slice none 0 0) 0 0 []:=VvAt.put (v':=.slice none 0 0) (nx':=0) (sq':=0) (lg':=[]) qi3.out;have HB9:=hide (show Below w.heap.size w (set4v w2 (w.heap.size+1) (.slice none 0 0) (.int .i64 0) (.int .i64 0) (.string {data:=#[]})) from qbg qaj.out (Nat.le_succ _) _ _ _ _);obtain ⟨w9,hw9⟩:∃w9,w9=set4v w2 (w.heap.size+1) (.slice none 0 0) (.int .i64 0) (.int .i64 0) (.string {data:=#[]}):=⟨_,rfl⟩;rw [←hw9] at hp9 HB9;unfold set4v at hw9;obtain ⟨z0,z1,z2,z3⟩:=hp9.cells;clear hp9;go_wp2;rw [←hw9];clear r0 r1 r2 r3 f0 f1 f2 f3
  refine bodyPost_ret (v:=.tuple #[.agg #[.slice none 0 0,.int .i64 0,.int .i64 0,.string {data:=#[]}],.int .i64 E]) ?_ rfl ⟨by rw [HE.out.1,HE.out.2];exact ⟨_,[],rfl,OwVw.nil _ _,rfl⟩,HB9.out⟩
  clear hw9
  try simp only [show bs ([]:List UInt8)={data:=#[]} from rfl,Int.natCast_zero,Int.ofNat_zero,Int.cast_ofNat_Int] at z0 z1 z2 z3
  simp [results,Tryz.results16,go_sem, *]
 have HG:=hide g1;obtain ⟨m,hm⟩:∃m,m=(qbb f curN).length:=⟨_,rfl⟩
 have hm4:m≤4096:=by rw [hm];exact qss f curN
 have HM:=hide hm;have hfl:=qil f curN;have HFL:=hide (show (qbb f curN).flatten.length=128*m by rw [hfl,HM.out]);rw [g1,qif g1,←hm];clear g1 hm hfl
 by_cases g2:128<m
 ·have g3:(128:Int)<m:=by omega
  have HE:=hide (show lodE f=8∧lodV f=zerV by
   rw [(qad3 HG.out).1,(qad3 HG.out).2]
   exact qahb (by rw [HFL.out];omega))
  obtain ⟨r0,r1,r2,r3⟩:=qi3.out.cells;have f0:=qi3.out.fz 0;have f1:=qi3.out.fz 1;have f2:=qi3.out.fz 2;have f3:=qi3.out.fz 3;have hp9:VvAt (set4v w2 (w.heap.size+1) (.slice none 0 0) (.int .i64 0) (.int .i64 0) (.string {data:=#[]})) (w.heap.size+1) (.slice none 0 0) 0 0 []:=VvAt.put (v':=.slice none 0 0) (nx':=0) (sq':=0) (lg':=[]) qi3.out;have HB9:=hide (show Below w.heap.size w (set4v w2 (w.heap.size+1) (.slice none 0 0) (.int .i64 0) (.int .i64 0) (.string {data:=#[]})) from qbg qaj.out (Nat.le_succ _) _ _ _ _);obtain ⟨w9,hw9⟩:∃w9,w9=set4v w2 (w.heap.size+1) (.slice none 0 0) (.int .i64 0) (.int .i64 0) (.string {data:=#[]}):=⟨_,rfl⟩;rw [←hw9] at hp9 HB9;unfold set4v at hw9;obtain ⟨z0,z1,z2,z3⟩:=hp9.cells;clear hp9;go_wp2;rw [←hw9];clear r0 r1 r2 r3 f0 f1 f2 f3
  refine bodyPost_ret (v:=.tuple #[.agg #[.slice none 0 0,.int .i64 0,.int .i64 0,.string {data:=#[]}],.int .i64 8]) ?_ rfl ⟨by rw [HE.out.1,HE.out.2];exact ⟨_,[],rfl,OwVw.nil _ _,rfl⟩,HB9.out⟩
  clear hw9
  try simp only [show bs ([]:List UInt8)={data:=#[]} from rfl,Int.natCast_zero,Int.ofNat_zero,Int.cast_ofNat_Int] at z0 z1 z2 z3
  simp [results,Tryz.results16,go_sem, *]
 have g3:decide ((128:Int)<m)=false:=decide_eq_false (by omega);have g4:decide (128<m)=false:=decide_eq_false g2;have hfo:=qaip (n:=m*128) HG.out (by rw [←HM.out];omega);have hcon:=qqr x f curN ((m*128:Nat):Int) w2 (HX.out.carry qaj.out) HW.out (by omega) (by omega);rw [hfo.1,hfo.2,List.take_of_length_le (by rw [HFL.out];omega)] at hcon;have HM9:=hide (show m≤128 by omega)
 have hmul:wrap64 ((m:Int)*128)=((m*128:Nat):Int):=by unfold wrap64;omega
 rw [show bs curN={data:=#[99,117,114,114,101,110,116]} from rfl] at hcon;obtain ⟨k0,k1,k2,k3,k4,k5⟩:=qab qdt.out;clear g2 hfo hm4
 go_wp2_with fail
 clear hmul k0 k1 k2 k3 k4 k5 g3 g4
 refine hcon.mono ?_
 rintro e w3 ⟨v3,rfl,ho3,hb3⟩;have HZ_w3:=hide (qi3.out.carry hb3);have qaw:=hide (qaj.out.trans (hb3.mono qaj.out.size));obtain ⟨B,hB⟩:∃B,B=(qbb f curN).flatten:=⟨_,rfl⟩;rw [←hB] at ho3;have HBL:=hide (show B.length≤16384 by rw [hB,HFL.out];have:=HM9.out;omega);have HLO:=hide (qad3 HG.out);rw [←hB] at HLO;have hrd3:=OwB.rd ho3;obtain ⟨a3,c3,e3⟩:=ho3.form;obtain ⟨n3,hn3⟩:∃n3,n3=B.length:=⟨_,rfl⟩;rw [←hn3] at e3;subst e3;obtain ⟨RE,hRE⟩:∃RE,RE=hldE B:=⟨_,rfl⟩;obtain ⟨⟨L4,nx,sq,lg⟩,hRV⟩:∃RV,RV=hldV B:=⟨_,rfl⟩;have hcon:=qalo a3 n3 c3 B w3 hrd3 hn3 HBL.out;rw [←hRE,←hRV] at hcon;have HE:=hide (show lodE f=RE∧lodV f=(L4,nx,sq,lg) from ⟨by rw [HLO.out.1,hRE],by rw [HLO.out.2,hRV]⟩);clear ho3 hb3 hB hrd3 hn3 hRE hRV
 go_wp2_with fail
 refine hcon.mono ?_
 rintro e w4 ⟨⟨v8,S,rfl,ho,hlv⟩,hb4⟩;have qup:=hide (HZ_w3.out.carry hb4);have qbp:=hide (qaw.out.trans (hb4.mono qaw.out.size));obtain ⟨a8,c8,e8⟩:=OwG.form ho.1;obtain ⟨n8,hn8⟩:∃n8,n8=S.length:=⟨_,rfl⟩;rw [←hn8] at e8;subst e8;have HO8:=hide (ho.mono qaw.out.size);have HLV:=hide hlv;clear hcon hb4 ho hlv hn8;obtain ⟨r0,r1,r2,r3⟩:=qup.out.cells;have f0:=qup.out.fz 0;have f1:=qup.out.fz 1;have f2:=qup.out.fz 2;have f3:=qup.out.fz 3;have hp9:VvAt (set4v w4 (w.heap.size+1) (.slice a8 n8 c8) (.int .i64 nx) (.int .i64 sq) (.string (bs lg))) (w.heap.size+1) (.slice a8 n8 c8) nx sq lg:=VvAt.put (v':=.slice a8 n8 c8) (nx':=nx) (sq':=sq) (lg':=lg) qup.out;have HB9:=hide (show Below w.heap.size w (set4v w4 (w.heap.size+1) (.slice a8 n8 c8) (.int .i64 nx) (.int .i64 sq) (.string (bs lg))) from qbg qbp.out (Nat.le_succ _) _ _ _ _);have HO9:=hide (HO8.out.keepV (qi1 qup.out (.slice a8 n8 c8) nx sq lg));obtain ⟨w9,hw9⟩:∃w9,w9=set4v w4 (w.heap.size+1) (.slice a8 n8 c8) (.int .i64 nx) (.int .i64 sq) (.string (bs lg)):=⟨_,rfl⟩;rw [←hw9] at hp9 HB9 HO9;unfold set4v at hw9;obtain ⟨z0,z1,z2,z3⟩:=hp9.cells;clear hp9;go_wp2;rw [←hw9];clear r0 r1 r2 r3 f0 f1 f2 f3
 refine bodyPost_ret (v:=.tuple #[.agg #[.slice a8 n8 c8,.int .i64 nx,.int .i64 sq,.string (bs lg)],.int .i64 RE]) ?_ rfl ⟨by rw [HE.out.1,HE.out.2];exact ⟨_,S,rfl,HO9.out,HLV.out⟩,HB9.out⟩
 clear hw9
 try simp only [show bs ([]:List UInt8)={data:=#[]} from rfl,Int.natCast_zero,Int.ofNat_zero,Int.cast_ofNat_Int] at z0 z1 z2 z3
 simp [results,Tryz.results16,go_sem, *]
end Go.Proofs.YtmeaiocohalphaaGreatDoor

/-
  Blocks by their numbers: what dev's map of blocks is, and what its put does.
-/
import Derived.Test.YtpkdiododlhipaaGreatDCopy3
import Derived.Maps.RangeWalk
import Derived.Laws.CopyOwn
set_option maxHeartbeats 1000000
set_option maxRecDepth 100000
namespace Go.Proofs.YtpkdiododlhipaaGreat
open Go.RowKit
open Go.Maps (Keyed)
set_option linter.all false
def blkR:Value→Option (DataW Unit × List MemPlace)
 | .slice (some ⟨g,0,none⟩) 128 128=>some (.lit (.int .i64 g),[])
 | .slice none 0 0=>some (.nil,[])
 | _=>none
theorem qex {v:Value} {y:DataW Unit × List MemPlace} (h:blkR v=some y):(v=.slice none 0 0∧y.1=.nil)∨∃g:Nat,v=.slice (some ⟨g,0,none⟩) 128 128∧y.1=.lit (.int .i64 g):=by
 unfold blkR at h
 split at h
 ·cases h;exact .inr ⟨_,rfl,rfl⟩
 ·cases h;exact .inl ⟨rfl,rfl⟩
 ·cases h
theorem qlq:Keyed Tryz.prog 3:=Maps.int_keyed Tryz.underlying3
theorem qvg (w:World):(zeroValue 23).run Tryz.prog w=.ok (.slice none 0 0) w:=by kernel_rfl
def Blk (w:World) (base g:Nat) (l:List UInt8):Prop:=base≤g∧l.length=128∧w.heap[g]? =some (.cells (u8v l).toArray 5 (0,0))
def Bm (w:World) (base b n:Nat) (M:Int→Option (List UInt8)):Prop:=
 ∃(D:DataW Unit) (G:Int→Option Nat),w.ownsMap Tryz.prog 3 blkR b n D∧base≤b∧
  (∀k z,D.atKey (.int .i64 k) z=match G k with | some g=>.lit (.int .i64 g) | none=>z)∧
  (∀k,M k=none→G k=none)∧(∀k l,M k=some l→∃g,G k=some g∧Blk w base g l)∧∀k k' g,G k=some g→G k'=some g→k=k'
theorem Bm.lt {w:World} {base b n:Nat} {M:Int→Option (List UInt8)} (h:Bm w base b n M):base≤b∧b<w.heap.size:=by
 obtain ⟨D,G,h1,h2,_⟩:=h;exact ⟨h2,h1.lt⟩
theorem Blk.lt {w:World} {base g:Nat} {l:List UInt8} (h:Blk w base g l):g<w.heap.size:=(Array.getElem?_eq_some_iff.1 h.2.2).1
theorem Blk.kept {w w':World} {base g:Nat} {l:List UInt8} {row:Option Nat} (h:Blk w base g l) (hg:w.grownBy w' row) (hne:some g≠row):Blk w' base g l:=
 ⟨h.1,h.2.1,(hg.block g h.lt hne).trans h.2.2⟩
theorem Bm.kept {w w':World} {base b n:Nat} {M:Int→Option (List UInt8)} {row:Option Nat} (h:Bm w base b n M) (hg:w.grownBy w' row) (hne:∀k,row=some k→k<base):Bm w' base b n M:=by
 obtain ⟨D,G,h1,h2,h3,h4,h5,h6⟩:=h;refine ⟨D,G,h1.kept hg (fun e=>by have:=hne b e.symm;omega),h2,h3,h4,fun k l hk=>?_,h6⟩;obtain ⟨g,e,hb⟩:=h5 k l hk;exact ⟨g,e,hb.kept hg (fun e=>by have:=hne g e.symm;have:=hb.1;omega)⟩
theorem qbz {w w':World} (h:Below w.heap.size w w'):w.grownBy w' none:=by
 refine ⟨h.os,h.tape,h.output,h.size,fun k hk _=>h.block k hk⟩
theorem Bm.carry {w w':World} {base b n:Nat} {M:Int→Option (List UInt8)} (h:Bm w base b n M) (hb:Below w.heap.size w w'):Bm w' base b n M:=h.kept (qbz hb) (fun k hk=>by cases hk)
theorem Bm.made (w:World):Bm (w.alloc (.map #[] 0)) w.heap.size w.heap.size 0 (fun _=>none):=
 ⟨.map [],fun _=>none,World.ownsMap_made w _ _ _,Nat.le_refl _,fun _ _=>rfl,fun _ _=>rfl,(fun _ _ h=>by cases h),(fun _ _ _ h=>by cases h)⟩
theorem wf64 {N:Int} (h:0≤N) (h':N<1000000):(Lit.int .i64 N).wf=true:=WalkArith.wf_i64 ⟨by omega,by omega⟩
theorem Bm.over {w w':World} {base b n:Nat} {D:DataW Unit} {G:Int→Option Nat} {M:Int→Option (List UInt8)} {N:Int} {g:Nat} {l:List UInt8} (h1:w.ownsMap Tryz.prog 3 blkR b n D) (h2:base≤b)
  (h3:∀k z,D.atKey (.int .i64 k) z=match G k with | some g=>.lit (.int .i64 g) | none=>z) (h4:∀k,k≠N→M k=none→G k=none) (h5:∀k l,k≠N→M k=some l→∃g,G k=some g∧Blk w base g l) (h6:∀k k' g,G k=some g→G k'=some g→k=k')
  (hG:G N=some g) (hg:w.grownBy w' (some g)) (hgb:g≠b) (hb:Blk w' base g l):Bm w' base b n (fun k=>if k=N then some l else M k):=by
 refine ⟨D,G,h1.kept hg (fun e=>hgb (by cases e;rfl)),h2,h3,fun k hk=>?_,fun k l' hk=>?_,h6⟩
 ·by_cases e:k=N
  ·simp [e] at hk
  ·simp only [e,if_false] at hk;exact h4 k e hk
 ·by_cases e:k=N
  ·simp only [e,if_true,Option.some.injEq] at hk
   subst hk;exact ⟨g,by rw [e];exact hG,hb⟩
  ·simp only [e,if_false] at hk
   obtain ⟨g',e1,e2⟩:=h5 k l' e hk;exact ⟨g',e1,e2.kept hg (fun e3=>e (h6 k N g (by cases e3;exact e1) hG))⟩
theorem Tryz.sizeB:(Tryz.prog.info? 5).map (·.size)=some 1:=by kernel_rfl
theorem qia (cur l:List UInt8) (off:Nat):u8v (splice cur off l)=(u8v cur).take off++(u8v l++(u8v cur).drop (off+(u8v l).length)):=by
 simp [u8v,splice,List.map_take,List.map_drop]
theorem qi1 {P:Program} (w:World) {ops:Array Oper} {rest:List Oper} {o:Oper} {a:Act} {Q:Exit→Act→World→Prop} (hgd:o.guard=none) (d s:Operand) (dT:TypeId)
  (ho:o.op=.call {callee:=.builtin .copy,args:=#[d,s],argTypes:=#[dT,dT]}) (elem:TypeId) (hu:P.underlying dT=some (.slice elem)) (hsz:(P.info? elem).map (·.size)=some 1)
  (g off dLen dCap:Nat) (hd:a.eval d=.slice (some ⟨g,off,none⟩) dLen dCap) (v:Value) (l:List UInt8) (hs:a.eval s=v) (hrd:Rd w v l) (hpos:l≠[]) (hld:l.length≤dLen)
  (cur:List UInt8) (t:TypeId) (hg:w.heap[g]? =some (.cells (u8v cur).toArray t (0,0))) (hfit:off+l.length≤cur.length)
  (h:∀w',w.grownBy w' (some g)→w'.heap[g]? =some (.cells (u8v (splice cur off l)).toArray t (0,0))→wpList P ops Q rest (a.put o.dst (goInt l.length)) w'):
  wpList P ops Q (o::rest) a w:=by
 rcases hrd with ⟨e,_⟩ | ⟨b,of,c,rfl,hc,hm,hcell⟩
 ·exact absurd e hpos
 ·have hlen:(u8v l).length=l.length:=by simp [u8v]
  refine wpList_copy_own hgd d s dT dT ho elem hu hsz g off dLen dCap ⟨b,of,none⟩ l.length c hd hs (u8v cur).toArray t hg (u8v l) (by rw [hlen];exact (Nat.min_eq_left hld).symm) ?_ (by rw [hlen];simpa [u8v] using hfit) (qdt l) ?_
  ·intro j u hj
   obtain ⟨hj',rfl⟩:=qdf l j u hj;rw [Addr.add_lit];exact hcell j hj'
  ·rw [hlen]
   refine h _ ⟨rfl,rfl,rfl,by simp [World.setRow],fun k _ hk=>setRow_other w g k _ (fun e=>hk (by rw [e]))⟩ ?_
   rw [setRow_heap w g _ _ t _ hg,qia,hlen]
theorem qyy (base b n:Nat) (M:Int→Option (List UInt8)) (N:Int) (x:Option Addr) (m d:Nat) (l:List UInt8) (w:World) (hm:Bm w base b n M) (hn:n≤1000000) (hN:0≤N) (hN':N<1000000) (hl:l.length=128) (hml:m=128) (hrd:Rd w (.slice x m d) l):
  Calls Tryz.prog 98 #[.map (some b),.agg #[.int .i64 N,.slice x m d]] w fun e w'=>e=.returned (.tuple #[])∧Bm w' base b (n+1) (fun k=>if k=N then some l else M k)∧Below base w w':=by
 subst hml;have hkey:keyOf Tryz.prog 3 (.int .i64 N)=some (.int .i64 N):=Maps.keyOf_int_mk Tryz.underlying3 (wf64 hN hN');obtain ⟨hlb,hlt⟩:=hm.lt;have hm1:=hm.carry ((Below.refl _ _).alloc (Nat.le_refl _) (.cells #[.int .i64 N,.slice x 128 d] 77));have hb1:Below w.heap.size w (w.alloc (.cells #[.int .i64 N,.slice x 128 d] 77)):=(Below.refl _ _).alloc (Nat.le_refl _) _;obtain ⟨D,G,h1,h2,h3,h4,h5,h6⟩:=hm1;obtain ⟨v,ps,hlook,hv⟩:=h1.lookup (t:=113) (e:=23) qlq Tryz.underlying113 (qvg _) (zd:=.nil) (zp:=[]) rfl hkey;rw [h3] at hv
 cases hG:G N with
 | some g=>
  rw [hG] at hv
  obtain rfl:v=.slice (some ⟨g,0,none⟩) 128 128:=by
   rcases qex hv with ⟨_,h⟩ | ⟨g',h,h'⟩
   ·cases h
   ·cases h';exact h
  have hq:=fun wx=>Lib.run_eql_slice_nil (P:=Tryz.prog) wx 23 5 (some ⟨g,0,none⟩) 128 128 0 0 Tryz.underlying23
  obtain ⟨l0,hM⟩:∃l0,M N=some l0:=by
   cases e:M N with
   | none=>rw [h4 N e] at hG;cases hG
   | some l0=>exact ⟨l0,rfl⟩
  obtain ⟨g',hg',hB⟩:=h5 N l0 hM
  obtain rfl:g'=g:=by rw [hG] at hg';cases hg';rfl
  have hgb:g'≠b:=by
   intro e;obtain ⟨es,clock,hh,_⟩:=h1;rw [←e,hB.2.2] at hh;cases hh
  have HF:Hid (∀w',(w.alloc (.cells #[.int .i64 N,.slice x 128 d] 77)).grownBy w' (some g')→w'.heap[g']? =some (.cells (u8v (splice l0 0 l)).toArray 5 (0,0))→Bm w' base b (n+1) (fun k=>if k=N then some l else M k)∧Below base w w'):=by
   intro w' hgr hh
   have hw:splice l0 0 l=l:=by unfold splice;simp [hl,hB.2.1]
   rw [hw] at hh;refine ⟨?_,(hb1.mono (by omega)).grown hgr (by simp;omega) (fun k hk=>by cases hk;exact hB.1)⟩;exact Bm.over (h1.mono (Nat.le_succ _)) h2 h3 (fun k _=>h4 k) (fun k l _=>h5 k l) h6 hG hgr hgb ⟨hB.1,hl,hh⟩
  have HR:=hide (hrd.carry hb1);have HB:=hide hB;have HL:=hide hl;clear hrd hb1 h1 h2 h3 h4 h5 h6 hG hg' hB hgb hm hkey hM hv hl
  go_enter Tryz.func98,Tryz.ntmps98
  go_wp2_with (refine qi1 (w.alloc (.cells #[.int .i64 N,.slice x 128 d] 77)) rfl (.tmp 16) (.tmp 18) 23 rfl 5 Tryz.underlying23 Tryz.sizeB g' 0 128 128 rfl _ l rfl HR.out (by intro e;have:=HL.out;rw [e] at this;cases this) (by have:=HL.out;omega) l0 5 HB.out.2.2 (by have:=HL.out;have:=HB.out.2.1;omega) ?_;intro w2 hgr2 hh2)
  have:=HF.out _ hgr2 hh2
  refine bodyPost_end (v:=.tuple #[]) ?_ rfl ⟨rfl,this.1,this.2⟩
  simp [results,Tryz.results98,go_sem]
 | none=>
  rw [hG] at hv
  obtain rfl:v=.slice none 0 0:=by
   rcases qex hv with ⟨h,_⟩ | ⟨g',_,h'⟩
   ·exact h
   ·cases h'
  have hq:=fun wx=>Lib.run_eql_slice_nil (P:=Tryz.prog) wx 23 5 none 0 0 0 0 Tryz.underlying23
  obtain ⟨w1,ew⟩:∃w1,w.alloc (.cells #[.int .i64 N,.slice x 128 d] 77)=w1:=⟨_,rfl⟩;rw [ew] at h1 h5 hlook hb1
  have hs1:w1.heap.size=w.heap.size+1:=by rw [←ew];simp
  have k0:w1.cell? ⟨w.heap.size,0,none⟩=some (.int .i64 N):=by rw [←ew];simp
  have k1:w1.cell? ⟨w.heap.size,1,none⟩=some (.slice x 128 d):=by rw [←ew];simp
  obtain ⟨i0,hi,hz0,hz1,hz2⟩:=info_parts Tryz.infoB;obtain ⟨w2,hmake,hown2,hg2⟩:=run_make_full (P:=Tryz.prog) w1.drew w1.heap.size 23 5 i0 _ 1 Tryz.underlying23 hi hz0 hz1 .i64 .i64 128 (by rw [hz2];decide) (by unfold maxLen;decide) (Nat.le_refl _);have hmake':(Instr.makeSlice 23 (.int .i64 128) (.int .i64 128)).run Tryz.prog w1.drew=.ok (.slice (some ⟨w1.heap.size,0,none⟩) 128 128) w2:=hmake;have hb2:Below w1.heap.size w1 w2:=((Below.refl _ _).drew).grown hg2 (Nat.le_refl _) (fun k hk=>by cases hk);have hs2:w1.heap.size<w2.heap.size:=(hown2.lt _ rfl).2
  have hblk2:w2.heap[w1.heap.size]? =some (.cells (u8v (List.replicate 128 0)).toArray 5 (0,0)):=by
   rcases hown2.2 with ⟨h,_⟩ | ⟨g,cap,cur,h,_,hh,h4,_,h5,h6⟩
   ·cases h
   ·cases h
    have hh':w2.heap[w1.heap.size]? =some (.cells cur 5 (0,0)):=hh
    rw [hh']
    congr 2
    apply Array.ext';rw [←List.take_of_length_le (i:=128*1) (l:=cur.toList) (by rw [Array.length_toList,h5];exact Nat.le_refl _),h6]
    show (madeCells #[Value.int .u8 0] (128*1)).toList=_
    rw [toList_madeCells_one]
    simp [u8v]
  obtain ⟨w3,hup,h1',hg3⟩:=(h1.kept (qbz hb2) (by simp)).update (t:=113) (e:=23) qlq Tryz.underlying113 (by unfold maxLen;omega) (val:=.slice (some ⟨w1.heap.size,0,none⟩) 128 128) hkey rfl;obtain ⟨v',ps',hlook',hv'⟩:=h1'.lookup (t:=113) (e:=23) qlq Tryz.underlying113 (qvg _) (zd:=.nil) (zp:=[]) rfl hkey
  have hat:∀k z,(D.put (.int .i64 N) (.lit (.int .i64 w1.heap.size))).atKey (.int .i64 k) z=match (if k=N then some w1.heap.size else G k) with | some g=>.lit (.int .i64 g) | none=>z:=by
   intro k z
   by_cases e:k=N
   ·subst e
    rw [Maps.atKey_put_same h1.isMap (by trivial)]
    simp
   ·rw [Maps.atKey_put_other (by intro h;cases h;exact e rfl),h3]
    simp [e]
  rw [hat] at hv'
  simp only [if_true] at hv'
  obtain rfl:v'=.slice (some ⟨w1.heap.size,0,none⟩) 128 128:=by
   rcases qex hv' with ⟨_,h⟩ | ⟨g',h,h'⟩
   ·cases h
   ·cases h';exact h
  have hbne:b≠w1.heap.size:=by have:=h1.lt;omega
  have hblk3:w3.heap[w1.heap.size]? =some (.cells (u8v (List.replicate 128 0)).toArray 5 (0,0)):=(hg3.block _ hs2 (by intro e;cases e;exact hbne rfl)).trans hblk2
  have k0b:=qaa _ _ _ _ k0 hb2;have k1b:=qaa _ _ _ _ k1 hb2;have S2:=hide (And.intro k0b k1b)
  have hwb:∀j,some (⟨w.heap.size,j,none⟩:Addr).block≠some b:=fun j e=>by
   have:w.heap.size=b:=by simpa using e
   omega
  have k0c:=hg3.cell k0b (hwb _);have k1c:=hg3.cell k1b (hwb _);have S3:=hide (And.intro k0c k1c);have hb3:Below base w w3:=((hb1.trans (hb2.mono (by omega))).mono (by omega)).grown hg3 (by have:=hb1.size;omega) (fun k hk=>by cases hk;exact hlb)
  have HR:Hid (Rd w3 (.slice x 128 d) l):=by
   rcases hrd with h | ⟨b',of,c',e,e1,e2,hc⟩
   ·exact .inl h
   ·refine .inr ⟨b',of,c',e,e1,e2,fun j hj=>?_⟩
    have c0:=qaa _ _ _ _ (qaa _ _ _ _ (hc j hj) hb1) hb2
    refine hg3.cell c0 ?_
    intro e;have hcb:=qaa _ _ _ _ (hc j hj) hb1;obtain ⟨es,clock,hh,_⟩:=h1;cases e
    simp [World.cell?,hh] at hcb
  have HF:Hid (∀w',w3.grownBy w' (some w1.heap.size)→w'.heap[w1.heap.size]? =some (.cells (u8v (splice (List.replicate 128 0) 0 l)).toArray 5 (0,0))→Bm w' base b (n+1) (fun k=>if k=N then some l else M k)∧Below base w w'):=by
   intro w' hgr hh
   have hw:splice (List.replicate 128 0) 0 l=l:=by unfold splice;simp [hl]
   rw [hw] at hh;refine ⟨?_,hb3.grown hgr (by have:=hb3.size;omega) (fun k hk=>by cases hk;omega)⟩
   refine Bm.over (G:=fun k=>if k=N then some w1.heap.size else G k) h1' h2 hat (fun k e hk=>by simpa [e] using h4 k hk) (fun k l' e hk=>?_) ?_ (by simp) hgr (Ne.symm hbne) ⟨by omega,hl,hh⟩
   ·obtain ⟨g,e1,e2⟩:=h5 k l' hk
    refine ⟨g,by simpa [e] using e1, ?_⟩
    have hgb:g≠b:=by
     intro e;obtain ⟨es,clock,hh,_⟩:=h1;rw [←e,e2.2.2] at hh;cases hh
    exact (e2.kept (qbz hb2) (by simp)).kept hg3 (by intro e;cases e;exact hgb rfl)
   ·intro k k' g e1 e2
    have hfr:∀k,G k=some w1.heap.size→False:=by
     intro k hk
     cases e:M k with
     | none=>rw [h4 k e] at hk;cases hk
     | some l'=>
      obtain ⟨g,e1,e2⟩:=h5 k l' e;rw [hk] at e1;cases e1;exact absurd e2.lt (Nat.lt_irrefl _)
    by_cases c1:k=N<;>by_cases c2:k'=N
    ·rw [c1,c2]
    ·simp only [c1,if_true,Option.some.injEq] at e1;simp only [c2,if_false] at e2;rw [←e1] at e2;exact (hfr _ e2).elim
    ·simp only [c2,if_true,Option.some.injEq] at e2;simp only [c1,if_false] at e1;rw [←e2] at e1;exact (hfr _ e1).elim
    ·simp only [c1,if_false] at e1;simp only [c2,if_false] at e2;exact h6 k k' g e1 e2
  have HL:=hide hl;have H3:=hide hblk3;clear hrd hb1 h1 h2 h3 h4 h5 h6 hG hm hkey hv hl h1' hat hv' hg3 hb2 hg2 hblk2 hblk3 hown2 hb3 hi hz0 hz1 hz2 k0b k1b hmake hbne hwb hs1
  go_enter Tryz.func98,Tryz.ntmps98
  go_wp2;have hK:Keeps (fun wx=>wx.cell? ⟨w.heap.size,0,none⟩=some (.int .i64 N)∧wx.cell? ⟨w.heap.size,1,none⟩=some (.slice x 128 d)):=(qaa _ _).and (qaa _ _)
  refine qar hK (by kernel_rfl) ⟨k0,k1⟩ ?_
  intro hS
  refine qad [0,1,2] (fuel:=2) (a':=?zp1a) (by kernel_rfl) (by kernel_rfl) (by kernel_rfl) ?zp1p hS ?zp1n
  case zp1p=>
   iterate 3 (apply Yl.cons rfl (by kernel_rfl);focus (rintro wx ⟨x1,x2⟩;go_simp;all_goals (with_reducible rfl));try simp only [Act.put,sA,sB,sC])
   exact Yl.nil
  refine qgp (i:=3) (v:=.slice (some ⟨w1.heap.size,0,none⟩) 128 128) (w':=w2) rfl (by kernel_rfl) (by rfl) (by go_simp) S2.out ?_
  try simp only [Act.put,sA,sB,sC]
  refine qco (i:=4) (w':=w3) rfl (by kernel_rfl) (by rfl) (by go_simp) S3.out ?_
  try simp only [Act.put,sA,sB,sC]
  refine wpAnyH_done (by kernel_rfl) ?_ _
  refine NoPanic.normal ?_
  clear hmake' hup hlook hq
  go_wp2_with (refine qi1 w3 rfl (.tmp 16) (.tmp 18) 23 rfl 5 Tryz.underlying23 Tryz.sizeB w1.heap.size 0 128 128 rfl _ l rfl HR.out (by intro e;have:=HL.out;rw [e] at this;cases this) (by have:=HL.out;omega) _ 5 H3.out (by have:=HL.out;rw [List.length_replicate];omega) ?_;intro w4 hgr4 hh4)
  have:=HF.out _ hgr4 hh4
  refine bodyPost_end (v:=.tuple #[]) ?_ rfl ⟨rfl,this.1,this.2⟩
  simp [results,Tryz.results98,go_sem]
end Go.Proofs.YtpkdiododlhipaaGreat

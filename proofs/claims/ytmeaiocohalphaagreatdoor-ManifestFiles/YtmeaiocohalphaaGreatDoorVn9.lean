/-
  Whether two tables, two rows of tables are the same; where a table stands in a row.
-/
import Derived.Test.YtmeaiocohalphaaGreatDoorNf4
import Derived.Test.YtmeaiocohalphaaGreatDoorVn8
import Derived.Test.YtmeaiocohalphaaGreatDoorRowG
import Derived.Test.YtmeaiocohalphaaGreatDoorMathSl
import Derived.Shelf.Bytes.SlJoin
import Derived.Test.YtmeaiocohalphaaGreatDoorWal6
import Derived.Test.YtmeaiocohalphaaGreatDoorRegD
import Derived.Lib.ConvBytes
import Derived.Test.YtmeaiocohalphaaGreatDoorFiApart
set_option maxHeartbeats 4000000
set_option maxRecDepth 100000
namespace Go.Proofs.YtmeaiocohalphaaGreatDoor
open Go.RowKit
set_option linter.all false
theorem qtg:∀(k:Nat) (s:Mst),(levM k s).1.flatten.length≤32*k
 | 0,s=>by simp [levM]
 | k+1,s=>by
  have h1:=qtg k s;have h2:=qaau 32 (levM k s).2;rw [levM,List.flatten_append,List.length_append]
  simp only [List.flatten_cons,List.flatten_nil,List.append_nil,qkk]
  omega
theorem qth (s:Mst):(verM s).1.1.flatten.length≤128:=qtg 4 s
theorem VvAt.bx {w:World} {A:Nat} {v:Value} {nx sq:Int} {lg:List UInt8} (h:VvAt w A v nx sq lg):Bx w A 36 #[v,.int .i64 nx,.int .i64 sq,.string (bs lg)]:=h
theorem qalm (a:Option Addr) (n c:Nat) (b:List UInt8) (w:World) (hrd:Rd w (.slice a n c) b) (hn:n=b.length):
  Calls Tryz.prog 17 #[.slice a n c] w fun e w'=>AnsV w.heap.size (redV b) (redE b) e w'∧Below w.heap.size w w':=by
 obtain ⟨w1,hw1⟩:∃w1,w1=w.alloc (.cells #[.slice none 0 0,.int .i64 0,.int .i64 0,.string {data:=#[]}] 36):=⟨_,rfl⟩
 have hb1:Below w.heap.size w w1:=by rw [hw1];exact (Below.refl _ _).alloc (Nat.le_refl _) _
 have hs1:w1.heap.size=w.heap.size+1:=by rw [hw1];simp
 have HZ1:=hide (show VvAt w1 w.heap.size (.slice none 0 0) 0 0 [] by rw [hw1];exact VvAt.new w _ 0 0 []);have HB1:=hide hb1
 by_cases hl:16384<n
 ·have hl':(16384:Int)<n:=by omega
  have HE:=hide (show redE b=3∧redV b=zerV by
   have e:redE b=3:=by unfold redE;rw [if_pos (by omega)]
   exact ⟨e,by unfold redV;rw [e,if_neg (by decide)]⟩)
  clear hb1 hs1 hrd hn
  go_enter Tryz.func17,Tryz.ntmps17
  go_wp2;rw [←hw1];clear hw1;obtain ⟨z0,z1,z2,z3⟩:=HZ1.out.cells
  refine bodyPost_ret (v:=.tuple #[.agg #[.slice none 0 0,.int .i64 0,.int .i64 0,.string {data:=#[]}],.int .i64 3]) ?_ rfl ⟨by rw [HE.out.1,HE.out.2];exact ⟨_,[],rfl,OwVw.nil _ _,rfl⟩,HB1.out⟩
  try simp only [show bs ([]:List UInt8)={data:=#[]} from rfl,Int.natCast_zero,Int.ofNat_zero,Int.cast_ofNat_Int] at z0 z1 z2 z3
  simp [results,Tryz.results17,go_sem, *]
 have hl':decide ((16384:Int)<n)=false:=by simpa using (by omega:¬(16384:Int)<n)
 have hl'':decide (16384<n)=false:=decide_eq_false hl;obtain ⟨w2,hw2⟩:∃w2,w2=w1.alloc (.cells #[.slice a n c,.bool false] 100):=⟨_,rfl⟩
 have hb2:Below w1.heap.size w1 w2:=by rw [hw2];exact (Below.refl _ _).alloc (Nat.le_refl _) _
 have hs2:w2.heap.size=w.heap.size+2:=by rw [hw2];simp [hs1]
 have hq2:MrAt w2 (w.heap.size+1) (.slice a n c) false:=by rw [hw2,←hs1];exact Bx.new w1 _ _
 have hB2:Below w.heap.size w w2:=hb1.trans (hb2.mono (by omega));have hm2:MrS w w2 (w.heap.size+1) (some b):=⟨⟨a,n,c,b,hq2,hn,.inl hrd,by omega,fun l' h=>by cases h;rfl⟩,by omega,hB2⟩;have HZ2:=hide (HZ1.out.carry hb2);have HN:=hide (show b.length≤16384 by omega);obtain ⟨Z,hZ⟩:∃Z,Z=verM (some b):=⟨_,rfl⟩;have hcon:=qzn w (w.heap.size+1) (some b) w2 hm2
 have hflat:Z.1.1.flatten.length≤128:=by rw [hZ];exact qth _
 rw [←hZ] at hcon;have HZZ:=hide hZ;have HS2:=hide hs2;clear hb1 hs1 hb2 hs2 hq2 hB2 hm2 hrd hn HZ1 HB1 hZ hl
 go_enter Tryz.func17,Tryz.ntmps17
 go_wp2_with fail
 rw [←hw1];rw [←hw2];clear hw1 hw2
 refine hcon.mono ?_
 rintro e w3 ⟨a3,c3,S,rfl,ho,hlv,hm,hk⟩;have HZ3:=hide (HZ2.out.keep hk.1 (by decide));have HFL:=hide (show (lvs S).flatten.length≤100000 by rw [hlv];omega);have HLV:=hide hlv;have HB3:=hide hm.bel
 have hs3:w.heap.size+2≤w3.heap.size:=by have:=HS2.out;have:=hk.2;omega
 have HS3:=hide hs3;have HO3:=hide ho;have HM3:=hide hm;clear hcon ho hlv hm hk HZ2 hflat hs3;obtain ⟨⟨⟨L4,nx,sq,lg⟩,st⟩,hZ5⟩:∃Z5,Z5=Z:=⟨_,rfl⟩;rw [←hZ5] at HZZ HLV HM3;subst hZ5;obtain ⟨w4,hw4⟩:∃w4,w4=w3.alloc (.cells #[.slice a3 4 c3,.int .i64 nx,.int .i64 sq,.string (bs lg)] 36):=⟨_,rfl⟩
 have b4:Below w3.heap.size w3 w4:=by rw [hw4];exact (Below.refl _ _).alloc (Nat.le_refl _) _
 have HV4:=hide (show VvAt w4 w3.heap.size (.slice a3 4 c3) nx sq lg by rw [hw4];exact VvAt.new w3 _ nx sq lg);have HZ4:=hide (HZ3.out.carry b4);have HB4:=hide (HB3.out.trans (b4.mono HB3.out.size));have HO4:=hide ((HO3.out.carry b4).mono (show w.heap.size≤w2.heap.size by have:=HS2.out;omega));have HM4:=hide (HM3.out.carry b4);clear b4 HZ3 HB3 HO3 HM3;obtain ⟨v0,v1,v2,v3⟩:=HV4.out.cells;obtain ⟨ra,rn,rc,rl,hra,hrn, -, -,hrl⟩:=HM4.out.st;obtain ⟨q0,q1⟩:=hra.cells
 cases st with
 | none=>
  replace q1:w4.cell? ⟨w.heap.size+1,1,none⟩=some (.bool true):=q1
  have HE:=hide (show redE b=8∧redV b=zerV by
   have e:=qaav HN.out (by rw [←HZZ.out])
   exact ⟨e,by unfold redV;rw [e,if_neg (by decide)]⟩)
  clear hra hrn hrl;have e4:=hw4.symm;clear hw4;obtain ⟨w9,hw9,HB9,HK9,r0,r1,r2,r3,f0,f1,f2,f3,z0,z1,z2,z3⟩:=qhv HZ4 HB4 (Nat.le_refl _);go_wp2
  try rw [hw9]
  clear r0 r1 r2 r3 f0 f1 f2 f3 hw9 HK9
  refine bodyPost_ret ?_ rfl ⟨ansZ HE,HB9.out⟩
  simp [results,Tryz.results17,go_sem, *]
 | some rest=>
  obtain rfl:=hrl rest rfl
  replace q1:w4.cell? ⟨w.heap.size+1,1,none⟩=some (.bool false):=q1
  by_cases hr0:rest=[]
  ·subst hr0
   obtain rfl:rn=0:=hrn;clear hra hrl;have hcon:=qx0 a3 4 c3 S nx sq lg w4 HO4.out.rd (by omega) HFL.out;rw [HLV.out] at hcon;obtain ⟨E,hE⟩:∃E,E=chkV (L4,nx,sq,lg):=⟨_,rfl⟩;rw [←hE] at hcon;have HEE:=hide hE;clear hE;have e4:=hw4.symm;clear hw4
   go_wp2_with fail
   refine hcon.mono ?_
   rintro e w5 ⟨rfl,b5⟩;have HV5:=hide (HV4.out.carry b5);have HZ5:=hide (HZ4.out.carry b5);have HB5:=hide (HB4.out.trans (b5.mono HB4.out.size));have HO5:=hide (HO4.out.carry b5);clear hcon e4 b5 v0 v1 v2 v3 q0 q1 HV4 HZ4 HB4 HO4 HM4;have hre:=qri HN.out (V:=(L4,nx,sq,lg)) (r:=[]) HZZ.out.symm
   by_cases h0:E=0
   ·subst h0
    have HE:=hide (show redE b=0∧redV b=(L4,nx,sq,lg) by
     have e:redE b=0:=by
      unfold redE;rw [if_neg (by have:=HN.out;omega),if_pos];rw [←HZZ.out];exact ⟨rfl,HEE.out.symm⟩
     exact ⟨e,by unfold redV;rw [if_pos e,←HZZ.out]⟩)
    clear hre;obtain ⟨v0,v1,v2,v3⟩:=HV5.out.cells;obtain ⟨w9,hw9,HB9,HK9,r0,r1,r2,r3,f0,f1,f2,f3,z0,z1,z2,z3⟩:=finV HZ5 HB5 (Nat.le_refl _) (.slice a3 4 c3) nx sq lg;have HO9:=hide (HO5.out.keepV HK9);go_wp2
    try rw [hw9]
    clear r0 r1 r2 r3 f0 f1 f2 f3 hw9 HK9
    refine bodyPost_ret (v:=.tuple #[.agg #[.slice a3 4 c3,.int .i64 nx,.int .i64 sq,.string (bs lg)],.int .i64 0]) ?_ rfl ⟨by rw [HE.out.1,HE.out.2];exact ⟨_,S,rfl,HO9.out,HLV.out⟩,HB9.out⟩
    simp [results,Tryz.results17,go_sem, *]
   ·have h0':(E !=0)=true:=by simpa using h0
    have h0'':(E==0)=false:=by simpa using h0
    have HE:=hide (show redE b=8∧redV b=zerV by
     have e:redE b=8:=by
      rw [hre,if_neg];rintro ⟨e9, -⟩;exact h0 (HEE.out.trans e9)
     exact ⟨e,by unfold redV;rw [e,if_neg (by decide)]⟩)
    clear hre h0;obtain ⟨w9,hw9,HB9,HK9,r0,r1,r2,r3,f0,f1,f2,f3,z0,z1,z2,z3⟩:=qhv HZ5 HB5 (Nat.le_refl _);go_wp2
    try rw [hw9]
    clear r0 r1 r2 r3 f0 f1 f2 f3 hw9 HK9
    refine bodyPost_ret ?_ rfl ⟨ansZ HE,HB9.out⟩
    simp [results,Tryz.results17,go_sem, *]
  ·have hrn0:0<rn:=by
    rw [hrn];exact List.length_pos_iff.2 hr0
   have hrn1:(0:Int)<rn:=by omega
   have HE:=hide (show redE b=8∧redV b=zerV by
    have e:redE b=8:=by
     unfold redE;rw [if_neg (by have:=HN.out;omega),if_neg];rw [←HZZ.out];rintro ⟨e9, -⟩;exact hr0 (Option.some.inj e9)
    exact ⟨e,by unfold redV;rw [e,if_neg (by decide)]⟩)
   clear hra hrl hr0 hrn;have e4:=hw4.symm;clear hw4;obtain ⟨w9,hw9,HB9,HK9,r0,r1,r2,r3,f0,f1,f2,f3,z0,z1,z2,z3⟩:=qhv HZ4 HB4 (Nat.le_refl _);go_wp2
   try rw [hw9]
   clear r0 r1 r2 r3 f0 f1 f2 f3 hw9 HK9
   refine bodyPost_ret ?_ rfl ⟨ansZ HE,HB9.out⟩
   simp [results,Tryz.results17,go_sem, *]
end Go.Proofs.YtmeaiocohalphaaGreatDoor
namespace Go.Proofs.YtmeaiocohalphaaGreatDoor
open Go.RowKit Go.Shelf
set_option linter.all false
def Tryz.laysJ14_ren:Go.Shelf.Ren:=⟨fun | 14=>107 | 15=>184 | n=>n,fun | 26=>89 | 22=>23 | 3=>3 | 4=>4 | 0=>0 | 9=>9 | 20=>20 | 5=>5 | n=>n,fun | n=>n⟩
theorem Tryz.laysJ14:Go.Proofs.SlLaysJ.n14 Tryz.prog Tryz.laysJ14_ren:={
 mixed:=by kernel_rfl
 f14:=Tryz.func107.trans (congrArg some (by kernel_rfl))
 f15:=Tryz.func184.trans (congrArg some (by kernel_rfl))
 t0:=Tryz.underlying0
 a0:=Tryz.isAgg0
 z0:=Tryz.sizeOf0
 v0:=Tryz.zeroValue0
 t3:=Tryz.underlying3
 a3:=Tryz.isAgg3
 z3:=Tryz.sizeOf3
 v3:=Tryz.zeroValue3
 t4:=Tryz.underlying4
 a4:=Tryz.isAgg4
 z4:=Tryz.sizeOf4
 v4:=Tryz.zeroValue4
 t9:=Tryz.underlying9
 a9:=Tryz.isAgg9
 z9:=Tryz.sizeOf9
 v9:=Tryz.zeroValue9
 t20:=Tryz.underlying20
 a20:=Tryz.isAgg20
 z20:=Tryz.sizeOf20
 v20:=Tryz.zeroValue20
 t22:=Tryz.underlying23
 a22:=Tryz.isAgg23
 z22:=Tryz.sizeOf23
 v22:=Tryz.zeroValue23
 t26:=Tryz.underlying89
 a26:=Tryz.isAgg89
 z26:=Tryz.sizeOf89
 v26:=Tryz.zeroValue89
 t5:=Tryz.underlying5
 z5:=Tryz.sizeOf5
 i5:=by kernel_rfl}
theorem qx3 {B:Nat} {w:World} {v:Value} {l:List UInt8} (h:Lib.FreshBytes B w v l):Rd w v l:=by
 obtain ⟨g,cap,zs,rfl,_,h2,h3,h4,h5,h6,h7,_⟩:=h
 by_cases h0:l=[]
 ·subst h0
  exact .inl ⟨rfl,.inr ⟨_,_,rfl⟩⟩
 ·refine .inr ⟨g,0,cap,rfl,h2,h3,fun j hj=>?_⟩
  have e1:=h7 j (by omega)
  have hz:j<zs.length:=by omega
  have e2:l[j]? =some (UInt8.ofNat (zs[j]).toNat):=by
   rw [←h6];unfold Lib.bytesOf;rw [List.getElem?_map,List.getElem?_take,if_pos hj,List.getElem?_eq_getElem hz];rfl
  rw [List.getElem?_eq_getElem hj] at e2;have e3:=Option.some.inj e2;have h9:=h5 (zs[j]) (List.getElem_mem hz);rw [Nat.zero_add,e1,List.getD_eq_getElem?_getD,List.getElem?_eq_getElem hz,e3,UInt8.toNat_ofNat']
  show some (Value.int .u8 (zs[j]))=_
  congr 2
  omega
theorem qmr {w:World} {y:Option Addr} {z:Nat} {l:List UInt8} (h:Rd w (.slice y l.length z) l):Lib.HoldsBytes w (.slice y l.length z) l:=by
 refine ⟨y,z,rfl, ?_, ?_⟩
 ·rintro rfl
  rcases h with ⟨e,_⟩ | ⟨_,_,_,e,_⟩
  ·exact e
  ·cases e
 ·rintro a rfl i x hx
  rcases h with ⟨e,_⟩ | ⟨b,off,c,e,_,_,hc⟩
  ·subst e;simp at hx
  ·cases e
   obtain ⟨hi,e9⟩:=List.getElem?_eq_some_iff.1 hx
   have:=hc i hi
   rw [Lib.add_plain2,this,e9]
theorem qahr {w:World} {b o c:Nat} {L:List (List UInt8)} (h:RdL w (.slice (some ⟨b,o,none⟩) L.length c) L):∃vs,Lib.PartsAt w ⟨b,o,none⟩ vs L:=by
 have hc:∀j (hj:j<L.length),∃v,w.cell? ⟨b,o+j,none⟩=some v∧Lib.HoldsBytes w v (L[j]):=by
  intro j hj;obtain ⟨b',off',y,z,e,h1,h2⟩:=RdL.at h j hj;cases e;exact ⟨_,h1,qmr h2⟩
 refine ⟨(List.range L.length).map fun j=>(w.cell? ⟨b,o+j,none⟩).getD (.bool false),by simp, ?_, ?_⟩
 ·intro i v hv
  obtain ⟨hi,e⟩:=List.getElem?_eq_some_iff.1 hv
  have hi':i<L.length:=by simpa using hi
  obtain ⟨u,h1,_⟩:=hc i hi';rw [List.getElem_map,List.getElem_range,h1] at e;rw [Lib.add_plain2,h1,←e];rfl
 ·intro i v l hv hl
  obtain ⟨hi,e⟩:=List.getElem?_eq_some_iff.1 hv;obtain ⟨hi',e'⟩:=List.getElem?_eq_some_iff.1 hl;obtain ⟨u,h1,h2⟩:=hc i hi';rw [List.getElem_map,List.getElem_range,h1] at e;rw [←e,←e'];exact h2
theorem qad3:∀(L:List (List UInt8)),Lib.join L []=L.flatten
 | []=>rfl
 | x::r=>by
  rw [Lib.join_cons,List.flatten_cons];unfold Lib.joinTail
  congr 1
  rw [show (fun y:List UInt8=>[]++y)=id from funext fun y=>List.nil_append y,List.map_id]
theorem qad4 (L:List (List UInt8)):Lib.lens L=L.flatten.length:=by
 unfold Lib.lens;rw [List.length_flatten]
theorem qaln (a:Option Addr) (n c:Nat) (L:List (List UInt8)) (w:World) (hrd:RdL w (.slice a n c) L) (hn:n=L.length) (h1:1≤n) (hn2:n≤1000000) (hl:L.flatten.length≤100000000):
  Calls Tryz.prog 107 #[.slice a n c,.slice none 0 0] w fun e w'=>∃v,e=.returned v∧Rd w' v L.flatten∧Below w.heap.size w w':=by
 subst hn;obtain ⟨b,off,y,z,e,hc0,hr0⟩:=RdL.at hrd 0 (by omega);subst e
 have hcap:L.length≤c:=by
  rcases hrd with ⟨e,_⟩ | ⟨_,_,_,e,h2,_⟩
  ·rw [e] at h1;simp at h1
  ·cases e;exact h2
 by_cases h2:2≤L.length
 ·obtain ⟨vs,hvs⟩:=qahr hrd
  refine (Any.bytes_Join_many Tryz.laysJ14 b off L.length c vs L (.slice none 0 0) [] w rfl h2 hvs hcap ⟨none,0,rfl,fun _=>rfl,fun a e=>by cases e⟩ (by omega) (by rw [qad4];simp only [List.length_nil,Nat.zero_mul];omega)).mono ?_
  rintro e w' ⟨v,rfl,hf,hb⟩;rw [qad3] at hf;exact ⟨v,rfl,qx3 hf,hb⟩
 ·obtain ⟨x,rfl⟩:∃x,L=[x]:=by
   match L,h1,h2 with
   | [x],_,_=>exact ⟨x,rfl⟩
   | [],h1,_=>simp at h1
   | _::_::_,_,h2=>simp at h2
  rw [Nat.add_zero] at hc0;have hx:([x]:List (List UInt8))[0]=x:=rfl
  simp only [hx] at hc0 hr0
  have hfl:[x].flatten=x:=by simp
  rw [hfl] at hl ⊢
  by_cases h0:x=[]
  ·subst h0
   refine (Any.bytes_Join_one_empty Tryz.laysJ14 b off c y z (.slice none 0 0) w hc0).mono ?_
   rintro e w' ⟨rfl,rfl⟩;exact ⟨_,rfl,.inl ⟨rfl,.inl rfl⟩,Below.refl _ _⟩
  ·obtain ⟨p,cap,e9,hp,hcl⟩:=qmr hr0
   cases e9
   cases y with
   | none=>exact absurd (hp rfl) h0
   | some ad=>
    refine (Any.bytes_Join_one Tryz.laysJ14 b off c ad z x (.slice none 0 0) w hc0 (hcl ad rfl) (List.length_pos_iff.2 h0) (by omega)).mono ?_
    rintro e w' ⟨v,rfl,hf,hb⟩;exact ⟨v,rfl,qx3 hf,hb⟩
theorem qahs (a b:Value) (l m:List UInt8) (w:World) (h:Rd w a l) (k:Rd w b m):
  Calls Tryz.prog 106 #[a,b] w fun e w'=>e=.returned (.bool (decide (l=m)))∧w'=w:=qrt _ _ _ _ _ h k
end Go.Proofs.YtmeaiocohalphaaGreatDoor
namespace Go.Proofs.YtmeaiocohalphaaGreatDoor
open Go.RowKit
set_option linter.all false
theorem qjn (w:World) (e:TypeId) (s:ByteArray):Below w.heap.size w (Lib.bytesWorld w e s):=
 ⟨rfl,rfl,rfl,by rw [Lib.bytesWorld_size];omega,fun k hk=>Lib.bytesWorld_at_old w e s k hk⟩
theorem strY9 (s:List UInt8) (w:World) (hs:s.length≤1000000):
  ∃a c w',(convert 9 23 (.string (bs s))).run Tryz.prog w=.ok (.slice a s.length c) w'∧Rd w' (.slice a s.length c) s∧Below w.heap.size w w':=by
 have hcv:=Lib.run_convert_string_bytes (P:=Tryz.prog) w 9 23 5 (bs s) Tryz.underlying9 Tryz.underlying23 Tryz.underlying5;have hg1:=grownCap_ge w (bs s).size 0 5;have hg2:=grownCap_le_maxLen w (bs s).size 0 5 (by rw [qbz];unfold maxLen;omega);rw [qbz] at hcv hg1 hg2;refine ⟨_,_,_,hcv,.inr ⟨w.heap.size,0,_,rfl,by omega,hg2,fun j hj=>?_⟩,qjn w 5 (bs s)⟩;rw [Nat.zero_add,Lib.bytesWorld_cell w 5 (bs s) j (by rw [qbz];exact hj),qbu]
 simp [List.getD,List.getElem?_eq_getElem hj]
theorem qj8 {P:Program} {w w':World} {ops:Array Oper} {rest:List Oper} {o:Oper} {a:Act} {Q:Exit→Act→World→Prop} (hgd:o.guard=none) (x:Operand) (t u:TypeId)
  (ho:o.op=.convert t u x) {v v':Value} (hx:a.eval x=v) (hrun:(convert t u v).run P w=.ok v' w') (h:wpList P ops Q rest (a.put o.dst v') w'):wpList P ops Q (o::rest) a w:=by
 refine wpList_plain hgd fun K hK=>?_
 unfold Oper.wp execOp
 simp only [ho,hx,Sem.run_bind,hrun,Result.andThen_ok,Sem.run_pure]
 exact hK _ _ h
theorem red_8 {s:List UInt8} (hs:s.length≤16384) (h0:¬redE s=0):redE s=8:=by
 unfold redE at *;rw [if_neg (by omega)] at *
 split
 ·rename_i h;rw [if_pos h] at h0;exact absurd rfl h0
 ·rfl
theorem qalo (a:Option Addr) (n c:Nat) (b:List UInt8) (w:World) (hrd:Rd w (.slice a n c) b) (hn:n=b.length) (hl:b.length≤16384):
  Calls Tryz.prog 48 #[.slice a n c] w fun e w'=>AnsV w.heap.size (hldV b) (hldE b) e w'∧Below w.heap.size w w':=by
 obtain ⟨w1,hw1⟩:∃w1,w1=w.alloc (.cells #[.slice none 0 0,.int .i64 0,.int .i64 0,.string {data:=#[]}] 36):=⟨_,rfl⟩
 have hb1:Below w.heap.size w w1:=by rw [hw1];exact (Below.refl _ _).alloc (Nat.le_refl _) _
 have HZ1:=hide (show VvAt w1 w.heap.size (.slice none 0 0) 0 0 [] by rw [hw1];exact VvAt.new w _ 0 0 []);have HB1:=hide hb1;have HRD:=hide hrd;have HLN:=hide hl
 cases hct:ct b with
 | none=>
  have hcon:=qmn a n c b w1 (by omega) (HRD.out.carry HB1.out) hct;have HE:=hide (And.intro (qit hct) (qml hct));clear hb1 hrd hn hct hl
  go_enter Tryz.func48,Tryz.ntmps48
  go_wp2_with fail
  rw [←hw1]
  refine hcon.mono ?_
  rintro e w2 ⟨a2,n2,c2,rfl,b2⟩;have HZ2:=hide (HZ1.out.carry b2);have HB2:=hide (HB1.out.trans (b2.mono HB1.out.size));clear hcon b2 HZ1 hw1;obtain ⟨w9,hw9,HB9,HK9,r0,r1,r2,r3,f0,f1,f2,f3,z0,z1,z2,z3⟩:=qhv HZ2 HB2 (Nat.le_refl _);go_wp2
  try rw [hw9]
  clear r0 r1 r2 r3 f0 f1 f2 f3 hw9 HK9
  refine bodyPost_ret ?_ rfl ⟨ansZ HE,HB9.out⟩
  simp [results,Tryz.results48,go_sem, *]
 | some p=>
  obtain ⟨s,r⟩:=p
  have hsl:s.length≤16384:=by
   have h9:=qne hct;have h8:=congrArg List.length h9;unfold tx at h8;rw [List.length_append,List.length_append] at h8;omega
  have HSL:=hide hsl;have HX:=hide (And.intro (qgh hct) (qgi hct));have hcon:=qmm a n c b s r w1 (by omega) (HRD.out.carry HB1.out) hct;clear hb1 hrd hn hct hl
  go_enter Tryz.func48,Tryz.ntmps48
  go_wp2_with fail
  rw [←hw1]
  refine hcon.mono ?_
  rintro e w2 ⟨a2,c2,rfl,o2,b2⟩;have HZ2:=hide (HZ1.out.carry b2);have HB2:=hide (HB1.out.trans (b2.mono HB1.out.size));clear hcon b2 HZ1 hw1 o2;have hcon:=qadb s w2 (by have:=HSL.out;omega)
  go_wp2_with fail
  refine hcon.mono ?_
  rintro e w3 ⟨v3,rfl,o3,b3⟩;have HZ3:=hide (HZ2.out.carry b3);have HB3:=hide (HB2.out.trans (b3.mono HB2.out.size));obtain ⟨a3,c3,e3⟩:=o3.form;obtain ⟨m3,hm3⟩:∃m3,m3=(tx s).length:=⟨_,rfl⟩;rw [←hm3] at e3;subst e3
  have htl:(tx s).length≤16394:=by have:=qbk s (by omega);omega
  have hcon:=qtc a3 m3 c3 (tx s) w3 o3.rd hm3 (by omega);have HTL:=hide htl;clear o3 b3 HZ2 hsl hm3 htl
  go_wp2_with fail
  refine hcon.mono ?_
  rintro e w4 ⟨v4,rfl,o4,b4⟩;have HZ4:=hide (HZ3.out.carry b4);have HB4:=hide (HB3.out.trans (b4.mono HB3.out.size));obtain ⟨a4,c4,e4⟩:=o4.form;obtain ⟨m4,hm4⟩:∃m4,m4=(blkM (tx s)).length:=⟨_,rfl⟩;rw [←hm4] at e4;subst e4;have hbl:=qd5 (tx s);have hwp:=qak4 (tx s).length;have htl:=HTL.out
  have hwt:whN (tx s).length≤1000:=by unfold whN;omega
  have hcon:=qaln a4 m4 c4 (blkM (tx s)) w4 o4.rdL hm4 (by omega) (by omega) (by rw [qs8,qis];omega);rw [qs8] at hcon;clear o4 b4 HZ3 htl hbl hwp hwt hm4
  go_wp2_with fail
  refine hcon.mono ?_
  rintro e w5 ⟨v5,rfl,o5,b5⟩;have HZ5:=hide (HZ4.out.carry b5);have HB5:=hide (HB4.out.trans (b5.mono HB4.out.size));have hcon:=qahs (.slice a n c) v5 b (fulB (tx s)) w5 (HRD.out.carry HB5.out) o5;clear o5 b5 HZ4
  go_wp2_with fail
  refine hcon.mono ?_
  rintro e w6 ⟨rfl,hw6⟩;have hw6s:=hw6.symm;subst hw6s;clear hcon
  by_cases hbe:b=fulB (tx s)
  ·rw [decide_eq_true hbe]
   obtain ⟨a7,c7,w7,hcv,r7,b7⟩:=strY9 s w5 (by have:=HSL.out;omega);have HZ7:=hide (HZ5.out.carry b7);have HB7:=hide (HB5.out.trans (b7.mono HB5.out.size));have hcon:=qalm a7 s.length c7 s w7 r7 rfl;obtain ⟨RE,hRE⟩:∃RE,RE=redE s:=⟨_,rfl⟩;obtain ⟨⟨L4,nx,sq,lg⟩,hRV⟩:∃RV,RV=redV s:=⟨_,rfl⟩;rw [←hRE,←hRV] at hcon
   have HE:=hide (show hldE b=RE∧hldV b=(L4,nx,sq,lg) by
    by_cases h0:redE s=0
    ·have h1:=HX.out.1
     have h2:=HX.out.2;rw [if_pos ⟨hbe,h0⟩] at h1 h2;exact ⟨by rw [h1,hRE,h0],by rw [h2,hRV]⟩
    ·have h1:=HX.out.1
     have h2:=HX.out.2;rw [if_neg (fun h=>h0 h.2)] at h1 h2
     exact ⟨by rw [h1,hRE,red_8 (by have:=HSL.out;omega) h0],by rw [h2,hRV];unfold redV;rw [if_neg h0]⟩)
   clear HZ5 b7 r7 hRE hRV HX hbe
   go_wp2_with (refine qj8 rfl (.tmp 25) 9 23 rfl rfl hcv ?_)
   refine hcon.mono ?_
   rintro e w8 ⟨⟨v8,S,rfl,ho,hlv⟩,b8⟩;have HZ8:=hide (HZ7.out.carry b8);have HB8:=hide (HB7.out.trans (b8.mono HB7.out.size));obtain ⟨a8,c8,e8⟩:=OwG.form ho.1;obtain ⟨n8,hn8⟩:∃n8,n8=S.length:=⟨_,rfl⟩;rw [←hn8] at e8;subst e8;have HO8:=hide ho;have HLV:=hide hlv;clear hcon hcv b8 ho hlv HZ7 hn8;obtain ⟨w9,hw9,HB9,HK9,r0,r1,r2,r3,f0,f1,f2,f3,z0,z1,z2,z3⟩:=finV HZ8 HB8 (Nat.le_refl _) (.slice a8 n8 c8) nx sq lg;have HO9:=hide ((HO8.out.mono (show w.heap.size≤w7.heap.size from HB7.out.size)).keepV HK9);go_wp2
   try rw [hw9]
   clear r0 r1 r2 r3 f0 f1 f2 f3 hw9 HK9
   refine bodyPost_ret (v:=.tuple #[.agg #[.slice a8 n8 c8,.int .i64 nx,.int .i64 sq,.string (bs lg)],.int .i64 RE]) ?_ rfl ⟨by rw [HE.out.1,HE.out.2];exact ⟨_,S,rfl,HO9.out,HLV.out⟩,HB9.out⟩
   simp [results,Tryz.results48,go_sem, *]
  ·rw [decide_eq_false hbe]
   have HE:=hide (show hldE b=8∧hldV b=zerV by
    have h1:=HX.out.1;have h2:=HX.out.2;rw [if_neg (fun h=>hbe h.1)] at h1 h2
    exact ⟨h1,h2⟩)
   clear HX hbe;obtain ⟨w9,hw9,HB9,HK9,r0,r1,r2,r3,f0,f1,f2,f3,z0,z1,z2,z3⟩:=qhv HZ5 HB5 (Nat.le_refl _);go_wp2
   try rw [hw9]
   clear r0 r1 r2 r3 f0 f1 f2 f3 hw9 HK9
   refine bodyPost_ret ?_ rfl ⟨ansZ HE,HB9.out⟩
   simp [results,Tryz.results48,go_sem, *]
theorem makeN9 (n:Nat) (w:World) (hn:n≤100000000):∃w2,(Instr.makeSlice 23 (.int .i64 n) (.int .i64 n)).run Tryz.prog w=.ok (.slice (some ⟨w.heap.size,0,none⟩) n n) w2∧OwB w2 w.heap.size (.slice (some ⟨w.heap.size,0,none⟩) n n) (List.replicate n 0)∧Below w.heap.size w w2:=by
 obtain ⟨i0,hi,hz0,hz1,hz2⟩:=info_parts Tryz.infoB;obtain ⟨w2,hmake,hown2,hg2⟩:=run_make_full (P:=Tryz.prog) w w.heap.size 23 5 i0 _ 1 Tryz.underlying23 hi hz0 hz1 .i64 .i64 n (by rw [hz2];omega) (by unfold maxLen;omega) (Nat.le_refl _);refine ⟨w2,hmake, ?_,(Below.refl _ _).grown hg2 (Nat.le_refl _) (fun k hk=>by cases hk)⟩
 show w2.ownsRow _ _ _ _ _ _
 rw [List.length_replicate]
 have e:(madeCells (Value.int IntKind.u8 0).cells (n*1)).toList=u8v (List.replicate n 0):=by
  show (madeCells #[Value.int .u8 0] (n*1)).toList=_
  rw [toList_madeCells_one]
  simp [u8v]
 rw [←e];exact hown2
theorem Bq.oth9 {w w':World} {p q:Nat} {t:TypeId} {cs:Array Value} (h:Bq w p t cs) (hg:w.grownBy w' (some q)) (hne:p≠q):Bq w' p t cs:=
 (hg.block p (Array.getElem?_eq_some_iff.1 h).1 (fun e=>hne (Option.some.inj e))).trans h
theorem qx4 (x:FsV) (f:Fsd) (s:List UInt8) (n:Int) (w:World) (h:RdX w x f) (hw:WfX f) (hn1:-9223372036854775808≤n) (hn2:n≤9223372036854775807):
  Calls Tryz.prog 14 #[x.val,.string (bs s),.int .i64 n] w fun e w'=>∃v,e=.returned (.tuple #[v,.int .i64 (fetE f s n)])∧OwB w' w.heap.size v (fetB f s n)∧Below w.heap.size w w':=by
 have HW:=hide hw;clear hw;obtain ⟨w1,ew⟩:∃w1,w.alloc (.cells x.cs 33)=w1:=⟨_,rfl⟩
 have hb1:Below w.heap.size w w1:=by rw [←ew];exact (Below.refl _ _).alloc (Nat.le_refl _) _
 have qbe:=hide (show FsAt w1 w.heap.size x by rw [←ew];exact Bq.new _ _ _);obtain ⟨k0,k1,k2,k3,k4,k5⟩:=qab qbe.out;have HX:=hide h;have qad:=hide hb1;clear h hb1;unfold FsV.val;unfold FsV.cs at ew
 go_enter Tryz.func14,Tryz.ntmps14
 go_wp2_with fail
 refine (qace x f s w1 (HX.out.carry qad.out) HW.out).mono ?_
 rintro e w2 ⟨rfl,hb2⟩;have qb9:=hide (qbe.out.carry hb2);have qae:=bT qad hb2;clear k0 k1 k2 k3 k4 k5 ew hb2
 by_cases g1:qat f s=0
 ·have HG:=hide g1
  obtain ⟨m,hm⟩:∃m,m=(qbf f s).length:=⟨_,rfl⟩
  have hm4:m≤4096:=by rw [hm];exact qgg f s
  have HM:=hide hm;rw [g1,qir g1,←hm];clear g1 hm;have HMUL:=hide (show wrap64 ((m:Int)*128)=(m:Int)*128 by unfold wrap64;omega)
  by_cases hbad:n<0∨(128*(qbf f s).length:Int)<n
  ·have HE:=hide (qai4 HG.out hbad)
   have hcase:n<0∨(decide (n<0)=false∧(m:Int)*128<n):=by
    rcases hbad with h | h
    ·exact .inl h
    ·by_cases h0:n<0
     ·exact .inl h0
     ·exact .inr ⟨decide_eq_false h0,by have:=HM.out;omega⟩
   clear hbad;have hmul:=HMUL.out
   rcases hcase with h0 | ⟨h0,h1⟩
   all_goals
    go_wp2;go_ret2;exact ⟨_,by rw [HE.out.1];rfl,by rw [HE.out.2];exact World.ownsRow_nil _ _ _ _,qae.out⟩
  ·obtain ⟨q,rfl⟩:∃q:Nat,n=q:=⟨n.toNat,by omega⟩
   have hq:q≤128*m:=by have:=HM.out;omega
   have HE:=hide (qada (n:=q) HG.out (by rw [←HM.out];exact hq));have HQ:=hide hq;have h0:decide ((q:Int)<0)=false:=decide_eq_false (by omega);have h1:decide ((m:Int)*128<q)=false:=decide_eq_false (by omega)
   have h2:¬(m:Int)*128<q:=by omega
   have hfl:=qfb f s;obtain ⟨L,hL⟩:∃L,L=(qbf f s).flatten:=⟨_,rfl⟩;have HL:=hide hL;have HFL:=hide (show L.length=128*m by rw [hL,hfl,HM.out]);obtain ⟨w3,hmk,hO3,hb3⟩:=makeN9 q w2 (by omega);have qht:=hide (qb9.out.carry hb3);have qak:=hide (qae.out.trans (hb3.mono qae.out.size));have qqw:=hide hO3;obtain ⟨G,hG⟩:∃G,G=w2.heap.size:=⟨_,rfl⟩;rw [←hG] at hmk qqw;have HGG:=hide (show w.heap.size<G by rw [hG];have:=qb9.out.lt;omega);have HGB:=hide (show w.heap.size≤G by have:=HGG.out;omega);clear hbad hq hfl hL hO3 hb3 hG hn1 hn2;have hmul:=HMUL.out;go_wp2;clear hmk h0 h1 h2 hmul
   go_loopw [11,12] (fun i at_ wr=>∃k u:Nat,u=min q (128*k)∧(128*k<q+128)∧i=.int .i64 k∧at_=.int .i64 u∧Hid (OwB wr G (.slice (some ⟨G,0,none⟩) q q) (fetN L q k))∧Hid (FsAt wr w.heap.size x)∧Hid (Below w.heap.size w wr)) (fun i _ _=>m+1 - (intOf i).toNat)
   case atStart=>exact ⟨0,0,by omega,by omega,rfl,rfl,hide (by rw [qac8];exact qqw.out),qht,qak⟩
   case round=>
    clear qht qak qqw;obtain ⟨k,u,hu,hk,rfl,rfl,hown,hF,hB⟩:=hrel
    by_cases hlt:u<q
    ·have hlt':(u:Int)<q:=by omega
     obtain rfl:u=128*k:=by omega
     have hkm:k<m:=by have:=HQ.out;omega
     have hkl:k<(qbf f s).length:=by rw [←HM.out];exact hkm
     have HKM:=hide hkm;have HGT:=hide (qxq HG.out hkl);have HPC:=hide (qzf hkl);obtain ⟨k0,k1,k2,k3,k4,k5⟩:=qab hF.out;clear hu
     go_wp2_with fail
     refine (get_fs x f s k wr (HX.out.carry hB.out) HW.out).mono ?_
     rintro e w4 ⟨v4,rfl,ho4,hb4⟩;obtain ⟨bk,hbk⟩:∃bk,bk=(qbf f s)[k]:=⟨_,rfl⟩;rw [HGT.out.2,←hbk] at ho4;rw [HGT.out.1]
     have hbl:bk=(L.drop (128*k)).take 128:=by rw [hbk,HPC.out,HL.out]
     have HRB:=hide (OwB.rd ho4);obtain ⟨y4,z4,rfl⟩:=ho4.form;have hO4:=hown.out.carry hb4;have HO4:=hide hO4;have HFN:=hide (show (fetN L q k).length=q from qagz (by rw [HFL.out];exact HQ.out) k);have HF4:=hide (hF.out.carry hb4);have HB4:=hide (hB.out.trans (hb4.mono hB.out.size));have hgl:=(World.ownsRow.lt hO4 G rfl).2
     have HSP:=hide (show splice (fetN L q k) (128*k) (bk.take (q - 128*k))=fetN L q (k+1) by
      rw [hbl];exact qac9 (by rw [HFL.out];exact HQ.out) hlt (by rw [HFL.out];omega))
     obtain ⟨t,ht⟩:∃t,t=(bk.take (q - 128*k)).length:=⟨_,rfl⟩
     have htv:t=min (q - 128*k) 128:=by
      have h8:=HFL.out
      rw [ht,hbl,List.length_take,List.length_take,List.length_drop];omega
     have HT:=hide ht.symm;have HTV:=hide htv
     have y1:128*k≤q:=by omega
     have y2:¬128*k=q:=by omega
     have hkb:k≤5000:=by omega
     have htb:128*k+t≤1000000:=by omega
     obtain ⟨at9,hat⟩:∃at9,at9=128*k:=⟨_,rfl⟩;have HAT:=hide hat;rw [←hat] at hlt hlt' y1 y2 htb ⊢;clear k0 k1 k2 k3 k4 k5 hbk hbl ho4 hb4 hO4 hown hF hB ht htv hgl HGT HPC hkl hkm hat
     go_wp2_with (refine qgf w4 rfl (.tmp 52) (.tmp 53) 23 rfl Tryz.underlying23 Tryz.sizeB G G q q at9 (q - at9) (q - at9) rfl _ bk rfl HRB.out _ HO4.out (by rw [HFN.out];omega) ?_;intro w5 hg5 hO5;rw [HAT.out,HSP.out] at hO5;have HO5:=hide hO5;have HG5:=hide hg5;clear hg5 hO5;rw [HAT.out,HT.out,←HAT.out])
     go_roundw
     case rel=>exact ⟨k+1,at9+t,by have:=HAT.out;have:=HTV.out;omega,by have:=HAT.out;omega,by go_num,by go_num,HO5,hide (HF4.out.oth9 HG5.out (by have:=HGG.out;omega)),hide (HB4.out.grown HG5.out HB4.out.size (by intro k hk;cases hk;exact HGB.out))⟩
     case measure=>
      clear hlt hlt' y1 y2 hk htb;have h1:=HKM.out
      simp only [intOf]
      omega
    ·have hd:decide ((u:Int)<q)=false:=decide_eq_false (by omega)
     have hk2:q≤128*k:=by omega
     have HO:=hide (show OwB wr G (.slice (some ⟨G,0,none⟩) q q) (L.take q) by
      have:=hown.out
      rwa [qag0 hk2] at this)
     clear hown hu;go_wp2;go_ret2;exact ⟨_,by rw [HE.out.1];rfl,by rw [HE.out.2,←HL.out];exact HO.out.mono HGB.out,hB.out⟩
 ·have HE:=hide (qai3 (n:=n) g1)
  obtain ⟨z,hz⟩:∃z,z=qf5 f s:=⟨_,rfl⟩;obtain ⟨e,he⟩:∃e,e=qat f s:=⟨_,rfl⟩;rw [←he] at g1 HE ⊢;rw [←hz]
  have ge:(e==0)=false:=by simpa using g1
  have gn:(e !=0)=true:=by simpa using g1
  clear hz he g1;go_wp2;go_ret2;exact ⟨_,by rw [HE.out.1];rfl,by rw [HE.out.2];exact World.ownsRow_nil _ _ _ _,qae.out⟩
theorem qaje {f:Fsd} (h:¬qat f curN=0):lodE f=qat f curN∧lodV f=zerV:=⟨by unfold lodE;rw [if_pos h],by unfold lodV;rw [if_pos h]⟩
theorem qx5 {f:Fsd} (h:qat f curN=0):lodE f=hldE (qbf f curN).flatten∧lodV f=hldV (qbf f curN).flatten:=⟨by unfold lodE;rw [if_neg (fun e=>e h)],by unfold lodV;rw [if_neg (fun e=>e h)]⟩
theorem qalp (x:FsV) (f:Fsd) (w:World) (h:RdX w x f) (hw:WfX f):
  Calls Tryz.prog 16 #[x.val] w fun e w'=>AnsV w.heap.size (lodV f) (lodE f) e w'∧Below w.heap.size w w':=by
 have HX:=hide h;have HW:=hide hw;have q0:Below w.heap.size w (w.alloc (.cells x.cs 33)):=(Below.refl _ _).alloc (Nat.le_refl _) _
 have hsz:(w.alloc (.cells x.cs 33)).heap.size=w.heap.size+1:=by simp
 obtain ⟨w1,ew⟩:∃w1,(w.alloc (.cells x.cs 33)).alloc (.cells #[.slice none 0 0,.int .i64 0,.int .i64 0,.string {data:=#[]}] 36)=w1:=⟨_,rfl⟩
 have q1:Below (w.alloc (.cells x.cs 33)).heap.size (w.alloc (.cells x.cs 33)) w1:=by rw [←ew];exact (Below.refl _ _).alloc (Nat.le_refl _) _
 have qbe:=hide (show FsAt w1 w.heap.size x from (Bq.new w 33 x.cs).carry q1);have qalq:=hide (show VvAt w1 (w.heap.size+1) (.slice none 0 0) 0 0 [] by rw [←ew,←hsz];exact VvAt.new _ _ 0 0 []);have qad:=hide (show Below w.heap.size w w1 from q0.trans (q1.mono (by omega)));obtain ⟨k0,k1,k2,k3,k4,k5⟩:=qab qbe.out;have hcon:=qace x f curN w1 (HX.out.carry qad.out) HW.out;rw [show bs curN={data:=#[99,117,114,114,101,110,116]} from rfl] at hcon;clear h hw q0 q1 hsz;unfold FsV.val;unfold FsV.cs at ew
 go_enter Tryz.func16,Tryz.ntmps16
 go_wp2_with fail
 try rw [ew]
 refine hcon.mono ?_
 rintro e w2 ⟨rfl,hb2⟩;have qb9:=hide (qbe.out.carry hb2);have qvl:=hide (qalq.out.carry hb2);have qae:=hide (qad.out.trans (hb2.mono qad.out.size));clear k0 k1 k2 k3 k4 k5 ew hb2 hcon
 by_cases g1:qat f curN=0
 case neg=>
  have HE:=hide (qaje g1);obtain ⟨z,hz⟩:∃z,z=qf5 f curN:=⟨_,rfl⟩;obtain ⟨E,he⟩:∃e,e=qat f curN:=⟨_,rfl⟩;rw [←he] at g1 HE ⊢;rw [←hz]
  have ge:(E==0)=false:=by simpa using g1
  have gn:(E !=0)=true:=by simpa using g1
  clear hz he g1;obtain ⟨w9,hw9,HB9,HK9,r0,r1,r2,r3,f0,f1,f2,f3,z0,z1,z2,z3⟩:=qhv qvl qae (Nat.le_succ _);go_wp2
  try rw [hw9]
  clear r0 r1 r2 r3 f0 f1 f2 f3 hw9 HK9
  refine bodyPost_ret ?_ rfl ⟨ansZ HE,HB9.out⟩
  simp [results,Tryz.results16,go_sem, *]
 have HG:=hide g1;obtain ⟨m,hm⟩:∃m,m=(qbf f curN).length:=⟨_,rfl⟩
 have hm4:m≤4096:=by rw [hm];exact qgg f curN
 have HM:=hide hm;have hfl:=qfb f curN;have HFL:=hide (show (qbf f curN).flatten.length=128*m by rw [hfl,HM.out]);rw [g1,qir g1,←hm];clear g1 hm hfl
 by_cases g2:128<m
 ·have g3:(128:Int)<m:=by omega
  have HE:=hide (show lodE f=8∧lodV f=zerV by
   rw [(qx5 HG.out).1,(qx5 HG.out).2]
   exact qagy (by rw [HFL.out];omega))
  obtain ⟨w9,hw9,HB9,HK9,r0,r1,r2,r3,f0,f1,f2,f3,z0,z1,z2,z3⟩:=qhv qvl qae (Nat.le_succ _);go_wp2
  try rw [hw9]
  clear r0 r1 r2 r3 f0 f1 f2 f3 hw9 HK9
  refine bodyPost_ret ?_ rfl ⟨ansZ HE,HB9.out⟩
  simp [results,Tryz.results16,go_sem, *]
 have g3:decide ((128:Int)<m)=false:=decide_eq_false (by omega);have g4:decide (128<m)=false:=decide_eq_false g2;have hfo:=qada (n:=m*128) HG.out (by rw [←HM.out];omega);have hcon:=qx4 x f curN ((m*128:Nat):Int) w2 (HX.out.carry qae.out) HW.out (by omega) (by omega);rw [hfo.1,hfo.2,List.take_of_length_le (by rw [HFL.out];omega)] at hcon;have HM9:=hide (show m≤128 by omega)
 have hmul:wrap64 ((m:Int)*128)=((m*128:Nat):Int):=by unfold wrap64;omega
 rw [show bs curN={data:=#[99,117,114,114,101,110,116]} from rfl] at hcon;obtain ⟨k0,k1,k2,k3,k4,k5⟩:=qab qb9.out;clear g2 hfo hm4
 go_wp2_with fail
 clear hmul k0 k1 k2 k3 k4 k5 g3 g4
 refine hcon.mono ?_
 rintro e w3 ⟨v3,rfl,ho3,hb3⟩;have HZ_w3:=hide (qvl.out.carry hb3);have qak:=hide (qae.out.trans (hb3.mono qae.out.size));obtain ⟨B,hB⟩:∃B,B=(qbf f curN).flatten:=⟨_,rfl⟩;rw [←hB] at ho3;have HBL:=hide (show B.length≤16384 by rw [hB,HFL.out];have:=HM9.out;omega);have HLO:=hide (qx5 HG.out);rw [←hB] at HLO;have hrd3:=OwB.rd ho3;obtain ⟨a3,c3,e3⟩:=ho3.form;obtain ⟨n3,hn3⟩:∃n3,n3=B.length:=⟨_,rfl⟩;rw [←hn3] at e3;subst e3;obtain ⟨RE,hRE⟩:∃RE,RE=hldE B:=⟨_,rfl⟩;obtain ⟨⟨L4,nx,sq,lg⟩,hRV⟩:∃RV,RV=hldV B:=⟨_,rfl⟩;have hcon:=qalo a3 n3 c3 B w3 hrd3 hn3 HBL.out;rw [←hRE,←hRV] at hcon;have HE:=hide (show lodE f=RE∧lodV f=(L4,nx,sq,lg) from ⟨by rw [HLO.out.1,hRE],by rw [HLO.out.2,hRV]⟩);clear ho3 hb3 hB hrd3 hn3 hRE hRV
 go_wp2_with fail
 refine hcon.mono ?_
 rintro e w4 ⟨⟨v8,S,rfl,ho,hlv⟩,hb4⟩;have qvm:=hide (HZ_w3.out.carry hb4);have qbh:=hide (qak.out.trans (hb4.mono qak.out.size));obtain ⟨a8,c8,e8⟩:=OwG.form ho.1;obtain ⟨n8,hn8⟩:∃n8,n8=S.length:=⟨_,rfl⟩;rw [←hn8] at e8;subst e8;have HO8:=hide (ho.mono qak.out.size);have HLV:=hide hlv;clear hcon hb4 ho hlv hn8;obtain ⟨w9,hw9,HB9,HK9,r0,r1,r2,r3,f0,f1,f2,f3,z0,z1,z2,z3⟩:=finV qvm qbh (Nat.le_succ _) (.slice a8 n8 c8) nx sq lg;have HO9:=hide (HO8.out.keepV HK9);go_wp2
 try rw [hw9]
 clear r0 r1 r2 r3 f0 f1 f2 f3 hw9 HK9
 refine bodyPost_ret (v:=.tuple #[.agg #[.slice a8 n8 c8,.int .i64 nx,.int .i64 sq,.string (bs lg)],.int .i64 RE]) ?_ rfl ⟨by rw [HE.out.1,HE.out.2];exact ⟨_,S,rfl,HO9.out,HLV.out⟩,HB9.out⟩
 simp [results,Tryz.results16,go_sem, *]
theorem OwFs.rdx {w:World} {base:Nat} {x:FsV} {f:Fsd} (h:OwFs w base x.val f):RdX w x f:=by
 obtain ⟨x',ex',hx'⟩:=h.form;have e:x'=x:=FsV.ext_val ex'.symm;subst e;exact hx'
theorem Tryz.fieldsMv:(Tryz.prog.fieldsOf 124).toList.map (fun f=>(f.type,f.offset,f.name== "_"))=[(9,0,false),(3,1,false),(3,2,false),(9,3,false),(9,4,false)]:=by kernel_rfl
theorem qqx (w:World) (p q:Mta):(Op.equalIn 10000 124 (.agg #[.string (bs p.1),.int .i64 p.2.1,.int .i64 p.2.2.1,.string (bs (Mlo p)),.string (bs (Mhi p))]) (.agg #[.string (bs q.1),.int .i64 q.2.1,.int .i64 q.2.2.1,.string (bs (Mlo q)),.string (bs (Mhi q))])).run Tryz.prog w=.ok (decide (p=q)) w:=by
 rw [run_equalIn_struct w 9999 124 _ _ (by kernel_rfl) (by kernel_rfl)];have hf:=Tryz.fieldsMv;generalize (Tryz.prog.fieldsOf 124).toList=fs at hf
 rcases fs with _ | ⟨f0,_ | ⟨f1,_ | ⟨f2,_ | ⟨f3,_ | ⟨f4,_ | ⟨f5,fs⟩⟩⟩⟩⟩⟩
 ·simp at hf
 ·simp at hf
 ·simp at hf
 ·simp at hf
 ·simp at hf
 ·simp only [List.map_cons,List.map_nil,List.cons.injEq,Prod.mk.injEq,and_true] at hf
  obtain ⟨⟨t0,o0,n0⟩,⟨t1,o1,n1⟩,⟨t2,o2,n2⟩,⟨t3,o3,n3⟩,⟨t4,o4,n4⟩⟩:=hf
  have n0':f0.name≠ "_":=by simpa using n0
  have n1':f1.name≠ "_":=by simpa using n1
  have n2':f2.name≠ "_":=by simpa using n2
  have n3':f3.name≠ "_":=by simpa using n3
  have n4':f4.name≠ "_":=by simpa using n4
  simp only [Op.eqFields,n0',n1',n2',n3',n4',ne_eq,not_false_eq_true,if_true,t0,t1,t2,t3,t4,o0,o1,o2,o3,o4]
  simp [go_sem]
  obtain ⟨k,m,d,v,u⟩:=p;obtain ⟨k',m',d',v',u'⟩:=q
  simp only [ByteArray.toList_eq,qbu,Prod.mk.injEq,Mlo,Mhi]
  by_cases h1:k=k'<;>by_cases h2:m=m'<;>by_cases h3:d=d'<;>by_cases h4:v=v'<;>by_cases h5:u=u'<;>simp [h1,h2,h3,h4,h5]
 ·simp at hf
theorem qad5 (p q:Mta) (wx:World):(binOp .neq 124 (.agg #[.string (bs p.1),.int .i64 p.2.1,.int .i64 p.2.2.1,.string (bs (Mlo p)),.string (bs (Mhi p))]) (.agg #[.string (bs q.1),.int .i64 q.2.1,.int .i64 q.2.2.1,.string (bs (Mlo q)),.string (bs (Mhi q))])).run Tryz.prog wx=.ok (.bool (!decide (p=q))) wx:=by
 rw [run_neq_struct,qqx wx p q];rfl
theorem qad6 (op:BinOp) (x y:Operand) (xs ys:Array Value) (wx:World):(eqGuard op 124 x y (.agg xs) (.agg ys)).run Tryz.prog wx=.ok () wx:=run_eqGuard_agg wx op 124 x y xs ys (by kernel_rfl)
theorem qaht (a:Option Addr) (n c:Nat) (l:List Mta) (a':Option Addr) (n' c':Nat) (l':List Mta) (w:World) (hl:l.length≤1000000) (h:RdM w (.slice a n c) l) (h':RdM w (.slice a' n' c') l'):
  Calls Tryz.prog 68 #[.slice a n c,.slice a' n' c'] w fun e w'=>e=.returned (.bool (decide (l=l')))∧Below w.heap.size w w':=by
 have HN:=hide h.len;have HN':=hide h'.len;have HR:=hide h;have HR':=hide h';have HL:=hide hl;clear h h' hl
 by_cases hn:n=n'
 ·subst hn
  have hnl:n≤1000000:=by have:=HN.out;have:=HL.out;omega
  go_enter Tryz.func68,Tryz.ntmps68
  go_wp2
  go_loopw [5] (fun i wr=>∃k:Nat,k≤n∧i=.int .i64 k∧Hid (l.take k=l'.take k)∧Below w.heap.size w wr) (fun i _=>n - (intOf i).toNat)
  case atStart=>exact ⟨0,Nat.zero_le _,rfl,hide rfl,Below.refl _ _⟩
  case round=>
   obtain ⟨k,hk,rfl,htk,hbel⟩:=hrel
   by_cases hlt:k<n
   ·have hlt':(k:Int)<n:=by omega
    have hkl:k<l.length:=by have:=HN.out;omega
    have hkl':k<l'.length:=by have:=HN'.out;omega
    obtain ⟨b,off,e1,q0,q1,q2,q3,q4⟩:=RdM.cells HR.out hbel k hkl;obtain ⟨b',off',e2,r0,r1,r2,r3,r4⟩:=RdM.cells HR'.out hbel k hkl';subst e1 e2
    have HT:=hide (show l[k]=l'[k]→l.take (k+1)=l'.take (k+1) from fun e=>by
     rw [List.take_succ_eq_append_getElem hkl,List.take_succ_eq_append_getElem hkl',htk.out,e])
    have HF:=hide (show ¬l[k]=l'[k]→decide (l=l')=false from fun e=>by
     rw [decide_eq_false];intro h;apply e
     simp only [h])
    obtain ⟨p,hp⟩:∃p:Mta,p=l[k]:=⟨_,rfl⟩;obtain ⟨q,hq⟩:∃q:Mta,q=l'[k]:=⟨_,rfl⟩;rw [←hp] at q0 q1 q2 q3 q4 HT HF;rw [←hq] at r0 r1 r2 r3 r4 HT HF;clear hp hq hkl hkl';have heg:=qad6
    by_cases hd:p=q
    ·have hne':∀wx,(binOp .neq 124 (.agg #[.string (bs p.1),.int .i64 p.2.1,.int .i64 p.2.2.1,.string (bs (Mlo p)),.string (bs (Mhi p))]) (.agg #[.string (bs q.1),.int .i64 q.2.1,.int .i64 q.2.2.1,.string (bs (Mlo q)),.string (bs (Mhi q))])).run Tryz.prog wx=.ok (.bool false) wx:=fun wx=>by
      rw [qad5 p q wx,decide_eq_true hd];rfl
     have HD:=hide (HT.out hd);clear hd;go_wp2
     go_quiet (fail)
     go_wp2;go_roundw
     case rel=>exact ⟨k+1,by omega,by go_num,HD,qgj hbel _⟩
     case measure=>simp only [intOf];omega
    ·have hne':∀wx,(binOp .neq 124 (.agg #[.string (bs p.1),.int .i64 p.2.1,.int .i64 p.2.2.1,.string (bs (Mlo p)),.string (bs (Mhi p))]) (.agg #[.string (bs q.1),.int .i64 q.2.1,.int .i64 q.2.2.1,.string (bs (Mlo q)),.string (bs (Mhi q))])).run Tryz.prog wx=.ok (.bool true) wx:=fun wx=>by
      rw [qad5 p q wx,decide_eq_false hd];rfl
     have HD:=hide (HF.out hd);clear hd;go_wp2
     go_quiet (fail)
     go_wp2;go_ret;exact ⟨by rw [HD.out];rfl,qgj hbel _⟩
   ·have hd:decide ((k:Int)<n)=false:=by simpa using (by omega:¬(k:Int)<n)
    have HE:=hide (show decide (l=l')=true by
     rw [decide_eq_true_iff]
     have:=htk.out
     rwa [List.take_of_length_le (by have:=HN.out;omega),List.take_of_length_le (by have:=HN'.out;omega)] at this)
    go_wp2;go_ret;exact ⟨by rw [HE.out];rfl,hbel⟩
 ·have hne:((n:Int)==(n':Int))=false:=by simpa using (by omega:¬(n:Int)=n')
  have HE:=hide (show decide (l=l')=false by
   rw [decide_eq_false_iff_not];rintro rfl
   exact hn (by have:=HN.out;have:=HN'.out;omega))
  go_enter Tryz.func68,Tryz.ntmps68
  go_wp2;go_ret;exact ⟨by rw [HE.out];rfl,Below.refl _ _⟩
end Go.Proofs.YtmeaiocohalphaaGreatDoor

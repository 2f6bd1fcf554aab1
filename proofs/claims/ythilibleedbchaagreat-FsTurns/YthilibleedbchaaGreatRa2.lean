/-
  Of the document's side of layer 6: the acts of a commit, told one behind the other.
-/
import Derived.Test.YthilibleedbchaaGreatRm9
import Derived.Test.YthilibleedbchaaGreatFiRdr
import Derived.Test.YthilibleedbchaaGreatFsFn4
import Derived.Test.YthilibleedbchaaGreatFiApart
import Derived.Test.YthilibleedbchaaGreatRWr
import Derived.Test.YthilibleedbchaaGreatFiRef7
import Derived.Test.YthilibleedbchaaGreatFiRef3
import Derived.Test.YthilibleedbchaaGreatFiRef8
import Derived.Test.YthilibleedbchaaGreatMathRm
import Derived.Test.YthilibleedbchaaGreatFsFn6
import Derived.Test.YthilibleedbchaaGreatFsTop3
import Derived.Test.YthilibleedbchaaGreatR3
set_option maxHeartbeats 8000000
set_option maxRecDepth 100000
namespace Go.Proofs.YthilibleedbchaaGreat
open Go.RowKit
set_option linter.all false
theorem qsq (x:FsV) (f:Fsd) (w:World) (h:RdX w x f) (hw:WfX f):
  Calls Tryz.prog 39 #[x.val] w fun e w'=>∃v,e=.returned v∧OwE w' w.heap.size v (qbf f)∧Below w.heap.size w w':=by
 have HW:=hide hw;have HX:=hide h;clear hw h;obtain ⟨w1,ew⟩:∃w1,w.alloc (.cells x.cs 32)=w1:=⟨_,rfl⟩
 have hb1:Below w.heap.size w w1:=by rw [←ew];exact (Below.refl _ _).alloc (Nat.le_refl _) _
 have qcx:=hide (show FsAt w1 w.heap.size x by rw [←ew];exact Bq.new _ _ _);have qag:=hide hb1;clear hb1;unfold FsV.val;unfold FsV.cs at ew
 go_enter Tryz.func39,Tryz.ntmps39
 obtain ⟨kf0,kf1,kf2,kf3,kf4,kf5⟩:=qab qcx.out;have hcon:=qpr _ _ _ f.2.2.1 w1 (HX.out.fl.carry qag.out) HX.out.n4 HW.out.fl
 go_wp2_with fail
 try rw [ew]
 refine hcon.mono ?_
 rintro e w2 ⟨v2,rfl,ho2,hbb⟩;have qcq:=hide (qcx.out.carry hbb);have qai:=bT qag hbb;clear hcon hbb kf0 kf1 kf2 kf3 kf4 kf5
 try clear ew
 obtain ⟨m2,hm2⟩:∃m2,m2=(qdz f.2.2.1).length:=⟨_,rfl⟩
 obtain ⟨y2,z2,e2⟩:∃a c,v2=.slice a m2 c:=by rw [hm2];exact ho2.form
 subst e2;have HO_w2:=hide (ho2.mono qag.out.size);have HM2:=hide hm2;clear ho2 hm2;obtain ⟨kf0,kf1,kf2,kf3,kf4,kf5⟩:=qab qcq.out;have hcon:=qpr _ _ _ f.2.2.2 w2 (HX.out.kl.carry qai.out) HX.out.n5 HW.out.kl
 go_wp2_with fail
 refine hcon.mono ?_
 rintro e w3 ⟨v3,rfl,ho3,hbb⟩;have qef:=hide (qcq.out.carry hbb);have HO_w3:=hide (HO_w2.out.carry hbb);have qao:=bT qai hbb;clear hcon hbb kf0 kf1 kf2 kf3 kf4 kf5;obtain ⟨m3,hm3⟩:∃m3,m3=(qdz f.2.2.2).length:=⟨_,rfl⟩
 obtain ⟨y3,z3,e3⟩:∃a c,v3=.slice a m3 c:=by rw [hm3];exact ho3.form
 subst e3;obtain ⟨g9,cc,w9,hrun,ho9,hb9⟩:=qga HO_w3.out qao.out.size ho3.rd hm3 (by have:=qih f.2.2.1;have:=qih f.2.2.2;omega);have HO9:=hide (show OwE w9 w.heap.size _ (qbf f) from ho9);have HB9:=hide (qao.out.trans hb9);clear ho9 hb9 ho3 hm3;generalize (qdz f.2.2.1++qdz f.2.2.2).length=gl at *
 go_wp2_with (at_builtin;refine qaf rfl (.tmp 19) (.tmp 20) 73 rfl rfl rfl rfl hrun ?_)
 go_ret;exact ⟨_,rfl,HO9.out,HB9.out⟩
theorem qae8 (x:FsV) (f:Fsd) (w:World) (h:RdX w x f) (hsm:(f.1.1.length≤140737488355328∧f.1.2.1.length≤1000000∧f.1.2.2.length≤1000000)∧f.2.2.1.length≤1000∧(∀g∈f.2.2.1,g.2.length≤1000000)∧f.2.2.2.length≤1000∧∀g∈f.2.2.2,g.2.length≤1000000) (hsd:(∀p∈f.1.2.1,p.2.length≤140737488355328)∧∀p∈f.1.2.2,p.2.2.length≤140737488355328):
  Calls Tryz.prog 6 #[x.val] w fun e w'=>∃v,e=.returned v∧OwFs w' w.heap.size v f∧Below w.heap.size w w':=(qen x f w h hsm hsd).mono fun e w' ⟨y,h1,h2,h3⟩=>⟨y.val,h1,h2,h3⟩
def BelP (w0 w:World):Prop:=Below w0.heap.size w0 w
theorem BelP.refl (w:World):BelP w w:=Below.refl _ _
theorem BelP.carry {w0 w w':World} (h:BelP w0 w) (hb:Below w.heap.size w w'):BelP w0 w':=Below.trans h (hb.mono (Below.size h))
theorem BelP.size {w0 w:World} (h:BelP w0 w):w0.heap.size≤w.heap.size:=Below.size h
theorem BelP.trans {w0 w w':World} (h:BelP w0 w) (hb:Below w0.heap.size w w'):BelP w0 w':=Below.trans h hb
theorem OwF.len6 {w:World} {base:Nat} {a:Option Addr} {n c:Nat} {fs:List Fl} (h:OwF w base (.slice a n c) fs):n=fs.length:=by
 obtain ⟨_,_,e⟩:=h.rd.form
 cases e;rfl
theorem OwF.row6 {w:World} {base:Nat} {a:Option Addr} {n c:Nat} {fs:List Fl} (h:OwF w base (.slice a n c) fs):RowF w base (.slice a n c) n:=by
 have:=h.rowF
 rwa [←h.len6] at this
def KB (w w':World):Prop:=w.heap.size≤w'.heap.size∧∀(K:Nat) cs t fr,w.heap[K]? =some (.cells cs t fr)→t≠161→w'.heap[K]? =some (.cells cs t fr)
theorem KB.refl (w:World):KB w w:=⟨Nat.le_refl _,fun _ _ _ _ h _=>h⟩
theorem KB.trans {a b c:World} (h:KB a b) (k:KB b c):KB a c:=⟨Nat.le_trans h.1 k.1,fun K cs t fr e n=>k.2 K cs t fr (h.2 K cs t fr e n) n⟩
theorem KB.of_below {w w':World} (h:Below w.heap.size w w'):KB w w':=⟨h.size,fun K cs t fr e _=>(h.block K (Array.getElem?_eq_some_iff.1 e).1).trans e⟩
theorem KB.grown {w w':World} {row:Option Nat} (h:w.grownBy w' row) (hr:∀k,row=some k→∃cs,w.heap[k]? =some (.cells cs 161 (0,0))):KB w w':=by
 refine ⟨h.size,fun K cs t fr e n=>(h.block K (Array.getElem?_eq_some_iff.1 e).1 ?_).trans e⟩;intro e2;obtain ⟨cs',e3⟩:=hr K e2.symm;rw [e] at e3;cases e3;exact n rfl
theorem OwB.kb {w w':World} {b:Nat} {v:Value} {l:List UInt8} (h:OwB w b v l) (hk:KB w w'):OwB w' b v l:=by
 refine ⟨h.1, ?_⟩
 rcases h.2 with h | ⟨g,cap,cur,rfl,h1,h2,h3⟩
 ·exact .inl h
 ·exact .inr ⟨g,cap,cur,rfl,h1,hk.2 _ _ _ _ h2 (by decide),h3⟩
theorem qop (a b:List (Ac × Value)):qcb (a++b)=qcb a++qcb b:=by simp [qcb]
theorem quj {w:World} {base:Nat} {v:Value} {l:List Ac} (h:OwA w base v l) (hb:base≤w.heap.size) (zs:List (Ac × Value)) (hz:∀p∈zs,OwB w base p.2 p.1.2.2) (h0:0<zs.length) (hl:l.length+zs.length≤1000000) (cs:Array Value) (hcs:cs.toList=qcb zs) (m:Nat) (hm:m=zs.length):
  ∃g c w',(Builtin.append_ #[24,24] 24 #[v,.slice (some ⟨w.heap.size,0,none⟩) m m]).run Tryz.prog (w.alloc (.cells cs 161))=.ok (.slice (some ⟨g,0,none⟩) (l.length+m) c) w'∧
   OwA w' base (.slice (some ⟨g,0,none⟩) (l.length+m) c) (l++zs.map (·.1))∧Below base w w'∧KB w w':=by
 subst hm;obtain ⟨z,hz1,hz2,hz3⟩:=h;obtain ⟨w8,ew8⟩:∃w8,w8=w.alloc (.cells cs 161):=⟨_,rfl⟩;have hn8:=qd6 w cs 161;rw [hcs] at hn8;rw [←ew8] at hn8 ⊢
 have hb8:Below w.heap.size w w8:=by rw [ew8];exact (Below.refl _ _).alloc (Nat.le_refl _) _
 obtain ⟨i0,hi,hy0,hy1,hy2⟩:=info_parts Tryz.infoAct
 have h1c:∀u∈qcb zs,u.oneCell'=true:=by
  intro u hu;unfold qcb at hu;obtain ⟨q,hq,hu⟩:=List.mem_flatten.1 hu;obtain ⟨p,hp,rfl⟩:=List.mem_map.1 hq;obtain ⟨a,c,e⟩:=(hz p hp).form
  simp at hu
  rcases hu with rfl | rfl | rfl
  ·rfl
  ·rfl
  ·rw [e];rfl
 have hown:=qbk hz2 hb8;have hbb:base≤w8.heap.size:=Nat.le_trans hb hb8.size;obtain ⟨v9,w9,hrun9,hown9,hg9,_⟩:=run_append_own (P:=Tryz.prog) w8 base 24 24 161 i0 _ 3 40 Tryz.underlying24 hi hy0 hy1 hy2 rfl (by decide) _ _ _ hown ⟨w.heap.size,0,none⟩ zs.length zs.length (qcb zs) (by rw [qmv]) hn8 h1c (by unfold maxLen;omega) (by omega) hbb;have hkb:KB w8 w9:=KB.grown hg9 (fun k hk=>qbw hown k hk);have hbel:Below base w w9:=(hb8.mono hb).grown hg9 hbb (fun k hk=>(hown.lt k hk).1);have hkw:KB w w9:=(KB.of_below hb8).trans hkb
 have hfin:OwA w9 base v9 (l++zs.map (·.1)):=by
  refine ⟨z++zs,by rw [List.map_append,hz1], ?_, ?_⟩
  ·rw [qop,List.length_append,List.length_map];exact hown9
  ·intro p hp
   rcases List.mem_append.1 hp with hp | hp
   ·exact (hz3 p hp).kb hkw
   ·exact (hz p hp).kb hkw
 rcases hown9.2 with ⟨_,e0⟩ | ⟨g,cap,cur,e0,_⟩
 ·omega
 ·subst e0
  exact ⟨g,cap,w9,hrun9,hfin,hbel,hkw⟩
theorem qsr (n:Nat) (w:World) (hn:n≤1000000):
  Calls Tryz.prog 115 #[.int .i64 n] w fun e w'=>e=.returned (.int .i64 ((n+127) / 128:Nat))∧w'=w:=by
 have h1:wrap64 ((n:Int)+128)=((n+128:Nat):Int):=by unfold wrap64;omega
 have h2:wrap64 (((n+128:Nat):Int) - 1)=((n+127:Nat):Int):=by unfold wrap64;omega
 have h3:wrap64 (Int.tdiv ((n+127:Nat):Int) 128)=(((n+127) / 128:Nat):Int):=by
  rw [Int.tdiv_eq_ediv_of_nonneg (by omega)]
  unfold wrap64;omega
 go_enter Tryz.func115,Tryz.ntmps115
 go_wp2;go_ret;exact ⟨by show Ending.returned (Value.int .i64 (((n:Int)+128 - 1) / 128))=_;congr 2;omega,rfl⟩
def padK (xs:List UInt8) (k:Nat):List UInt8:=xs.take k++List.replicate (128 - k) 0
theorem qaca {xs:List UInt8} {k:Nat} (h:k<xs.length) (h2:k<128):(padK xs k).set k (xs[k])=padK xs (k+1):=by
 unfold padK
 have e:128 - k=(128 - (k+1))+1:=by omega
 rw [e,List.replicate_succ,List.set_append_right _ _ (by rw [List.length_take];omega)];rw [List.length_take,show k - min k xs.length=0 by omega,List.set_cons_zero,List.take_succ_eq_append_getElem h,List.append_assoc];rfl
theorem quk {xs:List UInt8} {k:Nat} (h:k=128∧k≤xs.length∨k=xs.length∧k≤128):padK xs k=padB xs:=by
 unfold padK padB
 rcases h with ⟨rfl,h⟩ | ⟨rfl,h⟩
 ·rw [show 128 - xs.length=0 by omega]
 ·rw [List.take_of_length_le (Nat.le_refl _),List.take_of_length_le h]
theorem qnc:∀(bl:List (List UInt8)) (n:Int) (b:List UInt8),qc9 n (bl++[b])=qc9 n bl++[(false,n+bl.length,b)]
 | [],n,b=>by simp [qc9]
 | x::bl,n,b=>by
  simp only [List.cons_append,qc9,qnc bl (n+1) b,List.length_cons]
  rw [show n+1+(bl.length:Int)=n+((bl.length+1:Nat):Int) by omega]
theorem qrb:∀(bl:List (List UInt8)) (n:Int),(qc9 n bl).length=bl.length
 | [],n=>rfl
 | x::bl,n=>by simp [qc9,qrb bl (n+1)]
theorem qacb {l:List UInt8} {at9 k p:Nat} (hp:p=at9+k) (h:p<l.length):(l.drop at9)[k]'(by rw [List.length_drop];omega)=l[p]:=by
 subst hp;rw [List.getElem_drop]
theorem qy9 {l:List UInt8} {i ar at9 nn:Nat} (hi:i<(l.length+127) / 128) (ha:at9=i*128) (hn:nn=ar+i):(true,0,[])::qc9 (ar:Int) ((qbg l).take (i+1))=((true,0,[])::qc9 (ar:Int) ((qbg l).take i))++[(false,(nn:Int),padB (l.drop at9))]:=by
 have hkl:i<(qbg l).length:=by rw [qdn];exact hi
 rw [List.take_succ_eq_append_getElem hkl,qm7,qnc,List.cons_append,List.length_take,show min i (qbg l).length=i by omega,ha,hn,Nat.mul_comm]
 simp
theorem qrc {w:World} {base:Nat} {a:Option Addr} {n c:Nat} {l:List UInt8} (h:OwB w base (.slice a n c) l) (k:Nat) (hk:k<l.length):∃g,a=some ⟨g,0,none⟩∧w.cell? ⟨g,k,none⟩=some (.int .u8 (l[k]).toNat):=by
 rcases id h with ⟨_,⟨_,h0⟩ | ⟨g,cap,cur,e,hg,_⟩⟩
 ·omega
 cases e;exact ⟨g,rfl,h.at k hk⟩
theorem qacc (gn ar sl:Nat) (l:List UInt8) (n:Nat) (hn:n=l.length) (ha:ar=2+gn % 2*16) (hs:sl=gn % 2) (i:Nat) (hi:(l.length+127) / 128≤i):((true,0,[])::qc9 (ar:Int) ((qbg l).take i))++[((true,0,[]):Ac),(false,(sl:Int),(qam gn (n:Nat)).1),(true,0,[])]=qd1 gn l:=by
 rw [List.take_of_length_le (by rw [qdn];exact hi)];unfold qd1;rw [ha,hs,hn];rfl
theorem qvz (x:FsV) (f:Fsd) (w:World) (h:RdX w x f) (hg:f.2.1+1<4294967296) (hok:okB f.2.2.1) (hl:(bytF f.2.2.1).length≤2048):
  Calls Tryz.prog 53 #[x.val] w fun e w'=>∃v,e=.returned v∧OwA w' w.heap.size v (qd1 (f.2.1+1) (bytF f.2.2.1))∧Below w.heap.size w w':=by
 obtain ⟨w1,ew⟩:∃w1,w.alloc (.cells x.cs 32)=w1:=⟨_,rfl⟩
 have hb1:Below w.heap.size w w1:=by rw [←ew];exact (Below.refl _ _).alloc (Nat.le_refl _) _
 have HF1:=hide (show FsAt w1 w.heap.size x by rw [←ew];exact Bq.new _ _ _);have HX:=hide h;have HB1:=hide hb1;have hgx:x.g=f.2.1:=h.g;obtain ⟨l,hll⟩:∃l,l=bytF f.2.2.1:=⟨_,rfl⟩;rw [←hll] at hl ⊢;have hby:=qel x.a4 x.n4 x.c4 f.2.2.1 w1 (h.fl.carry hb1) h.n4 hok;rw [←hll] at hby;obtain ⟨gn,hgn⟩:∃gn,gn=f.2.1+1:=⟨_,rfl⟩;rw [←hgn] at hg ⊢;have HGW:=hide (show IntKind.u32.wrap ((x.g:Int)+1)=(gn:Int) by rw [IntKind.wrap_u32,hgx,hgn];omega);have HG:=hide hg;clear h hb1 hok hll hgx hgn hg;unfold FsV.val;unfold FsV.cs at ew;obtain ⟨k0,k1,k2,k3,k4,k5⟩:=qab HF1.out
 go_enter Tryz.func53,Tryz.ntmps53
 go_wp2_with fail
 try rw [ew]
 refine hby.mono ?_
 rintro e w2 ⟨vb,rfl,hob,hb2⟩;clear hby k0 k1 k2 k3 k4 k5 ew;have HF2:=hide (HF1.out.carry hb2);have HB2:=hide (HB1.out.trans (hb2.mono HB1.out.size));have HOB2:=hide (show OwB w2 w.heap.size vb l from qjx hob HB1.out.size);clear hb2 hob HF1;obtain ⟨ab,cb,evb⟩:=HOB2.out.form;obtain ⟨n,hn⟩:∃n,n=l.length:=⟨_,rfl⟩;rw [←hn] at evb hl;subst evb;have HN:=hide hn;clear hn;obtain ⟨k0,k1,k2,k3,k4,k5⟩:=qab HF2.out;have hgw:=HGW.out;obtain ⟨ar,har⟩:∃ar,ar=2+gn % 2*16:=⟨_,rfl⟩;obtain ⟨sl,hsl⟩:∃sl,sl=gn % 2:=⟨_,rfl⟩;have hwh:=qha gn w2 HG.out;rw [←har,←hsl] at hwh;have HAR:=hide har;have HSL:=hide hsl;clear har hsl
 go_wp2_with fail
 refine hwh.mono ?_
 rintro e w2' ⟨rfl,e2⟩;subst w2';clear hwh;have hbk:=qhr gn n w2 HG.out
 go_wp2_with fail
 refine hbk.mono ?_
 rintro e w3 ⟨sv,rfl,hos,hb3⟩;clear hbk k0 k1 k2 k3 k4 k5 hgw;have HB3:=hide (HB2.out.trans (hb3.mono HB2.out.size));have HOB3:=hide (HOB2.out.carry hb3);have HOS3:=hide (hos.mono HB2.out.size);obtain ⟨sa,sc,esv⟩:=hos.form;obtain ⟨sn,hsn⟩:∃sn,sn=(qam gn n).1.length:=⟨_,rfl⟩;rw [←hsn] at esv;subst esv;clear hb3 hos HOB2 HF2 hsn;obtain ⟨w4,ew4⟩:∃w4,w3.alloc (.cells #[.bool true,.int .i64 0,.slice none 0 0] 161)=w4:=⟨_,rfl⟩
 have hb4:Below w3.heap.size w3 w4:=by rw [←ew4];exact (Below.refl _ _).alloc (Nat.le_refl _) _
 have HA4:=hide (show OwA w4 w.heap.size (.slice (some ⟨w3.heap.size,0,none⟩) 1 1) [(true,0,[])] by
  refine ⟨[((true,0,[]),.slice none 0 0)],rfl,⟨rfl,.inr ⟨w3.heap.size,1,#[.bool true,.int .i64 0,.slice none 0 0],rfl,HB3.out.size,by rw [←ew4];exact heap_alloc_new _ _,Nat.le_refl _,by unfold maxLen;decide,rfl,rfl⟩⟩, ?_⟩;intro p hp;rw [List.mem_singleton.1 hp]
  exact World.ownsRow_nil _ _ _ _)
 have HB4:=hide (HB3.out.trans (hb4.mono HB3.out.size));have HOB4:=hide (HOB3.out.carry hb4);have HOS4:=hide (HOS3.out.carry hb4);obtain ⟨m,hm⟩:∃m,m=(n+127) / 128:=⟨_,rfl⟩
 have hm16:m≤16:=by omega
 have har18:ar≤18:=by rw [HAR.out];omega
 have HW:=hide (fun (wx:World)=>qsr n wx (by omega));rw [←hm] at HW;have HM:=hide hm;clear hb4 HOB3 HOS3 hm;go_wp2
 try rw [ew4]
 clear ew4
 go_loopw [9,8] (fun i v wr=>∃k:Nat,k≤m∧i=.int .i64 k∧Hid (OwA wr w.heap.size v ((true,0,[])::qc9 (ar:Int) ((qbg l).take k)))∧Hid (KB w4 wr∧Below w.heap.size w wr)) (fun i _ _=>m - (intOf i).toNat)
 case atStart=>exact ⟨0,Nat.zero_le _,rfl,hide HA4.out,hide ⟨KB.refl _,HB4.out⟩⟩
 case round=>
  obtain ⟨i,hi,rfl,hown,hkb⟩:=hrel;have HLEN:=hide (show ((true,0,[])::qc9 (ar:Int) ((qbg l).take i)).length=i+1 by rw [List.length_cons,qrb,List.length_take,qdn,←HN.out,←HM.out];omega);obtain ⟨av,cv,e9⟩:=hown.out.rd.form;rw [HLEN.out] at e9;subst e9
  by_cases hlt:i<m
  ·have hlt':(i:Int)<m:=by omega
   go_wp2_with fail
   refine (HW.out wr).mono ?_
   rintro e wr' ⟨rfl,ewr⟩;subst wr';obtain ⟨wo,ewo⟩:∃wo,wo=wr:=⟨_,rfl⟩;subst ewo;obtain ⟨at9,hat⟩:∃at9,at9=i*128:=⟨_,rfl⟩;obtain ⟨nn,hnn⟩:∃nn,nn=ar+i:=⟨_,rfl⟩;have HNX:=hide (qy9 (l:=l) (ar:=ar) (by rw [←HN.out,←HM.out];exact hlt) hat hnn);have HAT:=hide hat;have HNUM:=hide (show (ar:Int)+(i:Int)=(nn:Int) by omega)
   have hat2:at9≤2048:=by omega
   have hatn:at9<n:=by have:=HM.out;omega
   obtain ⟨w5,hmk,hO5,hb5⟩:=qyp wo;have HO5:=hide hO5;have HB5:=hide hb5;obtain ⟨X,hX⟩:∃X,X=wo.heap.size:=⟨_,rfl⟩;have HXX:=hide hX;have HKR:=hide hkb.out;have HOW:=hide hown.out;have HDL:=hide (show (l.drop at9).length=n - at9 by rw [List.length_drop,HN.out]);clear hat hnn hO5 hb5 hkb hown;rw [←hX] at hmk HO5;clear hX
   have HEND:=hide (fun (wi:World) (ho:OwB wi X (.slice (some ⟨X,0,none⟩) 128 128) (padB (l.drop at9))) (hb:Below wo.heap.size wo wi)=>by
    have hbs:=HKR.out.2.size;obtain ⟨g9,c9,w9,hrun,ho9,hb9,hk9⟩:=quj (HOW.out.carry hb) (Nat.le_trans hbs hb.size) [((false,(nn:Int),padB (l.drop at9)),.slice (some ⟨X,0,none⟩) 128 128)] (by intro p hp;rw [List.mem_singleton.1 hp];exact ho.mono (by rw [HXX.out];exact hbs)) (by simp) (by rw [HLEN.out];simp;omega) #[.bool false,.int .i64 nn,.slice (some ⟨X,0,none⟩) 128 128] rfl 1 rfl;rw [HLEN.out] at hrun ho9
    have ho10:OwA w9 w.heap.size (.slice (some ⟨g9,0,none⟩) (i+1+1) c9) ((true,0,[])::qc9 (ar:Int) ((qbg l).take (i+1))):=by rw [HNX.out];exact ho9
    exact (⟨g9,c9,w9,hrun,ho10,(HKR.out.1.trans (KB.of_below hb)).trans hk9,(HKR.out.2.trans (hb.mono hbs)).trans hb9⟩:∃g9 c9 w9,(Builtin.append_ #[24,24] 24 #[.slice av (i+1) cv,.slice (some ⟨wi.heap.size,0,none⟩) 1 1]).run Tryz.prog (wi.alloc (.cells #[.bool false,.int .i64 nn,.slice (some ⟨X,0,none⟩) 128 128] 161))=.ok (.slice (some ⟨g9,0,none⟩) (i+1+1) c9) w9∧OwA w9 w.heap.size (.slice (some ⟨g9,0,none⟩) (i+1+1) c9) ((true,0,[])::qc9 (ar:Int) ((qbg l).take (i+1)))∧KB w4 w9∧Below w.heap.size w w9))
   go_wp2
   go_loopw [11] (fun j wi=>∃k:Nat,k≤128∧at9+k≤n∧j=.int .i64 k∧Hid (OwB wi X (.slice (some ⟨X,0,none⟩) 128 128) (padK (l.drop at9) k))∧Hid (Below wo.heap.size wo wi)) (fun j _=>128 - (intOf j).toNat)
   case atStart=>exact ⟨0,by omega,by omega,rfl,hide (by have:=HO5.out;simpa [padK] using this),hide HB5.out⟩
   case round=>
    obtain ⟨k,hk,hkn,rfl,hx,hbi⟩:=hrel;have hdl:=HDL.out
    by_cases h1:k<128
    ·have h1':(k:Int)<128:=by omega
     obtain ⟨p,hp⟩:∃p,p=at9+k:=⟨_,rfl⟩;have HWA:=hide (show (i:Int)*128+(k:Int)=(p:Int) by have:=HAT.out;omega)
     by_cases h2:p<n
     ·have h2':(p:Int)<n:=by omega
      have hpl:p<l.length:=by rw [←HN.out];exact h2
      obtain ⟨gb,rfl,hcb⟩:=qrc ((HOB4.out.kb HKR.out.1).carry hbi.out) p hpl
      have hkd:k<(l.drop at9).length:=by rw [hdl];omega
      have hst:=hx.out.stored k ((l.drop at9)[k]);rw [qaca hkd h1,qacb hp hpl] at hst;have hfx:=hx.out.fz k;obtain ⟨gx,hgx,hcx⟩:=qrc hx.out k (by unfold padK;simp;omega);cases hgx;obtain ⟨bk,hbk⟩:∃bk:Int,bk=((l[p]).toNat:Int):=⟨_,rfl⟩;rw [←hbk] at hst hcb;have HO9:=hide hst.1;have HB9:=hide (hbi.out.grown hst.2 hbi.out.size (by intro q hq;cases hq;rw [HXX.out];exact Nat.le_refl _));generalize ((padK (List.drop at9 l) k)[k]'(_)).toNat=cx at hcx;have HKN:=hide (show at9+(k+1)≤n by omega);have HFIN:=hide (show k+1≤128∧128 - (k+1)<128 - k by omega);clear hst hbk hkd hpl hdl hx hbi hp;have hwa:=HWA.out;go_wp2;clear hwa;exact ⟨⟨k+1,HFIN.out.1,HKN.out,rfl,HO9,HB9⟩,by have:=HFIN.out.2;simp only [intOf];omega⟩
     ·have h2':decide ((p:Int)<n)=false:=decide_eq_false (by omega)
      obtain ⟨g9,c9,w9,hrun,ho9,hk9,hb9⟩:=HEND.out wr (by rw [←quk (xs:=l.drop at9) (k:=k) (.inr ⟨by omega,hk⟩)];exact hx.out) hbi.out;have hnum:=HNUM.out;have HO9:=hide ho9;have HK9:=hide (⟨hk9,hb9⟩:KB w4 w9∧Below w.heap.size w w9);clear ho9 hk9 hb9 hx hbi hp hdl;have hwa:=HWA.out
      go_wp2_with (at_builtin;refine qaf rfl (.tmp 64) (.tmp 71) 24 rfl rfl rfl rfl hrun ?_)
      clear hwa hnum;exact ⟨⟨i+1,by omega,rfl,HO9,HK9⟩,by simp only [intOf];omega⟩
    ·have h1':decide ((k:Int)<128)=false:=decide_eq_false (by omega)
     obtain ⟨g9,c9,w9,hrun,ho9,hk9,hb9⟩:=HEND.out wr (by rw [←quk (xs:=l.drop at9) (k:=k) (.inl ⟨by omega,by rw [hdl];omega⟩)];exact hx.out) hbi.out;have hnum:=HNUM.out;have HO9:=hide ho9;have HK9:=hide (⟨hk9,hb9⟩:KB w4 w9∧Below w.heap.size w w9);clear ho9 hk9 hb9 hx hbi hdl
     go_wp2_with (at_builtin;refine qaf rfl (.tmp 64) (.tmp 71) 24 rfl rfl rfl rfl hrun ?_)
     clear hnum;exact ⟨⟨i+1,by omega,rfl,HO9,HK9⟩,by simp only [intOf];omega⟩
  ·have hd:decide ((i:Int)<m)=false:=decide_eq_false (by omega)
   have HOBr:=HOB4.out.kb hkb.out.1;have HOSr:=hide (HOS4.out.kb hkb.out.1)
   obtain ⟨g9,c9,w9,hrun,ho9,hb9,hk9⟩:=quj hown.out hkb.out.2.size [((true,0,[]),.slice none 0 0),((false,(sl:Int),(qam gn n).1),.slice sa sn sc),((true,0,[]),.slice none 0 0)] (by
    intro p hp
    simp only [List.mem_cons,List.not_mem_nil,or_false] at hp
    rcases hp with rfl | rfl | rfl
    ·exact World.ownsRow_nil _ _ _ _
    ·exact HOSr.out
    ·exact World.ownsRow_nil _ _ _ _) (by simp) (by rw [HLEN.out];simp;omega) #[.bool true,.int .i64 0,.slice none 0 0,.bool false,.int .i64 sl,.slice sa sn sc,.bool true,.int .i64 0,.slice none 0 0] rfl 3 rfl
   rw [HLEN.out] at hrun ho9;have HO9:=hide (show OwA w9 w.heap.size (.slice (some ⟨g9,0,none⟩) (i+1+3) c9) (qd1 gn l) by rw [←qacc gn ar sl l n HN.out HAR.out HSL.out i (by rw [←HN.out,←HM.out];omega)];exact ho9);have HB9:=hide (hkb.out.2.trans hb9);clear ho9 hb9 hk9 HOBr
   go_wp2_with fail
   refine (HW.out wr).mono ?_
   rintro e wr' ⟨rfl,ewr⟩;subst wr'
   go_wp2_with (at_builtin;refine qaf rfl (.tmp 73) (.tmp 80) 24 rfl rfl rfl rfl hrun ?_)
   go_ret;exact ⟨_,rfl,HO9.out,HB9.out⟩
end Go.Proofs.YthilibleedbchaaGreat

/-
  Plain mathematics of files on a disk: what the blocks have behind a commit, and that files may be then.
-/
import Derived.Test.YtpkdiododlhipaaGreatFsTop4
set_option maxHeartbeats 2000000
set_option maxRecDepth 100000
namespace Go.Proofs.YtpkdiododlhipaaGreat
open Go.RowKit
set_option linter.all false
theorem qxj {n:Int} (h:(newD n).2=0) (h2:34<n):okD (newD n).1=true∧34<mny (newD n).1∧mny (newD n).1=n.toNat∧n≤4096∧(newD n).1=(List.replicate (n.toNat*128) 0,[],[]):=by
 unfold newD at h
 split at h
 ·cases h
 ·rename_i h1
  have e:(newD n).1=(List.replicate (n.toNat*128) 0,[],[]):=by unfold newD;rw [if_neg h1]
  rw [e]
  have hm:mny ((List.replicate (n.toNat*128) 0,[],[]):Dk)=n.toNat:=by unfold mny;simp
  refine ⟨?_,by omega,hm,by omega,rfl⟩;rw [qbj,hm]
  simp
  omega
theorem qxk:bytF []=[0]:=by decide
theorem qxl {k:Nat} (h:34<k) (h2:k≤4096):chkF [] (k:Int)=0:=by
 refine qih ⟨by omega,by omega⟩ ⟨by simp,⟨by simp,List.Pairwise.nil⟩, ?_,by decide⟩;exact ⟨by decide,by intro x hx;cases hx⟩
theorem qkx {n:Int} (h:(newD n).2=0) (h2:34<n):RnW (qbe (((newD n).1,0,[],[]),0,[])) (qas (newD n).1 (qca 1 [0])) 1 [] [] [0]:=by
 obtain ⟨a,b,c,d,e⟩:=qxj h h2
 have:=qi7 (K:=[]) (l0:=[]) a b (by decide:(0:Nat)≠4294967295) (qxl b (by omega))
 rw [qxk] at this;exact this
theorem qp3 {n:Int} (h:(newD n).2=0) (h2:34<n) (h0:(qae qec (qbe (((newD n).1,0,[],[]),0,[]))).2.1=0):qdh (qae qec (qbe (((newD n).1,0,[],[]),0,[]))).1.2.2.1∧qdh (qae qec (qbe (((newD n).1,0,[],[]),0,[]))).1.2.2.2:=by
 have h1:=qkx h h2;have h3:=qht h0;rw [qh0 h3.1];unfold RnW at h1
 cases ho:qas (newD n).1 (qca 1 [0]) with
 | none=>rw [ho] at h1;simp only at h1;rw [h1] at h3;exact absurd h3.1 (by decide)
 | some x=>rw [ho] at h1;simp only at h1;rw [h1];exact ⟨qpx,qpx⟩
theorem qadd {w:World} {base:Nat} {a1:Option Addr} {n1 c1:Nat} {a2:Option Addr} {n2 c2:Nat} {a3:Option Addr} {n3 c3:Nat} {d:Dk} (ho:OwD w base (.agg #[.slice a1 n1 c1,.slice a2 n2 c2,.slice a3 n3 c3]) d):
  WayS (w.alloc (.cells #[.slice a1 n1 c1,.slice a2 n2 c2,.slice a3 n3 c3,.int .u32 0,.slice none 0 0,.slice none 0 0,.int .i64 0,.slice none 0 0] 52)) w.heap.size base false ((d,0,[],[]),0,[]):=by
 have hb:Below w.heap.size w (w.alloc (.cells #[.slice a1 n1 c1,.slice a2 n2 c2,.slice a3 n3 c3,.int .u32 0,.slice none 0 0,.slice none 0 0,.int .i64 0,.slice none 0 0] 52)):=(Below.refl _ _).alloc (Nat.le_refl _) _;have hq:Bq (w.alloc (.cells #[.slice a1 n1 c1,.slice a2 n2 c2,.slice a3 n3 c3,.int .u32 0,.slice none 0 0,.slice none 0 0,.int .i64 0,.slice none 0 0] 52)) w.heap.size 52 _:=Bq.new _ _ _;refine ⟨⟨a1,n1,c1,a2,n2,c2,a3,n3,c3,0,none,0,0,none,0,0⟩,none,0,0,hq,rfl,⟨(by show (0:Nat)<4294967296;decide),(fun g hg=>by cases hg),(fun g hg=>by cases hg)⟩,fun w' hg=>?_⟩;have ho':=(ho.carry hb).keptS hg hq (by decide) (by decide) (by decide);have hl:=RdD.mk3 ho'.rd;exact ⟨⟨ho'.rd,hl.1,hl.2,rfl,RdF.nil _,rfl,RdF.nil _,rfl⟩,.inl ⟨rfl,.inl rfl⟩,fun h=>by cases h⟩
theorem qxm (n:Int) (w:World):
  Calls Tryz.prog 4 #[.int .i64 n] w fun e w'=>∃v,e=.returned (.tuple #[v,.int .i64 (qbi n).2])∧OwFs w' w.heap.size v (qbi n).1∧Below w.heap.size w w':=by
 obtain ⟨w1,ew⟩:∃w1,w.alloc (.cells #[.slice none 0 0,.slice none 0 0,.slice none 0 0,.int .u32 0,.slice none 0 0,.slice none 0 0] 33)=w1:=⟨_,rfl⟩
 have hb1:Below w.heap.size w w1:=by rw [←ew];exact (Below.refl _ _).alloc (Nat.le_refl _) _
 have qcz:=hide (show FsB w1 w.heap.size by rw [←ew];exact FsB.new w);have qac:=hide hb1;clear hb1
 go_enter Tryz.func4,Tryz.ntmps4
 go_wp2_with fail
 try rw [ew]
 refine (qab4 n w1).mono ?_
 rintro e w2 ⟨dv,rfl,ho2,hb2⟩;have qbp:=hide (qcz.out.carry hb2);have qak:=bT qac hb2;obtain ⟨d,hd⟩:∃d,d=(newD n).1:=⟨_,rfl⟩;rw [←hd] at ho2;obtain ⟨a1,c1,a2,c2,a3,c3,e1⟩:=ho2.form;obtain ⟨n1,hn1⟩:∃m,m=d.1.length:=⟨_,rfl⟩;obtain ⟨n2,hn2⟩:∃m,m=d.2.1.length:=⟨_,rfl⟩;obtain ⟨n3,hn3⟩:∃m,m=d.2.2.length:=⟨_,rfl⟩;rw [←hn1,←hn2,←hn3] at e1;subst e1;have HDE:=hide hd;have HO2:=hide (ho2.mono qac.out.size);clear hn1 hn2 hn3 hd ho2 hb2 ew;obtain ⟨w3,ew3⟩:∃w3,w2.alloc (.cells #[.slice a1 n1 c1,.slice a2 n2 c2,.slice a3 n3 c3] 27)=w3:=⟨_,rfl⟩
 have hb3:Below w2.heap.size w2 w3:=by rw [←ew3];exact (Below.refl _ _).alloc (Nat.le_refl _) _
 have qa0:=hide (qbp.out.carry hb3);have qav:=bT qak hb3;have HO3:=hide (HO2.out.carry hb3)
 have k0:w3.cell? ⟨w2.heap.size,0,none⟩=some (.slice a1 n1 c1):=by rw [←ew3];simp
 have k1:w3.cell? ⟨w2.heap.size,1,none⟩=some (.slice a2 n2 c2):=by rw [←ew3];simp
 have k2:w3.cell? ⟨w2.heap.size,2,none⟩=some (.slice a3 n3 c3):=by rw [←ew3];simp
 clear hb3 HO2 qcz qac qbp qak;obtain ⟨z,hz⟩:∃z,z=(newD n).2:=⟨_,rfl⟩;rw [←hz]
 by_cases g1:¬z=0
 ·have HE:=hide (show qbi n=(fz,z) by unfold qbi;rw [if_pos (by rw [←hz];exact g1),←hz])
  clear hz;have ho9:=qdi w3 w.heap.size;have HST:=hide (OwFs.stored (x:=xz) (r:=w.heap.size) ho9 qa0.out qav.out (Nat.le_refl _));obtain ⟨⟨d0,e0⟩,⟨d1,e1⟩,⟨d2,e2⟩,⟨d3,e3⟩,⟨d4,e4⟩,⟨d5,e5⟩,ff⟩:=qa0.out.cells;have f0:=ff 0;have f1:=ff 1;have f2:=ff 2;have f3:=ff 3;have f4:=ff 4;have f5:=ff 5;clear ff ho9;go_wp2;obtain ⟨w9,hw9⟩:∃w9,w9=set6 w3 w.heap.size xz:=⟨_,rfl⟩;rw [←hw9] at HST;unfold set6 xz at hw9
  simp only at hw9
  rw [show ((0:Nat):Int)=0 from rfl] at hw9;rw [←hw9];clear e0 e1 e2 e3 e4 e5 f0 f1 f2 f3 f4 f5 hw9;obtain ⟨z0,z1,z2,z3,z4,z5⟩:=qab HST.out.2.2;unfold xz at z0 z1 z2 z3 z4 z5
  simp only at z0 z1 z2 z3 z4 z5
  try simp only [Exit.inBlock,Exit.then]
  refine bodyPost_ret (v:=.tuple #[.agg #[.slice none 0 0,.slice none 0 0,.slice none 0 0,.int .u32 0,.slice none 0 0,.slice none 0 0],.int .i64 z]) ?_ rfl ⟨_,by rw [HE.out],by rw [HE.out];exact qdi _ _,HST.out.2.1⟩
  simp [results,Tryz.results4,go_sem, *]
 rw [Decidable.not_not] at g1;subst g1
 by_cases g2:n≤34
 ·have HE:=hide (show qbi n=(fz,2) by unfold qbi;rw [if_neg (by rw [←hz];decide),if_pos g2])
  clear hz;have ho9:=qdi w3 w.heap.size;have HST:=hide (OwFs.stored (x:=xz) (r:=w.heap.size) ho9 qa0.out qav.out (Nat.le_refl _));obtain ⟨⟨d0,e0⟩,⟨d1,e1⟩,⟨d2,e2⟩,⟨d3,e3⟩,⟨d4,e4⟩,⟨d5,e5⟩,ff⟩:=qa0.out.cells;have f0:=ff 0;have f1:=ff 1;have f2:=ff 2;have f3:=ff 3;have f4:=ff 4;have f5:=ff 5;clear ff ho9;go_wp2;obtain ⟨w9,hw9⟩:∃w9,w9=set6 w3 w.heap.size xz:=⟨_,rfl⟩;rw [←hw9] at HST;unfold set6 xz at hw9
  simp only at hw9
  rw [show ((0:Nat):Int)=0 from rfl] at hw9;rw [←hw9];clear e0 e1 e2 e3 e4 e5 f0 f1 f2 f3 f4 f5 hw9;obtain ⟨z0,z1,z2,z3,z4,z5⟩:=qab HST.out.2.2;unfold xz at z0 z1 z2 z3 z4 z5
  simp only at z0 z1 z2 z3 z4 z5
  try simp only [Exit.inBlock,Exit.then]
  refine bodyPost_ret (v:=.tuple #[.agg #[.slice none 0 0,.slice none 0 0,.slice none 0 0,.int .u32 0,.slice none 0 0,.slice none 0 0],.int .i64 2]) ?_ rfl ⟨_,by rw [HE.out],by rw [HE.out];exact qdi _ _,HST.out.2.1⟩
  simp [results,Tryz.results4,go_sem, *]
 have HZ:=hide hz.symm;have HN:=hide (show 34<n by omega);have HE:=hide (show qbi n=endW (qae qec (qbe (((newD n).1,0,[],[]),0,[]))) by unfold qbi;rw [if_neg (by rw [←hz];decide),if_neg g2])
 have g2':decide (n≤34)=false:=by simpa using g2
 clear hz g2;obtain ⟨w4,ew4⟩:∃w4,w3.alloc (.cells #[.slice a1 n1 c1,.slice a2 n2 c2,.slice a3 n3 c3,.int .u32 0,.slice none 0 0,.slice none 0 0,.int .i64 0,.slice none 0 0] 52)=w4:=⟨_,rfl⟩
 have hb4:Below w3.heap.size w3 w4:=by rw [←ew4];exact (Below.refl _ _).alloc (Nat.le_refl _) _
 have hs4:=qadd HO3.out;rw [ew4] at hs4;rw [HDE.out] at hs4;have HS4:=hide hs4;have hpp:=qav.out.size;have HRL:=hide qa0.out.lt;have qc0:=hide (qa0.out.carry hb4);have qb1:=bT qav hb4;clear hb4 hs4 HO3
 go_wp2_with fail
 try rw [ew4]
 refine (qmj w3.heap.size w.heap.size false _ w4 HS4.out hpp).mono ?_
 rintro e w5 ⟨rfl,hs5,hg5⟩;have qhz:=hide (qc0.out.grown hg5 (by have:=HRL.out;omega));have qd3:=hide (show Below w.heap.size w w5 from qb1.out.grown hg5 qb1.out.size (by intro k hk;cases hk;omega));have HS5:=hide hs5;clear hs5 hg5 HS4 qc0 qb1 ew4 ew3 k0 k1 k2 g2'
 have hcf:∀wx:World,(callFunc 13 #[.pointer (some ⟨w3.heap.size,0,none⟩)]).run Tryz.prog wx=.ok (.enter 13 #[.pointer (some ⟨w3.heap.size,0,none⟩)]) wx:=fun wx=>by go_simp
 have ht:=qgn 13 qec w3.heap.size w.heap.size true true _ w5 HS5.out rfl hcf (fun h0=>(qpt w3.heap.size w.heap.size true _ w5 HS5.out hpp).mono fun e w' h=>⟨h.1,fun _=>h.2.1,h.2.1.any,h.2.2⟩);clear hcf
 go_wp2_with fail
 refine ht.mono ?_
 rintro e w6 ⟨rfl,hs6,hg6⟩;have qxn:=hide (qhz.out.grown hg6 (by have:=HRL.out;omega));have qei:=hide (show Below w.heap.size w w6 from qd3.out.grown hg6 qd3.out.size (by intro k hk;cases hk;omega));have hen:=qku w3.heap.size w.heap.size _ w6 hs6 qei.out.size (qp3 HZ.out HN.out);rw [←HE.out] at hen;clear ht hs6 hg6 HS5 qhz qd3
 go_wp2_with fail
 refine hen.mono ?_
 rintro e w7 ⟨v9,rfl,ho9,hb9⟩;have qs4:=hide (qxn.out.carry hb9);have qhs:=bT qei hb9;clear hen hb9;obtain ⟨x9,e9, -⟩:=ho9.form;subst e9;have HST:=hide (ho9.stored (r:=w.heap.size) qs4.out qhs.out (by omega));obtain ⟨⟨d0,e0⟩,⟨d1,e1⟩,⟨d2,e2⟩,⟨d3,e3⟩,⟨d4,e4⟩,⟨d5,e5⟩,ff⟩:=qs4.out.cells;have f0:=ff 0;have f1:=ff 1;have f2:=ff 2;have f3:=ff 3;have f4:=ff 4;have f5:=ff 5;clear ff ho9;unfold FsV.val;go_wp2;obtain ⟨w9,hw9⟩:∃w9,w9=set6 w7 (w.heap.size) x9:=⟨_,rfl⟩;rw [←hw9] at HST;unfold set6 at hw9;rw [←hw9];clear e0 e1 e2 e3 e4 e5 f0 f1 f2 f3 f4 f5 hw9;obtain ⟨z0,z1,z2,z3,z4,z5⟩:=qab HST.out.2.2
 try simp only [Exit.inBlock,Exit.then]
 refine bodyPost_ret (v:=.tuple #[x9.val,.int .i64 (qbi n).2]) ?_ rfl ⟨_,rfl,HST.out.1,HST.out.2.1⟩
 simp [results,Tryz.results4,go_sem, *]
theorem Tryz.infoStr6:(Tryz.prog.info? 9).map (fun i=>(i.zero,i.size,i.bytes))=some (some (.string ByteArray.empty),1,16):=by kernel_rfl
def txv (l:List (List UInt8)):List Value:=l.map fun s=>Value.string (bs s)
def OwT (w:World) (base:Nat) (v:Value) (l:List (List UInt8)):Prop:=w.ownsRow base 9 1 v l.length (txv l)
theorem OwT.nil (w:World) (base:Nat):OwT w base (.slice none 0 0) []:=World.ownsRow_nil _ _ _ _
theorem OwT.form {w:World} {base:Nat} {v:Value} {l:List (List UInt8)} (h:OwT w base v l):∃a c,v=.slice a l.length c:=by
 rcases h.2 with ⟨rfl,hn⟩ | ⟨g,cap,cur,rfl,_⟩
 ·rw [hn];exact ⟨_,_,rfl⟩
 ·exact ⟨_,_,rfl⟩
theorem OwT.carry {w w':World} {base:Nat} {v:Value} {l:List (List UInt8)} (h:OwT w base v l) (hb:Below w.heap.size w w'):OwT w' base v l:=qax h hb
theorem OwT.at {w:World} {base:Nat} {a:Option Addr} {n c:Nat} {l:List (List UInt8)} (h:OwT w base (.slice a n c) l) (j:Nat) (hj:j<l.length):∃g,a=some ⟨g,0,none⟩∧w.cell? ⟨g,j,none⟩=some (.string (bs l[j])):=by
 rcases h.2 with ⟨e,hn⟩ | ⟨g,cap,cur,e,_⟩
 ·rw [hn] at hj;cases hj
 ·cases e
  have c1:=h.cells (g:=g) rfl j (.string (bs l[j])) (by simp [txv,List.getElem?_eq_getElem hj]);exact ⟨g,rfl,by simpa [Addr.add_lit] using c1⟩
theorem qade {w:World} {base:Nat} {v:Value} {l:List (List UInt8)} (h:OwT w base v l) (hb:base≤w.heap.size) (hl:l.length≤1000000) (s:List UInt8):
  ∃g c w',(Builtin.append_ #[62,62] 62 #[v,.slice (some ⟨w.heap.size,0,none⟩) 1 1]).run Tryz.prog (w.alloc (.cells #[.string (bs s)] 9))=.ok (.slice (some ⟨g,0,none⟩) (l.length+1) c) w'∧
   OwT w' base (.slice (some ⟨g,0,none⟩) (l.length+1) c) (l++[s])∧Below base w w':=by
 obtain ⟨w8,ew8⟩:∃w8,w8=w.alloc (.cells #[.string (bs s)] 9):=⟨_,rfl⟩;have hn8:=qdr w #[.string (bs s)] 9;rw [←ew8] at hn8 ⊢
 have hb8:Below w.heap.size w w8:=by rw [ew8];exact (Below.refl _ _).alloc (Nat.le_refl _) _
 obtain ⟨i0,hi,hz0,hz1,hz2⟩:=info_parts Tryz.infoStr6;have q2:w8.ownsRow base 9 1 v l.length (txv l):=qax h hb8
 obtain ⟨v9,w9,hrun9,hown9,hg9,_⟩:=run_append_own (P:=Tryz.prog) w8 base 62 62 9 i0 _ 1 16 Tryz.underlying62 hi hz0 hz1 hz2 rfl (by decide) _ _ _ q2 ⟨w.heap.size,0,none⟩ 1 1 [.string (bs s)] rfl hn8 (by
  intro u hu
  simp at hu
  subst hu
  rfl) (by unfold maxLen;omega) (by omega) (Nat.le_trans hb hb8.size)
 have hb9:Below base w w9:=(hb8.mono hb).grown hg9 (Nat.le_trans hb hb8.size) fun k hk=>(q2.lt k hk).1
 rcases hown9.2 with ⟨_,h0⟩ | ⟨g,cap,cur,h0,_⟩
 ·exact absurd h0 (by omega)
 ·subst h0
  refine ⟨g,cap,w9,hrun9, ?_,hb9⟩
  have e:txv (l++[s])=txv l++[.string (bs s)]:=by simp [txv]
  unfold OwT;rw [e,List.length_append];exact hown9
theorem qns (fs:List Fl) (k:Nat) (h:k<fs.length):(fs.take (k+1)).map (·.1)=(fs.take k).map (·.1)++[(fs[k]).1]:=by
 rw [List.take_succ_eq_append_getElem h,List.map_append];rfl
theorem qaam (x:FsV) (f:Fsd) (w:World) (h:RdX w x f) (hw:WfX f):
  Calls Tryz.prog 21 #[x.val] w fun e w'=>∃v,e=.returned (.tuple #[v,.int .i64 (fsE f)])∧OwT w' w.heap.size v (qi3 f)∧Below w.heap.size w w':=by
 have HW:=hide hw;clear hw;obtain ⟨w1,ew⟩:∃w1,w.alloc (.cells x.cs 33)=w1:=⟨_,rfl⟩
 have hb1:Below w.heap.size w w1:=by rw [←ew];exact (Below.refl _ _).alloc (Nat.le_refl _) _
 have qbf:=hide (show FsAt w1 w.heap.size x by rw [←ew];exact Bq.new _ _ _);obtain ⟨k0,k1,k2,k3,k4,k5⟩:=qab qbf.out;have HX:=hide h;have qac:=hide hb1;clear h hb1;unfold FsV.val;unfold FsV.cs at ew
 go_enter Tryz.func21,Tryz.ntmps21
 go_wp2_with fail
 refine (qgg x f w1 (HX.out.carry qac.out) HW.out).mono ?_
 rintro e w2 ⟨rfl,hb2⟩;have qhr:=hide (qbf.out.carry hb2);have qak:=bT qac hb2;clear k0 k1 k2 k3 k4 k5 ew hb2;obtain ⟨k0,k1,k2,k3,k4,k5⟩:=qab qhr.out
 rcases (qcr f).symm with ⟨_,g1⟩ | ⟨_,g1⟩
 ·have HG:=hide g1
  have HE:=hide (show qi3 f=[] by unfold qi3;rw [if_pos (by rw [g1];decide)]);rw [g1];clear g1;go_wp2;go_ret2;rw [HE.out,HG.out];exact ⟨_,rfl,OwT.nil _ _,qak.out⟩
 have HG:=hide g1;have HE:=hide (show qi3 f=f.2.2.1.map (·.1) by unfold qi3;rw [if_neg (by rw [g1];decide)])
 have hm:x.n4≤1000:=by rw [HX.out.n4];exact (qjp g1).1.1
 rw [g1];clear g1;obtain ⟨n,hn⟩:∃n,n=x.n4:=⟨_,rfl⟩;obtain ⟨a,ha⟩:∃a,a=x.a4:=⟨_,rfl⟩;obtain ⟨c,hc⟩:∃c,c=x.c4:=⟨_,rfl⟩;have HR:=hide (show RdF w (.slice a n c) f.2.2.1 by rw [hn,ha,hc];exact HX.out.fl);have HN:=hide (show n=f.2.2.1.length by rw [hn];exact HX.out.n4);rw [←hn] at hm k4;rw [←ha,←hc] at k4;clear hn ha hc;go_wp2
 go_loopw [17,5] (fun i v wr=>∃k:Nat,k≤n∧i=.int .i64 k∧Hid (OwT wr w.heap.size v ((f.2.2.1.take k).map (·.1)))∧Below w.heap.size w wr) (fun i _ _=>n - (intOf i).toNat)
 case atStart=>exact ⟨0,Nat.zero_le _,rfl,hide (by simpa using OwT.nil _ _),qak.out⟩
 case round=>
  obtain ⟨k,hk,rfl,hown,hbel⟩:=hrel
  by_cases hlt:k<n
  ·have hlt':(k:Int)<n:=by omega
   have hkl:k<f.2.2.1.length:=by have:=HN.out;omega
   have HT:=hide (qns f.2.2.1 k hkl);have HTL:=hide (show ((f.2.2.1.take k).map (·.1)).length=k by rw [List.length_map,List.length_take];omega);obtain ⟨b,off,a2,c2,rfl,q0,q1,q2⟩:=HR.out.atB hbel k hkl;clear q2;obtain ⟨g,hf⟩:∃g,g=(f.2.2.1)[k]:=⟨_,rfl⟩;rw [←hf] at q0 q1 HT;clear hf;obtain ⟨s,l⟩:=g
   simp only at q0 q1
   obtain ⟨m,hm2⟩:∃m,m=l.length:=⟨_,rfl⟩;rw [←hm2] at q1;clear hm2;obtain ⟨av,cv,e9⟩:=hown.out.form;rw [HTL.out] at e9;subst e9;obtain ⟨wq,ewq⟩:∃wq,wr.alloc (.cells #[.string (bs s),.slice a2 m c2] 91)=wq:=⟨_,rfl⟩
   have hbq:Below wr.heap.size wr wq:=by rw [←ewq];exact (Below.refl _ _).alloc (Nat.le_refl _) _
   have hbq':Below w.heap.size w wq:=hbel.trans (hbq.mono hbel.size)
   have c0:wq.cell? ⟨wr.heap.size,0,none⟩=some (.string (bs s)):=by rw [←ewq];simp
   obtain ⟨g9,c9,w9,hrun,ho9,hb9⟩:=qade (hown.out.carry hbq) hbq'.size (by rw [HTL.out];omega) s;rw [HTL.out] at hrun ho9;have HO9:=hide ho9;have HB9:=hide (hbq'.trans hb9);clear ho9 hb9 hown hbq hbq'
   go_wp2_with (at_builtin;refine qai rfl (.tmp 21) (.tmp 24) 62 rfl rfl rfl rfl hrun ?_)
   go_roundw
   case rel=>exact ⟨k+1,by omega,rfl,hide (by rw [HT.out];exact HO9.out),HB9.out⟩
   case measure=>simp only [intOf];omega
  ·have hd:decide ((k:Int)<n)=false:=by simpa using (by omega:¬(k:Int)<n)
   have HO:=hide (show OwT wr w.heap.size _ (qi3 f) by
    have:=hown.out
    rw [List.take_of_length_le (by have:=HN.out;omega)] at this
    rw [HE.out];exact this)
   clear hown;go_wp2;go_ret2;rw [HG.out];exact ⟨_,rfl,HO.out,hbel⟩
theorem qil {d:Dk} {n:Nat} (h:okD d=true) (hn:n<mny d):qfa d n=nowD d n:=qdx h hn
theorem qim {d:Dk} (h:okD d=true):d.1.length=128*mny d:=(Fine.of_ok h).1.1
theorem qi8:∀(bl:List (List UInt8)) (n:Nat) (d x:Dk),okD d=true→(∀a∈qdk (n:Int) bl,actE (mny d) a=0)→qas d (qdk (n:Int) bl)=some x→∀k,k<mny d→qfa x k=if n≤k∧k<n+bl.length then bl.getD (k - n) [] else qfa d k
 | [],n,d,x,h,ha,he,k,hk=>by
  cases he;rw [if_neg (by simp only [List.length_nil];omega)]
 | b::bl,n,d,x,h,ha,he,k,hk=>by
  have h1:=ha (false,(n:Int),b) (List.mem_cons_self ..);have he:(match oneD d (false,(n:Int),b) with | none=>none | some y=>qas y (qdk ((n:Int)+1) bl))=some x:=he
  cases ho:oneD d (false,(n:Int),b) with
  | none=>rw [ho] at he;cases he
  | some y=>
   rw [ho] at he
   simp only at he
   obtain ⟨h2,h3,_⟩:=qc8 h h1 ho;have hb:=qgv h h1 ho hk;have ih:=qi8 bl (n+1) y x h2 (fun a ha'=>by rw [h3];exact ha a (List.mem_cons_of_mem _ (by simpa using ha'))) (by simpa using he) k (by rw [h3];exact hk);rw [ih,hb]
   simp only [List.length_cons]
   by_cases hkn:k=n
   ·subst hkn
    rw [if_neg (by omega),if_pos rfl,if_pos (by omega),Nat.sub_self];rfl
   ·rw [if_neg (show ¬(k:Int)=(n:Int) by omega)]
    by_cases hr:n+1≤k∧k<n+1+bl.length
    ·rw [if_pos hr,if_pos (by omega),show k - n=(k - (n+1))+1 by omega]
     rfl
    ·rw [if_neg hr,if_neg (by omega)]
theorem qgi {d x:Dk} {g:Nat} {l:List UInt8} (hok:okD d=true) (hm:34<mny d) (hg:g≠0) (hl:l.length≤2048) (h:qas d (qca g l)=some x):
  okD x=true∧mny x=mny d∧x.2.1=[]∧∀k,k<mny d→blk x.1 k=if k=g % 2 then (qaj g (l.length:Nat)).1 else if 2+g % 2*16≤k∧k<2+g % 2*16+(qaz l).length then (qaz l).getD (k - (2+g % 2*16)) [] else qfa d k:=by
 obtain ⟨o1,o2⟩:=qfu hok (qjr hm hg hl) h;have e:qca g l=[(true,0,[])]++(qdk ((2+g % 2*16:Nat):Int) (qaz l)++([(true,0,[])]++([(false,((g % 2:Nat):Int),(qaj g (l.length:Nat)).1)]++[(true,0,[])]))):=rfl;rw [e,qa5,qch] at h;obtain ⟨x1,a1,h⟩:=Option.bind_eq_some_iff.1 h;rw [qa5] at h;obtain ⟨x2,a2,h⟩:=Option.bind_eq_some_iff.1 h;rw [qa5,qch] at h;obtain ⟨x3,a3,h⟩:=Option.bind_eq_some_iff.1 h;rw [qa5,qch] at h;obtain ⟨x4,a4,a5⟩:=Option.bind_eq_some_iff.1 h;rw [qch] at a5;obtain ⟨k1,m1,_⟩:=qc8 hok (qb3 _) a1
 have hda:∀a∈qdk ((2+g % 2*16:Nat):Int) (qaz l),actE (mny x1) a=0:=by rw [m1];exact qjq hm hl
 obtain ⟨k2,m2⟩:=qfu k1 hda a2;obtain ⟨k3,m3,_⟩:=qc8 k2 (qb3 _) a3;have hsa:actE (mny x3) (false,((g % 2:Nat):Int),(qaj g (l.length:Nat)).1)=0:=qhw (by omega) hg hl;obtain ⟨k4,m4,_⟩:=qc8 k3 hsa a4;refine ⟨o1,o2, ?_,fun k hk=>?_⟩
 ·have:=qf3 (n:=0) k4 (qb3 _) rfl a5 (by omega)
  exact this.2
 ·have b5:=qf3 (n:=k) k4 (qb3 _) rfl a5 (by omega)
  have b4:=qgv (n:=k) k3 hsa a4 (by omega);have b3:=(qf3 (n:=k) k2 (qb3 _) rfl a3 (by omega)).1;have b2:=qi8 (qaz l) (2+g % 2*16) x1 x2 k1 hda a2 k (by omega);have b1:=(qf3 (n:=k) hok (qb3 _) rfl a1 hk).1
  have e5:qfa x k=blk x.1 k:=by rw [qdx o1 (by omega),b5.2];rfl
  rw [←e5,b5.1,b4,b3,b2,b1]
  by_cases hk2:k=g % 2
  ·rw [if_pos (by omega),if_pos hk2]
  ·rw [if_neg (by omega),if_neg hk2]
theorem qky {data:List UInt8} {n j:Nat} (h:128*n+j<data.length) (hj:j<128):(blk data n)[j]? =data[128*n+j]?:=by
 unfold blk;rw [List.getElem?_take];rw [if_pos hj,List.getElem?_drop]
theorem quv {x:Dk} {g:Nat} {l:List UInt8} (hlen:x.1.length=128*mny x) (hm:34<mny x) (hl:l.length≤2048) (h:∀j,j<(qaz l).length→blk x.1 (2+g % 2*16+j)=(qaz l).getD j []):genB x g l.length=l:=by
 unfold genB;apply List.ext_getElem?;intro i;rw [List.getElem?_take]
 by_cases hi:i<l.length
 ·rw [if_pos hi,List.getElem?_drop]
  have hj:i / 128<(qaz l).length:=by rw [qb0];omega
  have hb:=h (i / 128) hj
  have e1:128*(2+g % 2*16)+i=128*(2+g % 2*16+i / 128)+i % 128:=by omega
  rw [e1,←qky (by omega) (by omega),hb];rw [List.getD,List.getElem?_eq_getElem hj,Option.getD_some,qmi];unfold padB;rw [List.getElem?_append_left (by rw [List.length_take,List.length_drop];omega),List.getElem?_take,if_pos (by omega),List.getElem?_drop]
  congr 1
  omega
 ·rw [if_neg hi,List.getElem?_eq_none (by omega)]
theorem qxo {x d:Dk} {g sz:Nat} (hx:x.1.length=d.1.length) (hlen:d.1.length=128*mny d) (hm:34<mny d) (hs:sz≤2048) (h:∀k,k<34→blk x.1 k=blk d.1 k):genB x g sz=genB d g sz:=by
 unfold genB;apply List.ext_getElem?;intro i;rw [List.getElem?_take,List.getElem?_take]
 by_cases hi:i<sz
 ·rw [if_pos hi,if_pos hi,List.getElem?_drop,List.getElem?_drop]
  have e1:128*(2+g % 2*16)+i=128*(2+g % 2*16+i / 128)+i % 128:=by omega
  rw [e1,←qky (by omega) (by omega),←qky (by omega) (by omega),h _ (by omega)]
 ·rw [if_neg hi,if_neg hi]
theorem qet {x d:Dk} {n:Nat} (h:blk x.1 n=blk d.1 n):qbs x n=qbs d n:=by unfold qbs;rw [h]
theorem qaan {d:Dk} {gen size:Nat} (h1:(qbs d (gen % 2)).1≤gen) (h2:qbs d ((gen+1) % 2)=(gen+1,size)):qgw d=(gen+1,size):=by
 unfold qgw qfb
 rcases (by omega:gen % 2=0∧(gen+1) % 2=1∨gen % 2=1∧(gen+1) % 2=0) with ⟨e1,e2⟩ | ⟨e1,e2⟩
 ·rw [e1] at h1
  rw [e2] at h2;rw [h2]
  by_cases hg:0<(qbs d 0).1
  ·rw [if_pos (show ((0,0):Nat × Nat).1<(qbs d 0).1 from hg),if_pos (show (qbs d 0).1<gen+1 by omega)]
  ·rw [if_neg (show ¬((0,0):Nat × Nat).1<(qbs d 0).1 from hg),if_pos (show 0<gen+1 by omega)]
 ·rw [e1] at h1
  rw [e2] at h2;rw [h2,if_pos (show ((0,0):Nat × Nat).1<gen+1 by show 0<gen+1;omega),if_neg (show ¬gen+1<(qbs d 1).1 by omega)]
theorem qxp {l:List Pu} (h:∀p∈l,34≤p.1) {k:Nat} (hk:k<34):qbw (k:Int) l=none:=by
 induction l with
 | nil=>rfl
 | cons p l ih=>
  unfold qbw;rw [ih (fun q hq=>h q (List.mem_cons_of_mem _ hq))]
  have:=h p (List.mem_cons_self ..)
  simp only
  rw [if_neg (by omega)]
theorem qxq {d:Dk} (hok:okD d=true) (hm:34<mny d) (hw:∀p∈d.2.1,34≤p.1) {k:Nat} (hk:k<34):qfa d k=blk d.1 k:=by
 rw [qdx hok (by omega),qxp hw hk];rfl
theorem qkz {d x:Dk} {g:Nat} {D:List Fl} (hok:okD d=true) (hm:34<mny d) (hw:∀p∈d.2.1,34≤p.1) (hc:chkF D (mny d)=0) (hg:g+1<4294967296) (hl:(qbs d (g % 2)).1≤g) (h:qas d (qca (g+1) (bytF D))=some x):okFs (x,g+1,D,D):=by
 have hb:(bytF D).length≤2048:=(qa3 hc).2.2.2.2;obtain ⟨o1,o2,o3,o4⟩:=qgi hok hm (by omega) hb h
 have hS:(qaj (g+1) ((bytF D).length:Nat)).2=0:=by rw [qhb (by omega) (by omega) (by omega)]
 have q1:qbs x (g % 2)=qbs d (g % 2):=by
  apply qet;rw [o4 _ (by omega),if_neg (by omega),if_neg (by omega),qxq hok hm hw (by omega)]
 have q2:qbs x ((g+1) % 2)=(g+1,(bytF D).length):=by
  unfold qbs;rw [o4 _ (by omega),if_pos rfl,qvs hg hS];rw [if_pos rfl,Int.toNat_natCast]
 have hL:qaf x=(g+1,(bytF D).length,0):=qtr o1 (by omega) (by omega) (qaan (by rw [q1];exact hl) q2)
 have hG:genB x (g+1) (bytF D).length=bytF D:=quv (qim o1) (by omega) hb (fun j hj=>by
  have hj':j≤15:=by rw [qb0] at hj;omega
  rw [o4 _ (by omega),if_neg (by omega),if_pos (by omega),show 2+(g+1) % 2*16+j - (2+(g+1) % 2*16)=j by omega])
 have hR:=qwm hc;refine ⟨by rw [hL],by rw [hL],(fun p hp=>by have hp:p∈x.2.1:=hp;rw [o3] at hp;cases hp), ?_, ?_, ?_⟩
 ·show qck (genB x (g+1) (qaf x).2.1) (mny x)=0
  rw [hL,hG,o2];exact hR.1
 ·show qeg (genB x (g+1) (qaf x).2.1) (mny x)=D
  rw [hL,hG,o2];exact hR.2
 ·show chkF D (mny x)=0
  rw [o2];exact hc
theorem qnt {f:Fsd} {d:Dk} {D:List Fl} (h:okFs f) (hok:okD d=true) (hlen:d.1.length=f.1.1.length) (hb:∀k,k<34→blk d.1 k=blk f.1.1 k) (hw:∀p∈d.2.1,34≤p.1) (hD:chkF D (mny f.1)=0):okFs (d,f.2.1,D,f.2.2.2):=by
 obtain ⟨h1,h2,h3,h4⟩:=qam h;obtain ⟨s1,s2⟩:=qhm h
 have hm:mny d=mny f.1:=by unfold mny;rw [hlen]
 have hL:qaf d=qaf f.1:=by
  have e1:qgw d=qgw f.1:=by unfold qgw;rw [qet (hb 0 (by omega)),qet (hb 1 (by omega))]
  unfold qaf;rw [e1,hm,qel hok,qel h1]
 have hG:genB d f.2.1 (qaf f.1).2.1=genB f.1 f.2.1 (qaf f.1).2.1:=qxo hlen (qim h1) h2 s1 hb;obtain ⟨c1,c2,c3,c4,c5,c6⟩:=h;refine ⟨by show (qaf d).2.2=0;rw [hL];exact c1,by show (qaf d).1=_;rw [hL];exact c2,hw, ?_, ?_, ?_⟩
 ·show qck (genB d f.2.1 (qaf d).2.1) (mny d)=0
  rw [hL,hG,hm];exact c4
 ·show qeg (genB d f.2.1 (qaf d).2.1) (mny d)=f.2.2.2
  rw [hL,hG,hm];exact c5
 ·show chkF D (mny d)=0
  rw [hm];exact hD
theorem qe7 {f:Fsd} (h:okFs f):chkF f.2.2.2 (mny f.1)=0:=by
 rw [←h.2.2.2.2.1];exact (qo7 h.2.2.2.1).1
theorem qaao:ofS (List.replicate 128 0)=(0,0,8):=by kernel_rfl
theorem qxr {n:Int} (h1:34<n) (h2:n≤4096):∃x:List UInt8,qbi n=(((x,[],[]),1,[],[]),0)∧okFs ((x,[],[]),1,[],[])∧mny (x,[],[])=n.toNat:=by
 have hn:(newD n).2=0:=by unfold newD;rw [if_neg (by omega)]
 obtain ⟨a,b,c,d,e⟩:=qxj hn h1;have hs:=qkx hn h1
 have hno:qas (newD n).1 (qca 1 [0])≠none:=by
  rw [e]
  simp [qca,qdk,qaz,qas,oneD]
 cases ho:qas (newD n).1 (qca 1 [0]) with
 | none=>exact absurd ho hno
 | some x=>
  rw [ho] at hs;have hs:qbe (((newD n).1,0,[],[]),0,[])=((x,1,[],[]),0,[0]):=hs
  have hz:qbs (newD n).1 (0 % 2)=(0,0):=by
   have hb:blk (newD n).1.1 0=List.replicate 128 0:=by
    rw [e];unfold blk;rw [List.drop_zero,List.take_replicate,Nat.min_eq_left (by omega)]
   unfold qbs;rw [hb,qaao];rfl
  have hx:=qkz (D:=[]) (g:=0) a b (by rw [e];intro p hp;cases hp) (by exact qxl b (by omega)) (by decide) (by rw [hz];exact Nat.le_refl 0) (by rw [qxk];exact ho);obtain ⟨o1,o2,o3, -⟩:=qgi a b (by decide:(1:Nat)≠0) (by simp:([0]:List UInt8).length≤2048) ho
  have hcl:okD (x.1,[],[])=true:=by
   obtain ⟨p1,p2,p3,p4,p5,p6,p7⟩:=(qbj x).1 o1;exact (qbj _).2 ⟨p1,p2,p3,by simp,by simp,by simp,by simp⟩
  refine ⟨x.1, ?_, ?_, ?_⟩
  ·unfold qbi
   rw [if_neg (by rw [hn];decide),if_neg (by omega),hs]
   have e2:qea x=((x.1,[],[]),0):=by unfold qea;rw [if_neg (by rw [qel o1];decide),o3]
   unfold qae;rw [if_pos rfl];unfold qec qkf endW
   simp only [e2]
   rfl
  ·have:=qnt (f:=(x,0+1,[],[])) (d:=(x.1,[],[])) (D:=[]) hx hcl rfl (fun k _=>rfl) (by intro p hp;cases hp) hx.2.2.2.2.2
   exact this
  ·rw [←c,←o2];rfl
end Go.Proofs.YtpkdiododlhipaaGreat

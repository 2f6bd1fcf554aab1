/-
  What the document's Great, GreatMetas and Same do, the program's Same, and the statements' at and holds.
-/
import Derived.Test.YtmeaiocohalphaaGreatDoorMathW3
import Derived.Test.YtmeaiocohalphaaGreatDoorWal6
import Derived.Test.YtmeaiocohalphaaGreatDoorRowG
import Derived.Test.YtmeaiocohalphaaGreatDoorNf2
import Derived.Lib.AppendZerosOnto
import Derived.Lib.Overlaps
set_option maxHeartbeats 8000000
set_option maxRecDepth 100000
namespace Go.Proofs.YtmeaiocohalphaaGreatDoor
open Go.RowKit
set_option linter.unusedVariables false
set_option linter.unusedSimpArgs false
theorem qah3 {n:Int} (h1:34<n) (h2:n≤4096):∃x:List UInt8,qb9 n=(((x,[],[]),1,[],[]),0)∧okFs ((x,[],[]),1,[],[])∧mny (x,[],[])=n.toNat∧∀k,34≤k→k<n.toNat→blk x k=List.replicate 128 0:=by
 have hn:(newD n).2=0:=by unfold newD;rw [if_neg (by omega)]
 obtain ⟨a,b,c,d,e⟩:=qacu hn h1;have hs:=ql2 hn h1
 have hno:qa8 (newD n).1 (qeh 1 [0])≠none:=by
  rw [e]
  simp [qeh,qdu,qa5,qa8,oneD]
 cases ho:qa8 (newD n).1 (qeh 1 [0]) with
 | none=>exact absurd ho hno
 | some x=>
  rw [ho] at hs;have hs:qbm (((newD n).1,0,[],[]),0,[])=((x,1,[],[]),0,[0]):=hs
  have hz:qbv (newD n).1 (0 % 2)=(0,0):=by
   have hb:blk (newD n).1.1 0=List.replicate 128 0:=by
    rw [e];unfold blk;rw [List.drop_zero,List.take_replicate,Nat.min_eq_left (by omega)]
   unfold qbv;rw [hb,qag0];rfl
  have hx:=qsm (D:=[]) (g:=0) a b (by rw [e];intro p hp;cases hp) (by exact qacw b (by omega)) (by decide) (by rw [hz];exact Nat.le_refl 0) (by rw [qacv];exact ho);obtain ⟨o1,o2,o3,o4⟩:=qix a b (by decide:(1:Nat)≠0) (by simp:([0]:List UInt8).length≤2048) ho
  have hcl:okD (x.1,[],[])=true:=by
   obtain ⟨p1,p2,p3,p4,p5,p6,p7⟩:=(qb3 x).1 o1;exact (qb3 _).2 ⟨p1,p2,p3,by simp,by simp,by simp,by simp⟩
  refine ⟨x.1, ?_, ?_, ?_, ?_⟩
  ·unfold qb9
   rw [if_neg (by rw [hn];decide),if_neg (by omega),hs]
   have e2:qfm x=((x.1,[],[]),0):=by unfold qfm;rw [if_neg (by rw [qn7 o1];decide),o3]
   unfold qag;rw [if_pos rfl];unfold qh1 qnf endW
   simp only [e2]
   rfl
  ·have:=qud (f:=(x,0+1,[],[])) (d:=(x.1,[],[])) (D:=[]) hx hcl rfl (fun k _=>rfl) (by intro p hp;cases hp) hx.2.2.2.2.2
   exact this
  ·rw [←c,←o2];rfl
  ·intro k hk1 hk2
   have hwl:(qa5 [0]).length=1:=by kernel_rfl
   rw [o4 k (by omega),if_neg (by omega),if_neg (by rw [hwl];omega),qdy a (by omega),e]
   show blk (List.replicate (n.toNat*128) 0) k=_
   exact qahi (by omega)
theorem qs1:∀(l:List Ac) (d:Dk),d.2.1.length+l.length≤65536→d.2.2.length+l.length≤65536→∃x,qa8 d l=some x∧x.2.2=d.2.2++l
 | [],d,_,_=>⟨d,rfl,by simp⟩
 | a::l,d,h1,h2=>by
  rw [List.length_cons] at h1 h2
  obtain ⟨y,e,hw,hd⟩:∃y,oneD d a=some y∧y.2.1.length≤d.2.1.length+1∧y.2.2=d.2.2++[a]:=by
   unfold oneD;rw [if_neg (by omega)];cases a.1
   ·exact ⟨_,rfl,by simp,rfl⟩
   ·exact ⟨_,rfl,by simp,rfl⟩
  obtain ⟨x,hx,hx2⟩:=qs1 l y (by omega) (by rw [hd,List.length_append,List.length_singleton];omega);refine ⟨x, ?_,by rw [hx2,hd];simp⟩;rw [qa8,e];exact hx
theorem qmd {g:Nat} {l:List UInt8} (h:l.length≤2048):(qeh g l).length≤20:=by
 have hw:∀(bl:List (List UInt8)) (n:Int),(qdu n bl).length=bl.length:=by
  intro bl
  induction bl with
  | nil=>intro n;rfl
  | cons b bl ih=>intro n;simp [qdu,ih]
 unfold qeh;rw [List.length_cons,List.length_append,hw,qca]
 simp
 omega
theorem qah4 {y:Fsd} (hok:okFs y) (hg:y.2.1≠4294967295) (hw:y.1.2.1.length≤60000) (hd:y.1.2.2.length≤60000):∃h:Fsd,qa7 y=(h,0)∧okFs h∧h.2.2.1=y.2.2.1∧h.2.2.2=y.2.2.1∧h.1.2.1=[]∧h.1.2.2.length≤y.1.2.2.length+20∧Like y h []:=by
 have hb:(bytF y.2.2.1).length≤2048:=(qbi hok.2.2.2.2.2).2.2.2.2;obtain ⟨x,hx,hx2⟩:=qs1 (qeh (y.2.1+1) (bytF y.2.2.1)) y.1 (by have:=qmd (g:=y.2.1+1) hb;omega) (by have:=qmd (g:=y.2.1+1) hb;omega)
 have e:qa7 y=((x,y.2.1+1,y.2.2.1,y.2.2.1),0):=by
  rw [ql0];unfold qacq
  rw [if_neg (by rw [qdn hok];simp),if_neg hg,hx]
 obtain ⟨x',c1,c2,c3,c4,c5,c6⟩:=qgr hok (by rw [e]);rw [e] at c1
 have:x=x':=by
  have:=congrArg (fun q:Fsd × Int=>q.1.1) c1
  exact this
 subst this;exact ⟨_,e,c2,rfl,rfl,c3,by show x.2.2.length≤_;rw [hx2,List.length_append];have:=qmd (g:=y.2.1+1) hb;omega,c6⟩
def logN:List UInt8:=[108,111,103]
def ver0:Vrs:=([[],[],[],[]],1,0,logN)
theorem qqs:chkV ver0=0:=by kernel_rfl
theorem qad4:newE logN=0:=by kernel_rfl
theorem qad5:newV logN=ver0:=by kernel_rfl
theorem qad6:(tx (verB ver0)).length=11:=by kernel_rfl
structure SavI (h:Fsd):Prop where
 ok:okFs h
 lod:lodE h=0
 ver:lodV h=ver0
 dir:h.2.2.1.map (·.1)=[curN]
def qad7 (s:List UInt8) (n:Int):Bool:=decide (qa0 [] s=6) && decide (qdm 34 64 [] n=0) && decide (qaz [] s (qb1 34 64 [] n) 64=0)
theorem qah5:qad7 nexN 1=true:=by kernel_rfl
structure ForI (F:Fsd):Prop where
 fmt:qb9 64=(F,0)
 ok:okFs F
 dir:F.2=(1,[],[])
 wait:F.1.2.1=[]
 done:F.1.2.2=[]
 many:mny F.1=64
theorem for_is:∃F,ForI F:=by
 obtain ⟨x,f1,f2,f3,_⟩:=qah3 (n:=64) (by decide) (by decide);exact ⟨_,f1,f2,rfl,rfl,rfl,f3⟩
theorem for_mk {F:Fsd} (h:ForI F) {s:List UInt8} {n:Int} (hk:qad7 s n=true):(qav F s n).2=0∧mkL F s n=[(s,qb1 34 64 [] n)]:=by
 obtain ⟨⟨k1,k2⟩,k3⟩:(qa0 [] s=6∧qdm 34 64 [] n=0)∧qaz [] s (qb1 34 64 [] n) 64=0:=by
  unfold qad7 at hk
  simpa using hk
 have hmF:qa3 F=64:=by rw [qgk (qay h.ok).1,h.many];rfl
 have hD:F.2.2.1=[]:=by rw [h.dir]
 have hK:F.2.2.2=[]:=by rw [h.dir]
 have hu:qau F=[]:=by unfold qau;rw [hD,hK];kernel_rfl
 have hmk:mkE F s n=0:=by
  unfold mkE;rw [hD,hmF,hu,k1,if_neg (by decide),if_neg (by decide),k2,if_neg (by simp),k3]
 refine ⟨by unfold qav;rw [hmk,qac2 (qdn h.ok)], ?_⟩;rw [(qagx hmk).2.2.2,hD,hmF,hu];rfl
theorem qalq {f:Fsd} {s b:List UInt8} (hb:b.length≤16384) (hcr:(qav f s (whN b.length:Nat)).2=0) (hW:f.1.2.1.length≤1000) (hA:f.1.2.2.length≤1000):(qcr f s b).2=0:=by
 obtain ⟨c0,c1,c2,c3,c4,_⟩:=qi0 hcr;have hbl:(blkM b).length=whN b.length:=qdv _;have htop:=quj hb
 have hcl:(bloL (f.1,f.2.1,mkL f s (whN b.length:Nat),f.2.2.2) s).length=whN b.length:=by
  have:=qif c3
  rw [c4,qe7 c3] at this;omega
 have hpn:=qqh (at0:=0) c2 c3 (qxy b) (by omega) (by show f.1.2.1.length+_≤_;omega) (by show f.1.2.2.length+_≤_;omega) (blkM b).length (Nat.le_refl _)
 have hpu:(qie (f.1,f.2.1,mkL f s (whN b.length:Nat),f.2.2.2) s 0 (blkM b)).2=0:=by
  unfold qie;have e:=hpn.1;rw [show ((0:Nat):Int)=0 from rfl] at e;rw [e]
 unfold qcr;rw [if_neg (by rw [qdn c0];simp),if_neg (by omega),if_neg (by rw [hcr];simp),c1,if_neg (by rw [hpu];simp)]
theorem qah6 {F:Fsd} (hF:ForI F):∃g h:Fsd,savM F ver0=(g,0)∧okFs g∧qa7 g=(h,0)∧SavI h:=by
 obtain ⟨m1,m2⟩:=for_mk hF qah5
 have hwh:whN (tx (verB ver0)).length=1:=by rw [qad6];rfl
 have hst:(qcr F nexN (tx (verB ver0))).2=0:=qalq (by rw [qad6];decide) (by rw [hwh];exact m1) (by rw [hF.wait];simp) (by rw [hF.done];simp);obtain ⟨y,e,_,_,a3,a4,a5,a6,a7,a8,a9,a10,a11⟩:=qqk hst
 have hyd:y.2.2.1=[(nexN,qb1 34 64 [] 1)]:=by
  rw [a8,hwh]
  show mkL F nexN ((1:Nat):Int)=_
  exact m2
 have hre:qbe y.2.2.1 nexN curN=0:=by rw [hyd];kernel_rfl
 have hsv:savM F ver0=qck y nexN curN:=by
  unfold savM;rw [if_neg (by rw [qdn hF.ok];simp),if_neg (by rw [qqs];simp),if_neg (by rw [hst];simp),e]
 have hr2:(savM F ver0).2=0:=by
  rw [hsv];unfold qck;rw [hre,qac2 (qdn a5)]
 obtain ⟨y',g,s1,s2,s3,s4,s5,s6,s7,s8,s9⟩:=qaio hr2;rw [e] at s1;obtain rfl:y=y':=(Prod.ext_iff.1 s1).1
 have hgw:g.1=y.1:=by rw [s9]
 have hyw:y.1.2.1.length≤1000∧y.1.2.2.length≤1000:=by
  have hcl:(bloL (F.1,F.2.1,mkL F nexN (whN (tx (verB ver0)).length:Nat),F.2.2.2) nexN).length=1:=by rw [←qe7 a10,a11,hwh]
  have hbl:(blkM (tx (verB ver0))).length=1:=by rw [qdv,hwh]
  have hpn:=qqh (at0:=0) a9 a10 (qxy (tx (verB ver0))) (by omega) (by show F.1.2.1.length+_≤_;rw [hF.wait];simp;omega) (by show F.1.2.2.length+_≤_;rw [hF.done];simp;omega) (blkM (tx (verB ver0))).length (Nat.le_refl _);have e2:=a4;unfold qie at e2;have e3:=hpn.1;rw [show ((0:Nat):Int)=0 from rfl] at e3;rw [e3] at e2;have e4:_=y:=(Prod.ext_iff.1 e2).1;rw [←e4]
  show (F.1.2.1++_).length≤1000∧(F.1.2.2++acW _).length≤1000
  rw [hF.wait,hF.done,List.nil_append,List.nil_append,qac8,List.length_take,qaim,hbl]
  simp
 obtain ⟨h,m1,m2,m3,m4,m5,m6,m7⟩:=qah4 (y:=g) s5 (by
  have e9:g.2.1=1:=by rw [s9];show y.2.1=1;rw [a8];show F.2.1=1;rw [hF.dir]
  rw [e9];decide) (by rw [hgw];omega) (by rw [hgw];omega)
 refine ⟨g,h,s2,s5,m1,m2, ?_, ?_, ?_⟩
 ·obtain ⟨b1,b2⟩:=qih m7 s6
  exact (qx1 b1 (b2.trans s7) qqs).1
 ·obtain ⟨b1,b2⟩:=qih m7 s6
  exact (qx1 b1 (b2.trans s7) qqs).2
 ·rw [m3,s9]
  show (renF y.2.2.1 nexN curN).map (·.1)=_
  rw [hyd]
  kernel_rfl
theorem OwFs.rdx {w:World} {base:Nat} {x:FsV} {f:Fsd} (h:OwFs w base x.val f):RdX w x f:=by
 obtain ⟨x',ex',hx'⟩:=h.form;have e:x'=x:=FsV.ext_val ex'.symm;subst e;exact hx'
theorem Tryz.fieldsMv:(Tryz.prog.fieldsOf 124).toList.map (fun f=>(f.type,f.offset,f.name== "_"))=[(9,0,false),(3,1,false),(3,2,false),(9,3,false),(9,4,false)]:=by kernel_rfl
theorem qqt (w:World) (p q:Mta):(Op.equalIn 10000 124 (.agg #[.string (bs p.1),.int .i64 p.2.1,.int .i64 p.2.2.1,.string (bs (Mlo p)),.string (bs (Mhi p))]) (.agg #[.string (bs q.1),.int .i64 q.2.1,.int .i64 q.2.2.1,.string (bs (Mlo q)),.string (bs (Mhi q))])).run Tryz.prog w=.ok (decide (p=q)) w:=by
 rw [run_equalIn_struct w 9999 124 _ _ (by kernel_rfl) (by kernel_rfl)];have hf:=Tryz.fieldsMv;generalize (Tryz.prog.fieldsOf 124).toList=fs at hf
 rcases fs with _ | ⟨f0,_ | ⟨f1,_ | ⟨f2,_ | ⟨f3,_ | ⟨f4,_ | ⟨f5,fs⟩⟩⟩⟩⟩⟩
 ·simp at hf
 ·simp at hf
 ·simp at hf
 ·simp at hf
 ·simp at hf
 ·simp only [List.map_cons,List.map_nil,List.cons.injEq,Prod.mk.injEq,and_true] at hf
  obtain ⟨⟨t0,o0,n0⟩,⟨t1,o1,n1⟩,⟨t2,o2,n2⟩,⟨t3,o3,n3⟩,⟨t4,o4,n4⟩⟩:=hf
  have n0':f0.name≠ "_":=by simpa using n0
  have n1':f1.name≠ "_":=by simpa using n1
  have n2':f2.name≠ "_":=by simpa using n2
  have n3':f3.name≠ "_":=by simpa using n3
  have n4':f4.name≠ "_":=by simpa using n4
  simp only [Op.eqFields,n0',n1',n2',n3',n4',ne_eq,not_false_eq_true,if_true,t0,t1,t2,t3,t4,o0,o1,o2,o3,o4]
  simp [go_sem]
  obtain ⟨k,m,d,v,u⟩:=p;obtain ⟨k',m',d',v',u'⟩:=q
  simp only [ByteArray.toList_eq,qbw,Prod.mk.injEq,Mlo,Mhi]
  by_cases h1:k=k'<;>by_cases h2:m=m'<;>by_cases h3:d=d'<;>by_cases h4:v=v'<;>by_cases h5:u=u'<;>simp [h1,h2,h3,h4,h5]
 ·simp at hf
theorem qad8 (p q:Mta) (wx:World):(binOp .neq 124 (.agg #[.string (bs p.1),.int .i64 p.2.1,.int .i64 p.2.2.1,.string (bs (Mlo p)),.string (bs (Mhi p))]) (.agg #[.string (bs q.1),.int .i64 q.2.1,.int .i64 q.2.2.1,.string (bs (Mlo q)),.string (bs (Mhi q))])).run Tryz.prog wx=.ok (.bool (!decide (p=q))) wx:=by
 rw [run_neq_struct,qqt wx p q];rfl
theorem qad9 (op:BinOp) (x y:Operand) (xs ys:Array Value) (wx:World):(eqGuard op 124 x y (.agg xs) (.agg ys)).run Tryz.prog wx=.ok () wx:=run_eqGuard_agg wx op 124 x y xs ys (by kernel_rfl)
theorem qah7 (a:Option Addr) (n c:Nat) (l:List Mta) (a':Option Addr) (n' c':Nat) (l':List Mta) (w:World) (hl:l.length≤1000000) (h:RdM w (.slice a n c) l) (h':RdM w (.slice a' n' c') l'):
  Calls Tryz.prog 70 #[.slice a n c,.slice a' n' c'] w fun e w'=>e=.returned (.bool (decide (l=l')))∧Below w.heap.size w w':=by
 have HN:=hide h.len;have HN':=hide h'.len;have HR:=hide h;have HR':=hide h';have HL:=hide hl;clear h h' hl
 by_cases hn:n=n'
 ·subst hn
  have hnl:n≤1000000:=by have:=HN.out;have:=HL.out;omega
  go_enter Tryz.func70,Tryz.ntmps70
  go_wp2
  go_loopw [13] (fun i wr=>∃k:Nat,k≤n∧i=.int .i64 k∧Hid (l.take k=l'.take k)∧Below w.heap.size w wr) (fun i _=>n - (intOf i).toNat)
  case atStart=>exact ⟨0,Nat.zero_le _,rfl,hide rfl,Below.refl _ _⟩
  case round=>
   obtain ⟨k,hk,rfl,htk,hbel⟩:=hrel
   by_cases hlt:k<n
   ·have hlt':(k:Int)<n:=by omega
    have hkl:k<l.length:=by have:=HN.out;omega
    have hkl':k<l'.length:=by have:=HN'.out;omega
    obtain ⟨b,off,e1,q0,q1,q2,q3,q4⟩:=RdM.cells HR.out hbel k hkl;obtain ⟨b',off',e2,r0,r1,r2,r3,r4⟩:=RdM.cells HR'.out hbel k hkl';subst e1 e2
    have HT:=hide (show l[k]=l'[k]→l.take (k+1)=l'.take (k+1) from fun e=>by
     rw [List.take_succ_eq_append_getElem hkl,List.take_succ_eq_append_getElem hkl',htk.out,e])
    have HF:=hide (show ¬l[k]=l'[k]→decide (l=l')=false from fun e=>by
     rw [decide_eq_false];intro h;apply e
     simp only [h])
    obtain ⟨p,hp⟩:∃p:Mta,p=l[k]:=⟨_,rfl⟩;obtain ⟨q,hq⟩:∃q:Mta,q=l'[k]:=⟨_,rfl⟩;rw [←hp] at q0 q1 q2 q3 q4 HT HF;rw [←hq] at r0 r1 r2 r3 r4 HT HF;clear hp hq hkl hkl';have heg:=qad9
    by_cases hd:p=q
    ·have hne':∀wx,(binOp .neq 124 (.agg #[.string (bs p.1),.int .i64 p.2.1,.int .i64 p.2.2.1,.string (bs (Mlo p)),.string (bs (Mhi p))]) (.agg #[.string (bs q.1),.int .i64 q.2.1,.int .i64 q.2.2.1,.string (bs (Mlo q)),.string (bs (Mhi q))])).run Tryz.prog wx=.ok (.bool false) wx:=fun wx=>by
      rw [qad8 p q wx,decide_eq_true hd];rfl
     have HD:=hide (HT.out hd);clear hd;go_wp2
     go_quiet (fail)
     go_wp2;go_roundw
     case rel=>exact ⟨k+1,by omega,by go_num,HD,qfx hbel _⟩
     case measure=>simp only [intOf];omega
    ·have hne':∀wx,(binOp .neq 124 (.agg #[.string (bs p.1),.int .i64 p.2.1,.int .i64 p.2.2.1,.string (bs (Mlo p)),.string (bs (Mhi p))]) (.agg #[.string (bs q.1),.int .i64 q.2.1,.int .i64 q.2.2.1,.string (bs (Mlo q)),.string (bs (Mhi q))])).run Tryz.prog wx=.ok (.bool true) wx:=fun wx=>by
      rw [qad8 p q wx,decide_eq_false hd];rfl
     have HD:=hide (HF.out hd);clear hd;go_wp2
     go_quiet (fail)
     go_wp2;go_ret;exact ⟨by rw [HD.out];rfl,qfx hbel _⟩
   ·have hd:decide ((k:Int)<n)=false:=by simpa using (by omega:¬(k:Int)<n)
    have HE:=hide (show decide (l=l')=true by
     rw [decide_eq_true_iff]
     have:=htk.out
     rwa [List.take_of_length_le (by have:=HN.out;omega),List.take_of_length_le (by have:=HN'.out;omega)] at this)
    go_wp2;go_ret;exact ⟨by rw [HE.out];rfl,hbel⟩
 ·have hne:((n:Int)==(n':Int))=false:=by simpa using (by omega:¬(n:Int)=n')
  have HE:=hide (show decide (l=l')=false by
   rw [decide_eq_false_iff_not];rintro rfl
   exact hn (by have:=HN.out;have:=HN'.out;omega))
  go_enter Tryz.func70,Tryz.ntmps70
  go_wp2;go_ret;exact ⟨by rw [HE.out];rfl,Below.refl _ _⟩
set_option synthInstance.maxHeartbeats 400000
set_option synthInstance.maxSize 4000
theorem qzv (a:Option Addr) (n c:Nat) (l:List Mta) (w:World) (hrd:RdM w (.slice a n c) l):
  Calls Tryz.prog 52 #[.slice a n c] w fun e w'=>∃b,e=.returned (.bool b)∧Hid (b=false→n≤100)∧Below w.heap.size w w':=by
 have HN:=hide hrd.len;have HR:=hide hrd;clear hrd
 by_cases h1:100<n
 ·have h1':(100:Int)<n:=by omega
  go_enter Tryz.func52,Tryz.ntmps52
  go_wp2;go_ret;exact ⟨true,rfl,hide (fun q=>by cases q),Below.refl _ _⟩
 have h1':decide ((100:Int)<n)=false:=by simpa using (by omega:¬(100:Int)<n)
 have HN1:=hide (show n≤100 by omega)
 have hn100:n≤100:=by omega
 go_enter Tryz.func52,Tryz.ntmps52
 go_wp2;clear h1 h1'
 go_loopw [3] (fun i wr=>∃k:Nat,k≤n∧i=.int .i64 k∧Hid (Below w.heap.size w wr)) (fun i _=>n - (intOf i).toNat)
 case atStart=>exact ⟨0,Nat.zero_le _,rfl,hide (Below.refl _ _)⟩
 case round=>
  obtain ⟨k,hk,rfl,hB⟩:=hrel
  by_cases hlt:k<n
  ·have hlt':(k:Int)<n:=by omega
   have hkl:k<l.length:=by have:=HN.out;omega
   obtain ⟨b,off,rfl,q0,q1,q2,q3,q4⟩:=RdM.cells HR.out hB.out k hkl;obtain ⟨x,hx⟩:∃x,x=l[k]:=⟨_,rfl⟩;rw [←hx] at q0 q1 q2 q3 q4;clear hx;have s1:=qcl x.1;have s2:=qcl (Mlo x);have s3:=qcl (Mhi x)
   by_cases l0:1000<x.1.length
   ·have m0:(1000:Int)<x.1.length:=by omega
    go_wp2;go_ret;exact ⟨true,rfl,hide (fun q=>by cases q),hB.out⟩
   have m0:decide ((1000:Int)<x.1.length)=false:=by simpa using (by omega:¬(1000:Int)<x.1.length)
   clear l0
   by_cases l1:1000<(Mlo x).length
   ·have m1:(1000:Int)<(Mlo x).length:=by omega
    go_wp2;go_ret;exact ⟨true,rfl,hide (fun q=>by cases q),hB.out⟩
   have m1:decide ((1000:Int)<(Mlo x).length)=false:=by simpa using (by omega:¬(1000:Int)<(Mlo x).length)
   clear l1
   by_cases l2:1000<(Mhi x).length
   ·have m2:(1000:Int)<(Mhi x).length:=by omega
    go_wp2;go_ret;exact ⟨true,rfl,hide (fun q=>by cases q),hB.out⟩
   have m2:decide ((1000:Int)<(Mhi x).length)=false:=by simpa using (by omega:¬(1000:Int)<(Mhi x).length)
   clear l2;go_wp2;go_roundw
   case rel=>exact ⟨k+1,by omega,by go_num,hB⟩
   case measure=>simp only [intOf];omega
  ·have hd:decide ((k:Int)<n)=false:=by simpa using (by omega:¬(k:Int)<n)
   go_wp2;go_ret;exact ⟨false,rfl,hide (fun _=>HN1.out),hB.out⟩
theorem qaea (a:Option Addr) (n c:Nat) (R:Lvs) (nx sq:Int) (lg:List UInt8) (w:World) (hrd:RdVw w (.slice a n c) R):
  Calls Tryz.prog 19 #[.agg #[.slice a n c,.int .i64 nx,.int .i64 sq,.string (bs lg)]] w fun e w'=>∃b,e=.returned (.bool b)∧Hid (b=false→n≤20∧(lvs R).flatten.length≤2000)∧Below w.heap.size w w':=by
 have HN:=hide hrd.len;have HR:=hide hrd;clear hrd;obtain ⟨w1,hw1⟩:∃w1,w1=w.alloc (.cells #[.slice a n c,.int .i64 nx,.int .i64 sq,.string (bs lg)] 36):=⟨_,rfl⟩;have HB1:=hide (show Below w.heap.size w w1 by rw [hw1];exact (Below.refl _ _).alloc (Nat.le_refl _) _);have HV1:=hide (show VvAt w1 w.heap.size (.slice a n c) nx sq lg by rw [hw1];exact VvAt.new w _ nx sq lg);obtain ⟨v0,v1,v2,v3⟩:=HV1.out.cells;have hs:=qcl lg
 by_cases h1:20<n
 ·have h1':(20:Int)<n:=by omega
  go_enter Tryz.func19,Tryz.ntmps19
  go_wp2_with fail
  rw [←hw1];clear hw1;go_wp2;go_ret;exact ⟨true,rfl,hide (fun q=>by cases q),HB1.out⟩
 have h1':decide ((20:Int)<n)=false:=by simpa using (by omega:¬(20:Int)<n)
 by_cases h2:1000<lg.length
 ·have h2':(1000:Int)<lg.length:=by omega
  clear h1
  go_enter Tryz.func19,Tryz.ntmps19
  go_wp2_with fail
  rw [←hw1];clear hw1;go_wp2;go_ret;exact ⟨true,rfl,hide (fun q=>by cases q),HB1.out⟩
 have h2':decide ((1000:Int)<lg.length)=false:=by simpa using (by omega:¬(1000:Int)<lg.length)
 have HN1:=hide (show n≤20 by omega)
 have hn20:n≤20:=by omega
 clear h2
 go_enter Tryz.func19,Tryz.ntmps19
 go_wp2_with fail
 rw [←hw1];clear hw1
 go_wp2_with fail
 clear h1 h1' h2' v0 v1 v2 v3
 go_loopw [3] (fun i wr=>∃k:Nat,k≤n∧i=.int .i64 k∧Hid (cntW R k≤k*100)∧Hid (VvAt wr w.heap.size (.slice a n c) nx sq lg)∧Hid (Below w.heap.size w wr)) (fun i _=>n - (intOf i).toNat)
 case atStart=>exact ⟨0,Nat.zero_le _,rfl,hide (by rw [qadi];omega),HV1,HB1⟩
 case round=>
  obtain ⟨k,hk,rfl,hC,hV,hB⟩:=hrel;clear HB1 HV1;obtain ⟨v0,v1,v2,v3⟩:=hV.out.cells
  by_cases hlt:k<n
  ·have hlt':(k:Int)<n:=by omega
   have hkl:k<R.length:=by have:=HN.out;omega
   obtain ⟨b,off,ax,nx',cx,rfl,q0,hRx,hnx⟩:=HR.out.cells hB.out k hkl;have HS:=hide (qadj R k hkl);have hc:=qzv ax nx' cx _ wr (hRx.carry hB.out);have HNX:=hide hnx;clear hRx hnx
   go_wp2_with fail
   refine hc.mono ?_
   rintro e w2 ⟨bb,rfl,hbb,b2⟩;have HV2:=hide (hV.out.carry b2);have HB2:=hide (hB.out.trans (b2.mono hB.out.size));clear hc b2 v0 v1 v2 v3 q0 hV hB
   cases bb with
   | true=>
    go_wp2;go_ret;exact ⟨true,rfl,hide (fun q=>by cases q),HB2.out⟩
   | false=>
    have HC2:=hide (show cntW R (k+1)≤(k+1)*100 by have h1:=hbb.out rfl;have h2:=HNX.out;have h3:=HS.out;have h4:=hC.out;omega);clear hbb hC;go_wp2;go_roundw
    case rel=>exact ⟨k+1,by omega,by go_num,HC2,HV2,HB2⟩
    case measure=>simp only [intOf];omega
  ·have hd:decide ((k:Int)<n)=false:=by simpa using (by omega:¬(k:Int)<n)
   have HF:=hide (show (lvs R).flatten.length≤2000 by
    rw [←qx5 R];have h1:=hC.out;have h2:=HN.out
    have:k=R.length:=by omega
    rw [←this];omega)
   clear hC;go_wp2;go_ret;exact ⟨false,rfl,hide (fun _=>⟨HN1.out,HF.out⟩),hB.out⟩
theorem big_lv {R:Lvs} (hT:(lvs R).flatten.length≤100000) {k:Nat} (hk:k<R.length):(R[k]).2.length≤1000000:=Nat.le_trans (qkf hk) (by omega)
theorem qaeb (a:Option Addr) (n c:Nat) (R:Lvs) (a2:Option Addr) (n2 c2:Nat) (R2:Lvs) (w:World) (hrd:RdVw w (.slice a n c) R) (hrd2:RdVw w (.slice a2 n2 c2) R2) (hn:n≤1000) (hT:(lvs R).flatten.length≤100000):
  Calls Tryz.prog 69 #[.slice a n c,.slice a2 n2 c2,.func (.func 70) #[] #[]] w fun e w'=>e=.returned (.bool (decide (lvs R=lvs R2)))∧Below w.heap.size w w':=by
 have HN:=hide hrd.len;have HN2:=hide hrd2.len;have HR:=hide hrd;have HR2:=hide hrd2;have HTF:=hide hT;clear hrd hrd2 hT
 by_cases hnn:n=n2
 ·subst hnn
  go_enter Tryz.func69,Tryz.ntmps69
  go_wp2
  go_loopw [17] (fun i wr=>∃k:Nat,k≤n∧i=.int .i64 k∧Hid ((lvs R).take k=(lvs R2).take k)∧Hid (Below w.heap.size w wr)) (fun i _=>n - (intOf i).toNat)
  case atStart=>exact ⟨0,Nat.zero_le _,rfl,hide rfl,hide (Below.refl _ _)⟩
  case round=>
   obtain ⟨k,hk,rfl,htk,hB⟩:=hrel
   by_cases hlt:k<n
   ·have hlt':(k:Int)<n:=by omega
    have hkl:k<R.length:=by have:=HN.out;omega
    have hkl2:k<R2.length:=by have:=HN2.out;omega
    obtain ⟨b,off,ax,nx',cx,rfl,q0,hRx,hnx⟩:=HR.out.cells hB.out k hkl;obtain ⟨b',off',ay,ny',cy,rfl,p0,hRy,hny⟩:=HR2.out.cells hB.out k hkl2
    have HT:=hide (show (R[k]).2=(R2[k]).2→(lvs R).take (k+1)=(lvs R2).take (k+1) from fun e=>by
     rw [List.take_succ_eq_append_getElem (by rw [qbf];exact hkl),List.take_succ_eq_append_getElem (by rw [qbf];exact hkl2),htk.out,qei hkl,qei hkl2,e])
    have HF:=hide (show ¬(R[k]).2=(R2[k]).2→decide (lvs R=lvs R2)=false from fun e=>by
     rw [decide_eq_false];intro h;apply e
     have h1:(lvs R)[k]? =(lvs R2)[k]?:=by rw [h]
     rw [List.getElem?_eq_getElem (by rw [qbf];exact hkl),List.getElem?_eq_getElem (by rw [qbf];exact hkl2),qei hkl,qei hkl2] at h1
     exact Option.some.inj h1)
    have hc:=qah7 ax nx' cx _ ay ny' cy _ wr (big_lv HTF.out hkl) (hRx.carry hB.out) (hRy.carry hB.out)
    by_cases he:(R[k]).2=(R2[k]).2
    ·rw [decide_eq_true he] at hc
     have HT2:=hide (HT.out he);clear he HT HF hRx hRy hnx hny htk
     go_wp2_with fail
     refine hc.mono ?_
     rintro e w2 ⟨rfl,b2⟩;have HB2:=hide (hB.out.trans (b2.mono hB.out.size));clear hc b2 q0 p0 hB;go_wp2;go_roundw
     case rel=>exact ⟨k+1,by omega,by go_num,HT2,HB2⟩
     case measure=>simp only [intOf];omega
    ·rw [decide_eq_false he] at hc
     have HF2:=hide (HF.out he);clear he HT HF hRx hRy hnx hny htk
     go_wp2_with fail
     refine hc.mono ?_
     rintro e w2 ⟨rfl,b2⟩;have HB2:=hide (hB.out.trans (b2.mono hB.out.size));clear hc b2 q0 p0 hB;go_wp2;go_ret;exact ⟨qac HF2.out.symm,HB2.out⟩
   ·have hd:decide ((k:Int)<n)=false:=by simpa using (by omega:¬(k:Int)<n)
    have HE:=hide (show decide (lvs R=lvs R2)=true by
     rw [decide_eq_true_iff]
     have:=htk.out
     rwa [List.take_of_length_le (by rw [qbf];have:=HN.out;omega),List.take_of_length_le (by rw [qbf];have:=HN2.out;omega)] at this)
    clear htk;go_wp2;go_ret;exact ⟨qac HE.out.symm,hB.out⟩
 ·have hne:((n:Int)==(n2:Int))=false:=by simpa using (by omega:¬(n:Int)=n2)
  have HE:=hide (show decide (lvs R=lvs R2)=false by
   rw [decide_eq_false_iff_not];intro h;apply hnn
   have:=congrArg List.length h
   rw [qbf,qbf] at this
   rw [HN.out,HN2.out];exact this)
  clear hnn
  go_enter Tryz.func69,Tryz.ntmps69
  go_wp2;go_ret;exact ⟨qac HE.out.symm,Below.refl _ _⟩
theorem qhb (a:Option Addr) (n c:Nat) (R:Lvs) (nx sq:Int) (lg:List UInt8) (a2:Option Addr) (n2 c2:Nat) (R2:Lvs) (nx2 sq2:Int) (lg2:List UInt8) (w:World) (hrd:RdVw w (.slice a n c) R) (hrd2:RdVw w (.slice a2 n2 c2) R2) (hn:n≤1000) (hT:(lvs R).flatten.length≤100000):
  Calls Tryz.prog 28 #[.agg #[.slice a n c,.int .i64 nx,.int .i64 sq,.string (bs lg)],.agg #[.slice a2 n2 c2,.int .i64 nx2,.int .i64 sq2,.string (bs lg2)]] w fun e w'=>e=.returned (.bool (decide ((lvs R,nx,sq,lg)=(lvs R2,nx2,sq2,lg2))))∧Below w.heap.size w w':=by
 have HN:=hide hrd.len;have HN2:=hide hrd2.len;have HR:=hide hrd;have HR2:=hide hrd2;have HTF:=hide hT;clear hrd hrd2 hT;obtain ⟨w1,hw1⟩:∃w1,w1=w.alloc (.cells #[.slice a n c,.int .i64 nx,.int .i64 sq,.string (bs lg)] 36):=⟨_,rfl⟩
 have hb1:Below w.heap.size w w1:=by rw [hw1];exact (Below.refl _ _).alloc (Nat.le_refl _) _
 have hs1:w1.heap.size=w.heap.size+1:=by rw [hw1];simp
 obtain ⟨w2,hw2⟩:∃w2,w2=w1.alloc (.cells #[.slice a2 n2 c2,.int .i64 nx2,.int .i64 sq2,.string (bs lg2)] 36):=⟨_,rfl⟩
 have hb2:Below w1.heap.size w1 w2:=by rw [hw2];exact (Below.refl _ _).alloc (Nat.le_refl _) _
 have HA2:=hide ((show VvAt w1 w.heap.size (.slice a n c) nx sq lg by rw [hw1];exact VvAt.new w _ nx sq lg).carry hb2);have HC2:=hide (show VvAt w2 (w.heap.size+1) (.slice a2 n2 c2) nx2 sq2 lg2 by rw [hw2,←hs1];exact VvAt.new w1 _ _ _ _);have HB2:=hide (hb1.trans (hb2.mono hb1.size));clear hb1 hb2 hs1
 have HEQ:=hide (show ((lvs R,nx,sq,lg)=(lvs R2,nx2,sq2,lg2))↔nx=nx2∧sq=sq2∧lg=lg2∧lvs R=lvs R2 from by
  simp only [Prod.mk.injEq]
  exact ⟨fun ⟨h1,h2,h3,h4⟩=>⟨h2,h3,h4,h1⟩,fun ⟨h1,h2,h3,h4⟩=>⟨h4,h1,h2,h3⟩⟩)
 obtain ⟨P,hP⟩:∃P,P=decide ((lvs R,nx,sq,lg)=(lvs R2,nx2,sq2,lg2)):=⟨_,rfl⟩;rw [←hP];have HPI:=hide (show P=true↔nx=nx2∧sq=sq2∧lg=lg2∧lvs R=lvs R2 by rw [hP,decide_eq_true_iff];exact HEQ.out);clear hP HEQ;obtain ⟨v0,v1,v2,v3⟩:=HA2.out.cells;obtain ⟨u0,u1,u2,u3⟩:=HC2.out.cells;have hes:=eq_bs lg lg2
 by_cases e1:nx=nx2
 rotate_left
 ·have d1:(nx==nx2)=false:=by simpa using e1
  have HE:=hide (show P=false by rw [←Bool.not_eq_true,HPI.out];exact fun h=>e1 h.1);clear e1 hes
  go_enter Tryz.func28,Tryz.ntmps28
  go_wp2_with fail
  rw [←hw1,←hw2];clear hw1 hw2
  go_wp2_with fail
  go_ret;exact ⟨qac (by rw [HE.out];try simp),HB2.out⟩
 subst e1
 by_cases e2:sq=sq2
 rotate_left
 ·have d2:(sq==sq2)=false:=by simpa using e2
  have HE:=hide (show P=false by rw [←Bool.not_eq_true,HPI.out];exact fun h=>e2 h.2.1);clear e2 hes
  go_enter Tryz.func28,Tryz.ntmps28
  go_wp2_with fail
  rw [←hw1,←hw2];clear hw1 hw2
  go_wp2_with fail
  go_ret;exact ⟨qac (by rw [HE.out];try simp),HB2.out⟩
 subst e2
 by_cases e3:lg=lg2
 rotate_left
 ·have d3:((bs lg).toList==(bs lg2).toList)=false:=by rw [hes];simpa using e3
  have HE:=hide (show P=false by rw [←Bool.not_eq_true,HPI.out];exact fun h=>e3 h.2.2.1);clear e3 hes
  go_enter Tryz.func28,Tryz.ntmps28
  go_wp2_with fail
  rw [←hw1,←hw2];clear hw1 hw2
  go_wp2_with fail
  go_ret;exact ⟨qac (by rw [HE.out];try simp),HB2.out⟩
 subst e3;clear hes;have hc:=qaeb a n c R a2 n2 c2 R2 w2 (HR.out.carry HB2.out) (HR2.out.carry HB2.out) hn HTF.out;have HE:=hide (show P=decide (lvs R=lvs R2) by rw [Bool.eq_iff_iff,HPI.out,decide_eq_true_iff];exact ⟨fun h=>h.2.2.2,fun h=>⟨rfl,rfl,rfl,h⟩⟩);obtain ⟨D,hD⟩:∃D,D=decide (lvs R=lvs R2):=⟨_,rfl⟩;rw [←hD] at hc HE;clear hD
 go_enter Tryz.func28,Tryz.ntmps28
 go_wp2_with fail
 rw [←hw1,←hw2];clear hw1 hw2
 go_wp2_with fail
 refine hc.mono ?_
 rintro e w3 ⟨rfl,b3⟩;have HB3:=hide (HB2.out.trans (b3.mono HB2.out.size));clear hc b3 v0 v1 v2 v3 u0 u1 u2 u3;go_wp2;go_ret;exact ⟨qac (by rw [HE.out];try simp),HB3.out⟩
end Go.Proofs.YtmeaiocohalphaaGreatDoor

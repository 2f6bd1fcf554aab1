/-
  What mayBe, Check, checked and New do.
-/
import Derived.Test.YtmeaiocohalphaaGreatDoorVn4
import Derived.Shelf.Slices.In.SortNone
set_option maxHeartbeats 8000000
set_option maxRecDepth 100000
namespace Go.Proofs.YtmeaiocohalphaaGreatDoor
open Go.RowKit Go.Shelf
set_option linter.all false
variable {R:dL}{k:Nat}{V:lJ}
def Tryz.lays190_ren:Go.Shelf.Ren:=⟨fun|190=>223|125=>262|258=>261|128=>286|129=>287|302=>277|303=>278|304=>279|305=>280|306=>281|307=>282|308=>283|309=>284|310=>285|333=>291|329=>292|330=>293|334=>294|335=>295|336=>296|344=>298|n=>n,fun|31=>48|9=>9|3=>3|46=>231|0=>0|51=>28|53=>148|4=>4|183=>331|182=>330|131=>229|5=>5|218=>337|222=>341|228=>344|229=>177|n=>n,fun|n=>n⟩
theorem Tryz.lays190:Go.Proofs.Lays.n190 Tryz.prog Tryz.lays190_ren:={
 mixed:=by kernel_rfl
 f125:=Tryz.func262.trans (congrArg some (by kernel_rfl))
 f128:=Tryz.func286.trans (congrArg some (by kernel_rfl))
 f129:=Tryz.func287.trans (congrArg some (by kernel_rfl))
 f190:=Tryz.func223.trans (congrArg some (by kernel_rfl))
 f258:=Tryz.func261.trans (congrArg some (by kernel_rfl))
 f302:=Tryz.func277.trans (congrArg some (by kernel_rfl))
 f303:=Tryz.func278.trans (congrArg some (by kernel_rfl))
 f304:=Tryz.func279.trans (congrArg some (by kernel_rfl))
 f305:=Tryz.func280.trans (congrArg some (by kernel_rfl))
 f306:=Tryz.func281.trans (congrArg some (by kernel_rfl))
 f307:=Tryz.func282.trans (congrArg some (by kernel_rfl))
 f308:=Tryz.func283.trans (congrArg some (by kernel_rfl))
 f309:=Tryz.func284.trans (congrArg some (by kernel_rfl))
 f310:=Tryz.func285.trans (congrArg some (by kernel_rfl))
 f329:=Tryz.func292.trans (congrArg some (by kernel_rfl))
 f330:=Tryz.func293.trans (congrArg some (by kernel_rfl))
 f333:=Tryz.func291.trans (congrArg some (by kernel_rfl))
 f334:=Tryz.func294.trans (congrArg some (by kernel_rfl))
 f335:=Tryz.func295.trans (congrArg some (by kernel_rfl))
 f336:=Tryz.func296.trans (congrArg some (by kernel_rfl))
 f344:=Tryz.func298.trans (congrArg some (by kernel_rfl))
 t0:=Tryz.underlying0
 a0:=Tryz.isAgg0
 z0:=Tryz.sizeOf0
 v0:=Tryz.zeroValue0
 t3:=Tryz.underlying3
 a3:=Tryz.isAgg3
 z3:=Tryz.sizeOf3
 v3:=Tryz.zeroValue3
 t4:=Tryz.underlying4
 a4:=Tryz.isAgg4
 z4:=Tryz.sizeOf4
 v4:=Tryz.zeroValue4
 t5:=Tryz.underlying5
 a5:=Tryz.isAgg5
 z5:=Tryz.sizeOf5
 v5:=Tryz.zeroValue5
 t9:=Tryz.underlying9
 a9:=Tryz.isAgg9
 z9:=Tryz.sizeOf9
 v9:=Tryz.zeroValue9
 t31:=Tryz.underlying48
 a31:=Tryz.isAgg48
 z31:=Tryz.sizeOf48
 v31:=Tryz.zeroValue48
 t46:=Tryz.underlying231
 a46:=Tryz.isAgg231
 z46:=Tryz.sizeOf231
 v46:=Tryz.zeroValue231
 t51:=Tryz.underlying28
 a51:=Tryz.isAgg28
 z51:=Tryz.sizeOf28
 v51:=Tryz.zeroValue28
 t53:=Tryz.underlying148
 a53:=Tryz.isAgg148
 z53:=Tryz.sizeOf148
 v53:=Tryz.zeroValue148
 t131:=Tryz.underlying229
 a131:=Tryz.isAgg229
 z131:=Tryz.sizeOf229
 v131:=Tryz.zeroValue229
 t182:=Tryz.underlying330
 a182:=Tryz.isAgg330
 z182:=Tryz.sizeOf330
 v182:=Tryz.zeroValue330
 t183:=Tryz.underlying331
 a183:=Tryz.isAgg331
 z183:=Tryz.sizeOf331
 v183:=Tryz.zeroValue331
 t218:=Tryz.underlying337
 a218:=Tryz.isAgg337
 z218:=Tryz.sizeOf337
 v218:=Tryz.zeroValue337
 t222:=Tryz.underlying341
 a222:=Tryz.isAgg341
 z222:=Tryz.sizeOf341
 v222:=Tryz.zeroValue341
 t228:=Tryz.underlying344
 a228:=Tryz.isAgg344
 z228:=Tryz.sizeOf344
 v228:=Tryz.zeroValue344
 t229:=Tryz.underlying177
 a229:=Tryz.isAgg177
 z229:=Tryz.sizeOf177
 v229:=Tryz.zeroValue177}
abbrev AV (ks:List (az)):List (az):=ks.mergeSort fun x y=>decide (x<=y)
theorem WB(l:List (az)):l.flatMap Ww=l.map encStr:=by
 induction l with
 |nil=>rfl
 |cons x l ih=>rw[Xb2,ih];rfl
theorem qalg(g n c base:Nat)(a:List (az))(w:World)(h:jJ w base (.slice (some ⟨g,0,none⟩) n c) a)(hb:base<=w.heap.size)(u:n<=1000000):
  Calls Tryz.prog 223 #[.slice (some ⟨g,0,none⟩) n c] w fun e w'=>e=.returned (.tuple #[])∧jJ w' base (.slice (some ⟨g,0,none⟩) n c) (AV a)∧Below base w w':=by
 rcases h.2 with⟨e,_⟩|⟨v,cap,l,e,b,d,m,o,i,k⟩
 ·cases e
 injection e with e1 e2 e3;injection e1 with e1;injection e1 with e1;subst e1 e2 e3;rw[Nat.mul_one]at i;rw[Nat.mul_one,WB]at k;have p:=holds_of_block d k;have f:g<w.heap.size:=(Xd6.1 d).1;have q:=calls_of_every_depth fun D=>Go.Proofs.AnyS.slices_Sort_string_alone Tryz.lays190 D g 0 c a w p f (by omega)
 refine Calls.mono q ?_
 rintro e w'⟨rfl,r,os,rfl⟩;have s:=ownsRow_sorted (n:=r) (os:=os) (ts:=AV a) (List.length_mergeSort a) b d m o (by simpa using i);refine⟨rfl, ?_,aF.grown (grownBy_sorted _) hb fun j t=>by cases t;exact b⟩;unfold jJ cO;rw[List.length_mergeSort,WB];exact s
theorem Tryz.infoTxV:(Tryz.prog.info? 9).map (fun i=>(i.zero,i.size,i.bytes))=some (some (.string ByteArray.empty),1,16):=by kernel_rfl
theorem qalh{w:World}{base:Nat}{v:Value}{l:List (az)}(h:jJ w base v l)(hb:base<=w.heap.size)(hl:l.length<=1000000)(s:az):
  ∃g c w',(Builtin.append_ #[48,48] 48 #[v,.slice (some ⟨w.heap.size,0,none⟩) 1 1]).run Tryz.prog (w.alloc (.cells #[.string (bs s)] 9))=.ok (.slice (some ⟨g,0,none⟩) (l.length+1) c) w'∧
   jJ w' base (.slice (some ⟨g,0,none⟩) (l.length+1) c) (l++[s])∧Below base w w':=by
 obtain⟨g,c,w',b,d,e,_⟩:=qag3 (P:=Tryz.prog) Wx (by decide) (by intro x u a;simp[Ww]at a;subst a;rfl) Tryz.underlying48 Tryz.infoTxV rfl h hb (by omega) (by unfold maxLen;omega) s #[.string (bs s)] rfl;exact⟨g,c,w',b,d,e⟩
def lF (lg:az) (R:dL) (k:Nat) (l:List dn) (j:Nat):List (az):=lg::(((aT R).take k).flatten++l.take j).map (·.1)
theorem qahd(lg:az)(R:dL)(k:Nat)(l:List dn)(j:Nat)(a:j<=l.length):(lF lg R k l j).length=jI R k+j+1:=by
 unfold lF jI;simp only[Xb0,Xd1,Xa0,Xa4];omega
theorem M4(lg:az)(R:dL)(k:Nat)(l:List dn)(j:Nat)(a:j<l.length):lF lg R k l (j+1)=lF lg R k l j++[(l[j]).1]:=by
 unfold lF;rw[Xa2 a,<-Xa8,Xd0];rfl
theorem GA(lg:az)(R:dL)(k:Nat)(a:k<R.length)(m:List dn):lF lg R (k+1) m 0=lF lg R k (R[k]).2 (R[k]).2.length:=by
 unfold lF;rw[Xa2 (by rw[jM];exact a),yC a];simp
theorem MK(lg:az)(R:dL)(l:List dn)(nx sq:Int):lF lg R R.length l 0=qG (aT R,nx,sq,lg):=by
 unfold lF qG;rw[Xa1 (by rw[jM];exact Nat.le_refl _)];simp
theorem qahf(a:aA)(n c:Nat)(R:dL)(nx sq:Int)(lg:az)(w:World)(y:gM w (.slice a n c) R)(hn:n<=1000)(hT:(aT R).flatten.length<=100000):
  Calls Tryz.prog 160 #[.agg #[.slice a n c,.int .i64 nx,.int .i64 sq,.string (bs lg)]] w fun e w'=>∃g m f,e=.returned (.slice (some ⟨g,0,none⟩) m f)∧jJ w' w.heap.size (.slice (some ⟨g,0,none⟩) m f) (AV (qG (aT R,nx,sq,lg)))∧ah w w':=by
 have V:=ag y.len;have HR:=ag y;clear y;obtain⟨z,l⟩:=ak (w.alloc (.cells #[.slice a n c,.int .i64 nx,.int .i64 sq,.string (bs lg)] 36));have s:=ag (show ah w z by rw[l];exact ae);have N:=ag (show aQ z w.heap.size (.slice a n c) nx sq lg by rw[l];exact aQ.new w _ nx sq lg);obtain⟨v0,v1,v2,v3⟩:=N.o.cells;obtain⟨W,p⟩:=ak (z.alloc (.cells #[.string (bs lg)] 9));have A:ah z W:=by rw[p];exact ae
 have D:=ag (s.o.trans (A.mono s.o.size));have Y:=ag (N.o.a A);have L:=ag (show jJ W w.heap.size (.slice (some ⟨z.heap.size,0,none⟩) 1 1) (lF lg R 0 [] 0)by
  have ho:=World.ownsRow_lit (base:=w.heap.size) (e:=9) (size:=1) z #[.string (bs lg)] 1 s.o.size (by decide) rfl;rw[p];exact ho)
 obtain⟨g2,B⟩:=ak z.heap.size;rw[<-B]at L;have hs1:w.heap.size+1=g2:=by rw[B,l];simp
 clear A;obtain⟨u0,u1,u2,u3⟩:=Y.o.cells;rw[p]at u0 u1 u2 u3;rw[<-hs1]at L;clear hs1;go_enter Tryz.func160,Tryz.ntmps160;go_wp2_with fail
 rw[<-l];clear l;go_wp2_with fail
 rw[<-p];clear p v0 v1 v2 v3 u0 u1 u2 u3 s N Y B;go_loopw [14,3] (fun i v wr=>∃(k:Nat) (r mv f:Nat),k<=n∧i=.int .i64 k∧v=.slice (some ⟨r,0,none⟩) mv f∧af (jJ wr w.heap.size (.slice (some ⟨r,0,none⟩) mv f) (lF lg R k [] 0))∧af (ah w wr)) (fun i _ _=>n-(intOf i).toNat)
 case atStart=>exact⟨0,_,_,_,Xd5 _,rfl,rfl,L,D⟩
 obtain⟨k,r,mv,f,Z,rfl,rfl,t,E⟩:=hrel;clear L D;by_cases O:k<n
 ·have aa:(k:Int)<n:=by omega
  have C:k<R.length:=by have:=V.o;omega
  obtain⟨b,ac,ax,nx',cx,rfl,q0,mG,F⟩:=HR.o.cells E.o k C;have HX:=ag mG;have P:=ag F;have WC:=ag (show nx'<=100000 by have:=Wj C;omega);have WE:=ag (show jI R k<=100000 from aG (AF R k) hT);have vJ:=ag (GA lg R k C []);have Q:=ag (show jJ wr w.heap.size (.slice (some ⟨r,0,none⟩) mv f) (lF lg R k (R[k]).2 0)from t.o);obtain⟨X,hX⟩:=ak ((R[k]).2);rw[<-hX]at HX P vJ Q;clear mG F hX t;have ad:=Z;go_wp2_with fail
  go_loopw [20,3] (fun i v wi=>∃(j:Nat) (r mv f:Nat),j<=nx'∧i=.int .i64 j∧v=.slice (some ⟨r,0,none⟩) mv f∧af (jJ wi w.heap.size (.slice (some ⟨r,0,none⟩) mv f) (lF lg R k X j))∧af (ah w wi)) (fun i _ _=>nx'-(intOf i).toNat)
  case atStart=>exact⟨0,r,mv,f,Xd5 _,rfl,rfl,Q,E⟩
  obtain⟨j,g3,m3,c3,hj,rfl,rfl,t,h⟩:=hrel;clear Q E q0;by_cases ai:j<nx'
  ·have ab:(j:Int)<nx':=by omega
   have G:j<X.length:=by have:=P.o;omega
   obtain⟨bx,ox,rfl,p0,p1,p2,p3,p4⟩:=pg.cells HX.o h.o j G;have S:=ag (M4 lg R k X j G);have sS:=ag (qahd lg R k X j (by omega));obtain⟨x,hx⟩:=ak (X[j]);rw[<-hx]at p0 p1 p2 p3 p4 S;clear hx;obtain⟨T,q⟩:=ak (wr.alloc (.cells #[.string (bs x.1),.int .i64 x.2.1,.int .i64 x.2.2.1,.string (bs (gG x)),.string (bs (gH x))] 124));have u:ah wr T:=by rw[q];exact ae
   obtain⟨x0,x1,x2,x3,x4⟩:=(show fT T wr.heap.size x by rw[q];exact fT.new wr x).cells;have aj:=WC.o;have qV:m3=(lF lg R k X j).length:=jJ.rd t.o|>.len
   obtain⟨g,cg,w5,d,M,H⟩:=qalh (t.o.a u) (aG h.o.size u.size) (by rw[sS.o];have:=WE.o;have:=WC.o;omega) x.1;rw[<-S.o]at M;have I:T.heap.size=wr.heap.size+1:=by rw[q];simp
   rw[I]at d;obtain⟨m5,wW⟩:=ak ((lF lg R k X j).length+1);rw[<-wW]at d M;have U:=ag M;have fK:=ag (show ah w w5 from(h.o.trans (u.mono h.o.size)).trans H);clear M H u t h S sS I wW qV;rw[q]at d x0 x1 x2 x3 x4;clear q;go_wp2_with (first|(at_builtin;refine xw rfl (.tmp 24) (.tmp 27) 48 rfl rfl rfl rfl d ?_)|fail)
   go_roundw
   case rel=>exact⟨j+1,_,_,_,by omega,by go_num,rfl,U,fK⟩
   simp only[intOf];omega
  have jd:decide ((j:Int)<nx')=false:=aC (by omega);have U:=ag (show jJ wr w.heap.size (.slice (some ⟨g3,0,none⟩) m3 c3) (lF lg R (k+1) [] 0)by
   rw[vJ.o,<-P.o];have:j=nx':=by omega
   rw[<-this];exact t.o)
  go_wp2_with fail
  go_roundw
  case rel=>exact⟨k+1,_,_,_,by omega,by go_num,rfl,U,h⟩
  simp only[intOf];omega
 have hd:decide ((k:Int)<n)=false:=aC (by omega);have J:k=R.length:=by have:=V.o;omega
 have HO:=ag (show jJ wr w.heap.size (.slice (some ⟨r,0,none⟩) mv f) (qG (aT R,nx,sq,lg))by rw[<-MK lg R [] nx sq,<-J];exact t.o);have K:mv<=1000000:=by
  have h1:=jJ.rd HO.o|>.len
  unfold qG at h1;simp only[Xb0,Xd1]at h1;omega
 have hc:=qalg r mv f w.heap.size _ wr HO.o E.o.size K;clear t;go_wp2_with fail
 refine hc.mono ?_
 rintro e w6⟨rfl,o6,b6⟩;have qP:=ag o6;have mJ:=ag (E.o.trans b6);clear hc o6 b6 O hd Z J K;go_wp2;go_ret;exact⟨_,_,_,rfl,qP.o,mJ.o⟩
theorem qzj(a:aA)(n c:Nat)(R:dL)(nx sq:Int)(lg:az)(w:World)(f:gM w (.slice a n c) R)(T:n<=1000)(U:(aT R).flatten.length<=100000):
  Calls Tryz.prog 82 #[.agg #[.slice a n c,.int .i64 nx,.int .i64 sq,.string (bs lg)]] w fun e w'=>e=.returned (.bool (decide (32<(aT R).flatten.length)))∧ah w w':=by
 have t:=ag f.len;have E:=ag f;clear f;obtain⟨u,d⟩:=ak (w.alloc (.cells #[.slice a n c,.int .i64 nx,.int .i64 sq,.string (bs lg)] 36));have h:=ag (show ah w u by rw[d];exact ae);have x:=ag (show aQ u w.heap.size (.slice a n c) nx sq lg by rw[d];exact aQ.new w _ nx sq lg);obtain⟨F,G,H,I⟩:=x.o.cells;go_enter Tryz.func82,Tryz.ntmps82;go_wp2_with fail
 rw[<-d];clear d;go_wp2_with fail
 clear F G H I x;go_loopw [9,3] (fun i v wr=>∃(k:Nat),k<=n∧i=.int .i64 k∧v=.int .i64 (jI R k)∧af (jI R k<=32)∧af (ah w wr)) (fun i _ _=>n-(intOf i).toNat)
 case atStart=>exact⟨0,Xd5 _,rfl,by rw[MU];rfl,ag (by rw[MU];omega),h⟩
 obtain⟨k,V,rfl,rfl,j,p⟩:=hrel;clear h;by_cases J:k<n
 ·have y:(k:Int)<n:=by omega
  have g:k<R.length:=by have:=t.o;omega
  obtain⟨b,K,W,nx',X,rfl,Y,L,l⟩:=E.o.cells p.o k g;have r:=ag (Ar R k g);have z:=ag (AF R (k+1));have O:nx'<=100000:=by have:=Wj g;omega
  obtain⟨N,q⟩:=ak (jI R (k+1));obtain⟨M,A⟩:=ak (jI R k);rw[<-A]at r j⊢;rw[<-q,<-l]at r;rw[<-q]at z;have B:M<=32:=j.o;have Z:IntKind.i64.wrap ((M:Int)+nx')=(N:Int):=by rw[IntKind.wrap_i64,r.o];omega
  have C:=ag q;clear L l j A q;by_cases m:32<N
  ·have P:(32:Int)<N:=by omega
   have s:=ag (show decide (32<(aT R).flatten.length)=true from Xd8 (by have:=z.o;omega));clear m B;go_wp2;go_ret;exact⟨fH s.o.symm,p.o⟩
  have P:decide ((32:Int)<N)=false:=aC (by omega);have Q:=ag (show jI R (k+1)<=32 by rw[<-C.o];omega);clear B m;go_wp2;go_roundw
  case rel=>exact⟨k+1,by omega,by go_num,by rw[C.o],Q,p⟩
  simp only[intOf];omega
 have hd:decide ((k:Int)<n)=false:=aC (by omega);have s:=ag (show decide (32<(aT R).flatten.length)=false by
  refine Xd7 (Nat.not_lt.2 ?_);have D:=j.o;have S:=qxy R;have:k=R.length:=by have:=t.o;omega
  rw[this,S]at D;exact D)
 clear j;go_wp2;go_ret;exact⟨fH s.o.symm,p.o⟩
theorem M6(a b:az):mh a b=decide (a<b):=bytesLess_eq a b
theorem qads(d:List (az)):(AV d).Pairwise (fun a b=>mh b a=false):=by
 have e:∀a b c:az,decide (a<=b)=true->decide (b<=c)=true->decide (a<=c)=true:=fun a b c f g=>by simp only[decide_eq_true_eq]at *;exact List.le_trans f g
 have i:∀a b:az,(decide (a<=b) ||decide (b<=a))=true:=fun a b=>by simp only[Bool.or_eq_true,decide_eq_true_eq];exact List.le_total a b
 refine(List.pairwise_mergeSort e i d).imp fun {a b} h=>?_
 rw[M6,Xd9];exact List.not_lt.2 (of_decide_eq_true h)
theorem qtd(a:List (az)):(AV a).Perm a:=List.mergeSort_perm _ _
theorem qou:∀{l:List (az)},l.Pairwise (fun a b=>mh b a=false)->jw EH l=true->l.Pairwise (fun a b=>mh a b=true)
 |[],_,_=>List.Pairwise.nil
 |[x],_,_=>List.pairwise_singleton _ _
 |x::y::r,h,hr=>by
  rw[jw,Xe0]at hr;have e:=List.pairwise_cons.1 h;have f:=qou e.2 hr.2;have c:mh x y=true:=by
   rcases qld x y with q|q|q
   ·exact q
   ·have:=hr.1;unfold EH at this;simp[q]at this
   have:=e.1 y (by simp);rw[q]at this;cases this
  refine List.pairwise_cons.2 ⟨fun z d=>?_,f⟩;rcases List.mem_cons.1 d with rfl|d
  ·exact c
  exact qlc c ((List.pairwise_cons.1 f).1 z d)
theorem qadt(c:List (az)):jw EH (AV c)=decide c.Nodup:=by
 rw[Bool.eq_iff_iff,decide_eq_true_iff];constructor
 ·intro h
  have:=qou (qads c) h
  refine(qtd c).nodup_iff.1 (this.imp fun {a b} q e=>?_);rw[e,Rt]at q;cases q
 intro h;have d:=(qtd c).nodup_iff.2 h;rw[Z9];intro i hi;unfold EH;simp only[Bool.not_eq_true',Xd9];intro e;exact List.pairwise_iff_getElem.1 d i (i+1) (by omega) hi (by omega) e.symm
def AX (R:dL) (k:Nat):Prop:=∀i,i<k->(h:i<R.length)->(R[i]).2.all jE=true∧(0<i->jw lY (R[i]).2=true)
theorem AX.next(h:AX R k)(c:k<R.length)(a:(R[k]).2.all jE=true)(b:0<k->jw lY (R[k]).2=true):AX R (k+1):=by
 intro i hi hl;rcases Nat.lt_or_ge i k with q|q
 ·exact h i q hl
 obtain rfl:i=k:=by omega
 exact⟨a,b⟩
theorem AX.all(h:AX R R.length):qH (aT R)=true:=by
 rw[ig];constructor
 ·intro l hl m b
  obtain⟨p,c,rfl⟩:=List.mem_map.1 hl;obtain⟨i,hi,rfl⟩:=Xb7.1 c;exact Xc5.1 (h i hi hi).1 m b
 intro k a d;rw[jM]at a;rw[yC a];exact(h k a a).2 d
theorem Vf(b:k<R.length)(a:(R[k]).2.all jE=false):qH (aT R)=false:=by
 rw[<-Xd4,ig];rintro⟨h, -⟩;have:(R[k]).2.all jE=true:=Xc5.2 (h _ (List.mem_map.2 ⟨R[k],Xa3 b,rfl⟩))
 rw[this]at a;cases a
theorem qahh(a:k<R.length)(b:0<k)(c:jw lY (R[k]).2=false):qH (aT R)=false:=by
 rw[<-Xd4,ig];rintro⟨-,h⟩;have:=h k (by rw[jM];exact a) b
 rw[yC a,c]at this;cases this
theorem WG(h:qH V.1=false):eU V=false:=by
 rw[<-Xd4,bS];rintro⟨-, -, -,q, -⟩;rw[h]at q;cases q
theorem qahi(a:V.1.length=4)(b:kL V.2.2.2 16=true)(c:qI V=true)(d:qH V.1=true):eU V=decide (qG V).Nodup:=by
 unfold eU;rw[b,c,d];simp[a]
theorem QQ:qI V=true↔1<=V.2.1∧V.2.1<=1099511627776∧0<=V.2.2.1∧V.2.2.1<=1099511627776:=by unfold qI;simp[and_assoc]
theorem qahj(a:aA)(n c:Nat)(R:dL)(nx sq:Int)(lg:az)(w:World)(s:gM w (.slice a n c) R)(hn:n<=1000)(hT:(aT R).flatten.length<=100000):
  Calls Tryz.prog 83 #[.agg #[.slice a n c,.int .i64 nx,.int .i64 sq,.string (bs lg)]] w fun e w'=>e=.returned (.bool (eU (aT R,nx,sq,lg)))∧ah w w':=by
 have G:=ag s.len;have HR:=ag s;obtain⟨w1,d⟩:=ak (w.alloc (.cells #[.slice a n c,.int .i64 nx,.int .i64 sq,.string (bs lg)] 36));have D:ah w w1:=by rw[d];exact ae
 have f:=ag D;have I:=ag (show aQ w1 w.heap.size (.slice a n c) nx sq lg by rw[d];exact aQ.new w _ nx sq lg);have r:=ag (bS (V:=(aT R,nx,sq,lg)));have t:=ag (QQ (V:=(aT R,nx,sq,lg)));have zO:=ag (jM R);have J:=ag hT;simp only at r t
 obtain⟨V,K⟩:=ak ((aT R,nx,sq,lg));rw[<-K]at r t⊢;have u:=ag K;clear K D s hT;obtain⟨L,M,N,O⟩:=I.o.cells;by_cases c0:n=4
 rotate_left
 ·skip
  have d0:((n:Int) !=4)=true:=by simpa using(by omega:¬(n:Int)=4)
  have g:=ag (show eU V=false by rw[<-Xd4,r.o];rintro⟨q, -⟩;rw[zO.o,<-G.o]at q;exact c0 q);go_enter Tryz.func83,Tryz.ntmps83;go_wp2_with fail
  rw[<-d];clear d;go_wp2_with (go_at_call 81;refine(xy _ _).mono ?_;rintro e wc⟨rfl,rfl⟩)
  go_ret;exact⟨fH g.o.symm,f.o⟩
 subst c0;cases htx:kL lg 16 with
 |false=>
  have g:=ag (show eU V=false by rw[<-Xd4,r.o];rintro⟨-,q, -⟩;rw[htx]at q;cases q);go_enter Tryz.func83,Tryz.ntmps83;go_wp2_with fail
  rw[<-d];clear d;go_wp2_with (go_at_call 81;refine(xy _ _).mono ?_;rintro e wc⟨rfl,rfl⟩)
  go_ret;exact⟨fH g.o.symm,f.o⟩
 |true=>
 by_cases c2:1<=nx
 rotate_left
 ·skip
  have d2:nx<1:=by omega
  have g:=ag (show eU V=false by rw[<-Xd4,r.o];rintro⟨-, -,q, -⟩;rw[t.o]at q;omega);go_enter Tryz.func83,Tryz.ntmps83;go_wp2_with fail
  rw[<-d];clear d;go_wp2_with (go_at_call 81;refine(xy _ _).mono ?_;rintro e wc⟨rfl,rfl⟩)
  go_ret;exact⟨fH g.o.symm,f.o⟩
 have d2:decide (nx<1)=false:=by simpa using c2
 by_cases c3:nx<=1099511627776
 rotate_left
 ·skip
  have d3:1099511627776<nx:=by omega
  have g:=ag (show eU V=false by rw[<-Xd4,r.o];rintro⟨-, -,q, -⟩;rw[t.o]at q;omega);go_enter Tryz.func83,Tryz.ntmps83;go_wp2_with fail
  rw[<-d];clear d;go_wp2_with (go_at_call 81;refine(xy _ _).mono ?_;rintro e wc⟨rfl,rfl⟩)
  go_ret;exact⟨fH g.o.symm,f.o⟩
 have d3:decide (1099511627776<nx)=false:=by simpa using c3
 by_cases c4:0<=sq
 rotate_left
 ·skip
  have d4:sq<0:=by omega
  have g:=ag (show eU V=false by rw[<-Xd4,r.o];rintro⟨-, -,q, -⟩;rw[t.o]at q;omega);go_enter Tryz.func83,Tryz.ntmps83;go_wp2_with fail
  rw[<-d];clear d;go_wp2_with (go_at_call 81;refine(xy _ _).mono ?_;rintro e wc⟨rfl,rfl⟩)
  go_ret;exact⟨fH g.o.symm,f.o⟩
 have d4:decide (sq<0)=false:=by simpa using c4
 by_cases E:sq<=1099511627776
 rotate_left
 ·skip
  have d5:1099511627776<sq:=by omega
  have g:=ag (show eU V=false by rw[<-Xd4,r.o];rintro⟨-, -,q, -⟩;rw[t.o]at q;omega);go_enter Tryz.func83,Tryz.ntmps83;go_wp2_with fail
  rw[<-d];clear d;go_wp2_with (go_at_call 81;refine(xy _ _).mono ?_;rintro e wc⟨rfl,rfl⟩)
  go_ret;exact⟨fH g.o.symm,f.o⟩
 have d5:decide (1099511627776<sq)=false:=by simpa using E
 have P:=ag (show qI V=true by rw[t.o];exact⟨c2,c3,c4,E⟩);have zt:=ag htx;go_enter Tryz.func83,Tryz.ntmps83;go_wp2_with fail
 rw[<-d];clear d;go_wp2_with (go_at_call 81;refine(xy _ _).mono ?_;rintro e wc⟨rfl,rfl⟩)
 clear L M N O c2 c3 c4 E d2 d3 d4 d5 htx;go_loopw [38] (fun i wr=>∃k:Nat,k<=4∧i=.int .i64 k∧af (AX R k)∧af (aQ wr w.heap.size (.slice a 4 c) nx sq lg)∧af (ah w wr)) (fun i _=>4-(intOf i).toNat)
 case atStart=>exact⟨0,Xd5 _,rfl,ag (fun i hi=>by omega),I,f⟩
 obtain⟨k,hk,rfl,H,l,m⟩:=hrel;clear f I;by_cases Q:k<4
 ·have aa:(k:Int)<4:=by omega
  have j:k<R.length:=by have:=G.o;omega
  obtain⟨b,ac,ax,nx',cx,rfl,q0,mG,S⟩:=HR.o.cells m.o k j;have T:=ag mG;have WH:nx'<=1000000:=by have:=Wj j;have:=J.o;omega
  have y:=ag (fun h=>Vf j h);have z:=ag (fun h h0=>qahh j h h0);have v:=ag (fun A h2=>H.o.next j A h2);obtain⟨X,hX⟩:=ak ((R[k]).2);rw[<-hX]at T y z v;clear mG S hX H;have p:=qadq ax nx' cx X wr (T.o.a m.o) WH;go_wp2_with fail
  refine p.mono ?_
  rintro e w4⟨rfl,U⟩;have B:=ag (m.o.trans (U.mono m.o.size));have W:=ag (l.o.a U);clear p U m l q0;cases ht:X.all jE with
  |false=>
   have g:=ag (show eU V=false from WG (by rw[u.o];exact y.o ht));clear y z v;go_wp2;go_ret;exact⟨fH g.o.symm,B.o⟩
  |true=>
   by_cases Y:0<k
   ·have ab:(0:Int)<k:=by omega
    have p:=qale ax nx' cx X w4 (T.o.a B.o) WH;go_wp2_with fail
    refine p.mono ?_
    rintro e w5⟨rfl,C⟩;have F:=ag (B.o.trans (C.mono B.o.size));have Z:=ag (W.o.a C);clear p C B W;cases hr:jw lY X with
    |false=>
     have g:=ag (show eU V=false from WG (by rw[u.o];exact z.o Y hr));clear y z v;go_wp2;go_ret;exact⟨fH g.o.symm,F.o⟩
    |true=>
     have HL:=ag (v.o ht (fun _=>hr));clear y z v;go_wp2;go_roundw
     case rel=>exact⟨k+1,by omega,by go_num,HL,Z,F⟩
     simp only[intOf];omega
   obtain rfl:k=0:=by omega
   have HL:=ag (v.o ht (fun h=>by omega));clear y z v;go_wp2;go_roundw
   case rel=>exact⟨1,by omega,rfl,HL,W,B⟩
   simp only[intOf];omega
 have hd:decide ((k:Int)<4)=false:=aC (by omega);obtain rfl:k=4:=by omega
 have Bu:=ag (show qH (aT R)=true by have h:=H.o;have e:=G.o;rw[e]at h;exact h.all);have g:=ag (show eU V=decide (qG V).Nodup from qahi (by rw[u.o];show(aT R).length=4;rw[zO.o,<-G.o]) (by rw[u.o];exact zt.o) P.o (by rw[u.o];exact Bu.o));obtain⟨L,M,N,O⟩:=l.o.cells;have p:=qahf a 4 c R nx sq lg wr (HR.o.a m.o) hn J.o;rw[<-u.o]at p;clear H;go_wp2_with fail
 refine p.mono ?_
 rintro e w5⟨g5,m5,E,rfl,o5,C⟩;have F:=ag (m.o.trans (C.mono m.o.size));have wW:m5<=1000000:=by
  have A:=jJ.rd o5|>.len
  rw[List.length_mergeSort]at A;rw[u.o]at A;unfold qG at A;simp only[Xb0,Xd1]at A;have:=J.o
  omega
 have x:=F8 _ m5 E _ w5 o5.rd wW;rw[qadt,<-g.o]at x;clear p o5 C L M N O Q hd m l;go_wp2_with fail
 refine x.mono ?_
 rintro e w6⟨rfl,b6⟩;have mJ:=ag (F.o.trans (b6.mono F.o.size));clear x b6;go_wp2;go_ret;exact⟨rfl,mJ.o⟩
theorem qx0(a:aA)(n c:Nat)(R:dL)(nx sq:Int)(lg:az)(w:World)(f:gM w (.slice a n c) R)(A:n<=1000)(p:(aT R).flatten.length<=100000):
  Calls Tryz.prog 35 #[.agg #[.slice a n c,.int .i64 nx,.int .i64 sq,.string (bs lg)]] w fun e w'=>e=.returned (.int .i64 (dw (aT R,nx,sq,lg)))∧ah w w':=by
 have H:=ag f.len;have D:=ag f;obtain⟨q,g⟩:=ak (w.alloc (.cells #[.slice a n c,.int .i64 nx,.int .i64 sq,.string (bs lg)] 36));have h:ah w q:=by rw[g];exact ae
 have i:=ag h;have r:=ag (show aQ q w.heap.size (.slice a n c) nx sq lg by rw[g];exact aQ.new w _ nx sq lg);obtain⟨s,t,u,v⟩:=r.o.cells;have k:=qzj a n c R nx sq lg q (f.a h) A p;have x:=ag (show dw (aT R,nx,sq,lg)=if 32<(aT R).flatten.length then 4 else if eU (aT R,nx,sq,lg)then 0 else 8 from rfl);have E:=ag p;clear h f p;obtain⟨V,y⟩:=ak ((aT R,nx,sq,lg));rw[<-y]at x⊢;have F:=ag y;clear y;go_enter Tryz.func35,Tryz.ntmps35;go_wp2_with fail
 rw[<-g];clear g;go_wp2_with fail
 refine k.mono ?_
 rintro e G⟨rfl,z⟩;have d:=ag (i.o.trans (z.mono i.o.size));have B:=ag (r.o.a z);clear k z s t u v r i;by_cases b:32<(aT R).flatten.length
 ·have m:=ag (show dw V=4 by rw[x.o,if_pos b])
  rw[Xd8 b];clear b;go_wp2;go_ret;exact⟨qqq m.o.symm,d.o⟩
 have m:=ag (show dw V=if eU V then 0 else 8 by rw[x.o,if_neg b]);rw[Xd7 b];clear b;obtain⟨s,t,u,v⟩:=B.o.cells;have k:=qahj a n c R nx sq lg G (D.o.a d.o) A E.o;rw[<-F.o]at k;go_wp2_with fail
 refine k.mono ?_
 rintro e I⟨rfl,C⟩;have l:=ag (d.o.trans (C.mono d.o.size));clear k C s t u v B d;cases hm:eU V with
 |true=>
  have j:=ag (show dw V=0 by rw[m.o,hm];rfl);go_wp2;go_ret;exact⟨qqq j.o.symm,l.o⟩
 |false=>
  have j:=ag (show dw V=8 by rw[m.o,hm];rfl);go_wp2;go_ret;exact⟨qqq j.o.symm,l.o⟩
end Go.Proofs.YtmeaiocohalphaaGreatDoor

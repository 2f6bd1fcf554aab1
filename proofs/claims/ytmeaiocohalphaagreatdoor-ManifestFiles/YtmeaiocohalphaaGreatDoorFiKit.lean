/-
  Rows of files, read and owned.
-/
import Derived.Test.YtmeaiocohalphaaGreatDoorRead
set_option maxHeartbeats 400000
set_option maxRecDepth 100000
namespace Go.Proofs.YtmeaiocohalphaaGreatDoor
open Go.RowKit
set_option linter.all false
variable {v:Value}{l:List Ex}{w w':World}{fs:List Fl}{b:List (Fl×Value)}{base c n:Nat}
theorem qws(s:ByteArray)(w:World)(g:s.size<=1000000000):
  Calls Tryz.prog 60 #[.string s] w fun e w'=>∃v,e=.returned v∧w'.ownsRow w.heap.size 5 1 v (tx s.data.toList).length (bO (tx s.data.toList))∧ah w w':=by
 have hl:s.data.toList.length=s.size:=by rw[Xd2];rfl
 have h:=iP (n:=s.size) (by omega);go_enter Tryz.func60,Tryz.ntmps60;go_wp2_with fail
 refine(Nh s.size _ (by omega)).mono ?_
 rintro e d⟨v,rfl,b,c⟩;go_wp2_with (at_builtin;go_must (refine qhy w d rfl (.tmp 6) (.tmp 7) 23 9 rfl w.heap.size 5 Tryz.underlying23 Tryz.underlying9 Tryz.infoB _ _ b rfl c aL s rfl (by omega) ?_);intro v' i a f)
 go_ret;unfold tx;rw[hl];exact⟨_,rfl,a,f⟩
theorem qsc(s:ByteArray)(w:World)(g:s.size<=1000000000):
  Calls Tryz.prog 63 #[.string s] w fun e w'=>∃v,e=.returned v∧w'.ownsRow w.heap.size 5 1 v (tx s.data.toList).length (bO (tx s.data.toList))∧ah w w':=by
 have hl:s.data.toList.length=s.size:=by rw[Xd2];rfl
 have h:=iP (n:=s.size) (by omega);go_enter Tryz.func63,Tryz.ntmps63;go_wp2_with fail
 refine(qjh s.size _ (by omega)).mono ?_
 rintro e d⟨v,rfl,b,c⟩;go_wp2_with (at_builtin;go_must (refine qhy w d rfl (.tmp 6) (.tmp 7) 23 9 rfl w.heap.size 5 Tryz.underlying23 Tryz.underlying9 Tryz.infoB _ _ b rfl c aL s rfl (by omega) ?_);intro v' i a f)
 go_ret;unfold tx;rw[hl];exact⟨_,rfl,a,f⟩
theorem qyy(b a c:Nat)(l:az)(w:World)(hl:l.length<=1000000000)(d:∀j,(h:j<l.length)->w.cell? ⟨b,a+j,none⟩=some (.int .u8 (l[j]).toNat)):
  Calls Tryz.prog 147 #[.slice (some ⟨b,a,none⟩) l.length c] w fun e w'=>∃v,e=.returned v∧w'.ownsRow w.heap.size 5 1 v l.length (bO l)∧ah w w':=by
 have g:af (∀j,(h:j<l.length)->w.cell? ⟨b,a+j,none⟩=some (.int .u8 (l[j]).toNat)):=d;clear d;have m:=fun i=>Lib.run_eql_slice_nil (P:=Tryz.prog) i 23 5 (some ⟨b,a,none⟩) l.length c 0 0 Tryz.underlying23
 go_enter Tryz.func147,Tryz.ntmps147;go_wp2_with (at_builtin;go_must (refine Q8 w (w.alloc (.cells #[] 5)) rfl (.tmp 5) (.tmp 6) 23 rfl w.heap.size 5 Tryz.underlying23 Tryz.infoB _ [] (World.ownsRow_made w #[] 0 aL (by decide) rfl) rfl (ae) aL b a c l.length l rfl rfl (fun j h=>(World.cell?_alloc_lt _ _ _ (Xa6 w _ (g.o j h))).trans (g.o j h)) (by simp;omega) ?_);intro v' n f k _)
 go_ret;exact⟨_,rfl,f,k⟩
theorem XE(b a c m:Nat)(l:az)(w:World)(f:l.length=m)(hl:m<=1000000000)(d:∀j,(h:j<l.length)->w.cell? ⟨b,a+j,none⟩=some (.int .u8 (l[j]).toNat)):
  Calls Tryz.prog 147 #[.slice (some ⟨b,a,none⟩) m c] w fun e w'=>∃v,e=.returned v∧w'.ownsRow w.heap.size 5 1 v l.length (bO l)∧ah w w':=by
 subst f;exact qyy b a c l w hl d
def xO (w w':World) (v:Value) (l:az):Prop:=
 (ct l=none∧v=.tuple #[.string ByteArray.empty,.slice none 0 0,.int .i64 8])∨
 ∃t r x,ct l=some (t,r)∧v=.tuple #[.string (bs t),x,.int .i64 0]∧w'.ownsRow w.heap.size 5 1 x r.length (bO r)
theorem TA(a:aA)(c:Nat)(w:World):
  Calls Tryz.prog 105 #[.slice a 0 c] w fun e w'=>∃v,e=.returned v∧xO w w' v []∧ah w w':=by
 go_enter Tryz.func105,Tryz.ntmps105;go_wp2_with fail
 refine(qpw a c _).mono ?_
 rintro e b⟨rfl,rfl⟩;unfold nZ;go_wp2;go_ret3;exact⟨_,rfl,.inl ⟨rfl,rfl⟩,aF⟩
theorem qaki(b a c:Nat)(l:az)(w:World)(hl:l.length<=1000000000)(J:l.length<=c)(K:c<=maxLen)(i:∀j,(h:j<l.length)->w.cell? ⟨b,a+j,none⟩=some (.int .u8 (l[j]).toNat)):
  Calls Tryz.prog 105 #[.slice (some ⟨b,a,none⟩) l.length c] w fun e w'=>∃v,e=.returned v∧xO w w' v l∧ah w w':=by
 have t:af (∀j,(h:j<l.length)->w.cell? ⟨b,a+j,none⟩=some (.int .u8 (l[j]).toNat)):=i;clear i;go_enter Tryz.func105,Tryz.ntmps105;go_wp2_with fail
 refine(qwr b a c l _ t.o).mono ?_
 rintro e s⟨rfl,rfl⟩;cases hr:rd l with
 |none=>
  have y:af (rd l=none):=hr;clear hr;unfold nZ;go_wp2;go_ret3;exact⟨_,rfl,.inl ⟨ZL y.o,rfl⟩,aF⟩
 |some p=>
  obtain⟨n,k⟩:=p;obtain⟨L,M,D,P⟩:=JV hr;have y:af (rd l=some (n,k)):=hr;clear hr;unfold nZ;by_cases E:n<=l.length-k
  ·have z:af (ct l=some ((l.drop k).take n,l.drop (k+n))):=PW y.o E
   have m:((l.drop k).take n).length=n:=by simp;omega
   have r:(l.drop (k+n)).length=l.length-k-n:=by simp;omega
   by_cases A:k=c
   ·subst A
    obtain rfl:n=0:=by omega
    have F:Rd s (.slice (some ⟨b,a,none⟩) 0 0) []:=.inl ⟨rfl,.inr ⟨_,_,rfl⟩⟩;have G:∀f,Rd f (.slice (some ⟨b,a,none⟩) 0 0) []->(convert 23 9 (.slice (some ⟨b,a,none⟩) 0 0)).run Tryz.prog f=.ok (.string (bs [])) f:=fun f h=>sD _ _ _ Tryz.underlying23 Tryz.underlying5 Tryz.underlying9 h
    have g:(l.drop k).length=0:=by simp;omega
    have q:af ((l.drop k).length=0):=g;have u:af (∀j,(h:j<(l.drop k).length)->s.cell? ⟨b,a+j,none⟩=some (.int .u8 ((l.drop k)[j]).toNat)):=fun j h=>by
     exfalso;omega
    have B:af (ct l=some ([],l.drop k)):=by
     have:=z.o
     rw[Xc2,Nat.add_zero]at this;exact this
    clear m r g z;go_wp2;go_region_held3 (fun f=>Rd f (.slice (some ⟨b,a,none⟩) 0 0) []) (first|assumption|exact Rd.a (by assumption) (by assumption)) ((go_at_call 147;refine(XE b a 0 0 (l.drop k) _ q.o (by omega) (by exact u.o)).mono ?_;rintro e H⟨I,rfl,d,x⟩))
    go_wp2;go_ret3;exact⟨_,rfl,.inr ⟨_,_,_,B.o,rfl,d⟩,aF.drew.trans x⟩
   by_cases N:c-k=n
   ·have F:Rd s (.slice (some ⟨b,a+k,none⟩) n n) ((l.drop k).take n):=.inr ⟨b,a+k,n,by rw[m],by omega,by omega,fun j O=>by
     rw[show a+k+j=a+(k+j)by omega,t.o (k+j) (by omega)];simp⟩
    have G:∀f,Rd f (.slice (some ⟨b,a+k,none⟩) n n) ((l.drop k).take n)->(convert 23 9 (.slice (some ⟨b,a+k,none⟩) n n)).run Tryz.prog f=.ok (.string (bs ((l.drop k).take n))) f:=fun f h=>sD _ _ _ Tryz.underlying23 Tryz.underlying5 Tryz.underlying9 h
    have g:(l.drop (k+n)).length=l.length-k-n:=by omega
    have q:af ((l.drop (k+n)).length=l.length-k-n):=g;have u:af (∀j,(h:j<(l.drop (k+n)).length)->s.cell? ⟨b,a+k+j,none⟩=some (.int .u8 ((l.drop (k+n))[j]).toNat)):=fun j h=>by
     first|(rw[show a+k+j=a+(k+n+j)by omega,t.o (k+n+j) (by omega)];simp;done)|(exfalso;omega)
    have C:(n:Int)<=((c-k:Nat):Int):=by omega
    clear m r g;go_wp2;go_region_held3 (fun f=>Rd f (.slice (some ⟨b,a+k,none⟩) n n) ((l.drop k).take n)) (first|assumption|exact Rd.a (by assumption) (by assumption)) ((go_at_call 147;refine(XE b (a+k) (0) (l.length-k-n) (l.drop (k+n)) _ q.o (by omega) (by exact u.o)).mono ?_;rintro e H⟨I,rfl,d,x⟩))
    go_wp2;go_ret3;exact⟨_,rfl,.inr ⟨_,_,_,z.o,rfl,d⟩,aF.drew.trans x⟩
   have F:Rd s (.slice (some ⟨b,a+k,none⟩) n (c-k)) ((l.drop k).take n):=.inr ⟨b,a+k,(c-k),by rw[m],by omega,by omega,fun j O=>by
    rw[show a+k+j=a+(k+j)by omega,t.o (k+j) (by omega)];simp⟩
   have G:∀f,Rd f (.slice (some ⟨b,a+k,none⟩) n (c-k)) ((l.drop k).take n)->(convert 23 9 (.slice (some ⟨b,a+k,none⟩) n (c-k))).run Tryz.prog f=.ok (.string (bs ((l.drop k).take n))) f:=fun f h=>sD _ _ _ Tryz.underlying23 Tryz.underlying5 Tryz.underlying9 h
   have g:(l.drop (k+n)).length=l.length-k-n:=by omega
   have q:af ((l.drop (k+n)).length=l.length-k-n):=g;have u:af (∀j,(h:j<(l.drop (k+n)).length)->s.cell? ⟨b,a+k+n+j,none⟩=some (.int .u8 ((l.drop (k+n))[j]).toNat)):=fun j h=>by
    first|(rw[show a+k+n+j=a+(k+n+j)by omega,t.o (k+n+j) (by omega)];simp;done)|(exfalso;omega)
   have C:(n:Int)<=((c-k:Nat):Int):=by omega
   clear m r g;go_wp2;go_region_held3 (fun f=>Rd f (.slice (some ⟨b,a+k,none⟩) n (c-k)) ((l.drop k).take n)) (first|assumption|exact Rd.a (by assumption) (by assumption)) ((go_at_call 147;refine(XE b (a+k+n) (c-k-n) (l.length-k-n) (l.drop (k+n)) _ q.o (by omega) (by exact u.o)).mono ?_;rintro e H⟨I,rfl,d,x⟩))
   go_wp2;go_ret3;exact⟨_,rfl,.inr ⟨_,_,_,z.o,rfl,d⟩,aF.drew.trans x⟩
  go_wp2;all_goals (go_ret3;exact⟨_,rfl,.inl ⟨ZM y.o E,rfl⟩,aF⟩)
theorem qwt(a:aA)(c:Nat)(w:World):
  Calls Tryz.prog 65 #[.slice a 0 c] w fun e w'=>∃v,e=.returned v∧xO w w' v []∧ah w w':=by
 go_enter Tryz.func65,Tryz.ntmps65;go_wp2_with fail
 refine(XG a c _).mono ?_
 rintro e b⟨rfl,rfl⟩;unfold nZ;go_wp2;go_ret3;exact⟨_,rfl,.inl ⟨rfl,rfl⟩,aF⟩
theorem qaf2(b a c:Nat)(l:az)(w:World)(hl:l.length<=1000000000)(J:l.length<=c)(K:c<=maxLen)(m:∀j,(h:j<l.length)->w.cell? ⟨b,a+j,none⟩=some (.int .u8 (l[j]).toNat)):
  Calls Tryz.prog 65 #[.slice (some ⟨b,a,none⟩) l.length c] w fun e w'=>∃v,e=.returned v∧xO w w' v l∧ah w w':=by
 have x:af (∀j,(h:j<l.length)->w.cell? ⟨b,a+j,none⟩=some (.int .u8 (l[j]).toNat)):=m;clear m;go_enter Tryz.func65,Tryz.ntmps65;go_wp2_with fail
 refine(qsb b a c l _ (by omega) x.o).mono ?_
 rintro e i⟨rfl,rfl⟩;cases hr:rd l with
 |none=>
  have y:af (rd l=none):=hr;clear hr;unfold nZ;go_wp2;go_ret3;exact⟨_,rfl,.inl ⟨ZL y.o,rfl⟩,aF⟩
 |some p=>
  obtain⟨n,k⟩:=p;obtain⟨L,M,E,P⟩:=JV hr;have y:af (rd l=some (n,k)):=hr;clear hr;unfold nZ;by_cases F:n<=l.length-k
  ·have z:af (ct l=some ((l.drop k).take n,l.drop (k+n))):=PW y.o F
   have q:((l.drop k).take n).length=n:=by simp;omega
   have r:(l.drop (k+n)).length=l.length-(k+n):=by simp
   have A:¬((l.length:Int)-k<n):=by omega
   by_cases B:k=c
   ·subst B
    obtain rfl:n=0:=by omega
    have C:af (ct l=some ([],l.drop k)):=by
     have:=z.o
     rw[Xc2,Nat.add_zero]at this;exact this
    have f:af ((l.drop k).length=0):=by show _=_;simp;omega
    have t:Rd i (.slice (some ⟨b,a,none⟩) 0 0) []:=.inl ⟨rfl,.inr ⟨_,_,rfl⟩⟩;have G:∀g,Rd g (.slice (some ⟨b,a,none⟩) 0 0) []->(convert 23 9 (.slice (some ⟨b,a,none⟩) 0 0)).run Tryz.prog g=.ok (.string (bs [])) g:=fun g h=>sD _ _ _ Tryz.underlying23 Tryz.underlying5 Tryz.underlying9 h
    clear q r z;go_wp2_with (at_builtin;go_must (refine Q8 i i rfl (.tmp 31) (.tmp 34) 23 rfl i.heap.size 5 Tryz.underlying23 Tryz.infoB _ [] (Xa7 _ _ _ _) rfl aF aL b a 0 0 (l.drop k) f.o rfl (fun j h=>by have:=f.o;exfalso;omega) (by simp;omega) ?_);intro H I d s _;have u:=t.a s)
    go_ret3;exact⟨_,rfl,.inr ⟨_,_,_,C.o,rfl,d⟩,s⟩
   by_cases D:c=k+n
   ·subst D
    have f:af ((l.drop (k+n)).length=l.length-(k+n)):=r;have t:Rd i (.slice (some ⟨b,a+k,none⟩) n n) ((l.drop k).take n):=.inr ⟨b,a+k,n,by rw[q],by omega,by omega,fun j N=>by
     rw[show a+k+j=a+(k+j)by omega,x.o (k+j) (by omega)];simp⟩
    have G:∀g,Rd g (.slice (some ⟨b,a+k,none⟩) n n) ((l.drop k).take n)->(convert 23 9 (.slice (some ⟨b,a+k,none⟩) n n)).run Tryz.prog g=.ok (.string (bs ((l.drop k).take n))) g:=fun g h=>sD _ _ _ Tryz.underlying23 Tryz.underlying5 Tryz.underlying9 h
    clear q r;go_wp2_with (at_builtin;go_must (refine Q8 i i rfl (.tmp 31) (.tmp 34) 23 rfl i.heap.size 5 Tryz.underlying23 Tryz.infoB _ [] (Xa7 _ _ _ _) rfl aF aL b a (k+n-(k+n)) (l.length-(k+n)) (l.drop (k+n)) f.o rfl (fun j h=>by have:=f.o;exfalso;omega) (by simp;omega) ?_);intro H I d s _;have u:=t.a s)
    go_ret3;exact⟨_,rfl,.inr ⟨_,_,_,z.o,rfl,d⟩,s⟩
   have O:af (∀j,(h:j<(l.drop (k+n)).length)->i.cell? ⟨b,a+(k+n)+j,none⟩=some (.int .u8 ((l.drop (k+n))[j]).toNat)):=fun j h=>by
    first|(rw[show a+(k+n)+j=a+(k+n+j)by omega,x.o (k+n+j) (by omega)];simp;done)|(exfalso;omega)
   have f:af ((l.drop (k+n)).length=l.length-(k+n)):=r;have t:Rd i (.slice (some ⟨b,a+k,none⟩) n (c-k)) ((l.drop k).take n):=.inr ⟨b,a+k,c-k,by rw[q],by omega,by omega,fun j N=>by
    rw[show a+k+j=a+(k+j)by omega,x.o (k+j) (by omega)];simp⟩
   have G:∀g,Rd g (.slice (some ⟨b,a+k,none⟩) n (c-k)) ((l.drop k).take n)->(convert 23 9 (.slice (some ⟨b,a+k,none⟩) n (c-k))).run Tryz.prog g=.ok (.string (bs ((l.drop k).take n))) g:=fun g h=>sD _ _ _ Tryz.underlying23 Tryz.underlying5 Tryz.underlying9 h
   clear q r;go_wp2_with (at_builtin;go_must (refine Q8 i i rfl (.tmp 31) (.tmp 34) 23 rfl i.heap.size 5 Tryz.underlying23 Tryz.infoB _ [] (Xa7 _ _ _ _) rfl aF aL b (a+(k+n)) (c-(k+n)) (l.length-(k+n)) (l.drop (k+n)) f.o rfl O.o (by simp;omega) ?_);intro H I d s _;have u:=t.a s)
   go_ret3;exact⟨_,rfl,.inr ⟨_,_,_,z.o,rfl,d⟩,s⟩
  have A:((l.length:Int)-k<n):=by omega
  go_wp2;all_goals (go_ret3;exact⟨_,rfl,.inl ⟨ZM y.o F,rfl⟩,aF⟩)
theorem qly{l:az}(w:World)(h:Rd w v l):
  Calls Tryz.prog 183 #[v] w fun e w'=>e=.returned (nZ (rd l))∧w'=w:=by
 rcases h with⟨rfl,rfl|⟨f,c,rfl⟩⟩|⟨b,d,c,rfl,g,i,a⟩
 ·exact qpw _ _ w
 ·exact qpw _ _ w
 exact qwr b d c l w a
theorem xf{l:az}(w:World)(hl:l.length<=1000000000)(h:Rd w v l):
  Calls Tryz.prog 135 #[v] w fun e w'=>e=.returned (nZ (rd l))∧w'=w:=by
 rcases h with⟨rfl,rfl|⟨f,c,rfl⟩⟩|⟨b,d,c,rfl,g,i,a⟩
 ·exact XG _ _ w
 ·exact XG _ _ w
 exact qsb b d c l w (by omega) a
theorem yz{l:az}(w:World)(hl:l.length<=1000000000)(h:Rd w v l):
  Calls Tryz.prog 105 #[v] w fun e w'=>∃v,e=.returned v∧xO w w' v l∧ah w w':=by
 rcases h with⟨rfl,rfl|⟨i,c,rfl⟩⟩|⟨b,d,c,rfl,f,g,a⟩
 ·exact TA _ _ w
 ·exact TA _ _ w
 exact qaki b d c l w hl f g a
theorem qwu{l:az}(w:World)(hl:l.length<=1000000000)(h:Rd w v l):
  Calls Tryz.prog 65 #[v] w fun e w'=>∃v,e=.returned v∧xO w w' v l∧ah w w':=by
 rcases h with⟨rfl,rfl|⟨i,c,rfl⟩⟩|⟨b,d,c,rfl,f,g,a⟩
 ·exact qwt _ _ w
 ·exact qwt _ _ w
 exact qaf2 b d c l w hl f g a
def mr (l:az):ByteArray:=match ct l with|none=>ByteArray.empty|some (t,_)=>bs t
def xP (l:az):Int:=match ct l with|none=>8|some _=>0
def oP (l:az):az:=match ct l with|none=>[]|some (_,r)=>r
theorem Qq{l:az}(h:xO w w' v l):∃x,v=.tuple #[.string (mr l),x,.int .i64 (xP l)]∧w'.ownsRow w.heap.size 5 1 x (oP l).length (bO (oP l)):=by
 rcases h with⟨h,rfl⟩|⟨t,r,x,h,rfl,a⟩
 ·exact⟨.slice none 0 0,by simp[mr,xP,h],by simp only[oP,h];exact Xa7 _ _ _ _⟩
 exact⟨x,by simp[mr,xP,h],by simp only[oP,h];exact a⟩
theorem Tryz.infoFl:(Tryz.prog.info? 98).map (fun i=>(i.zero,i.size,i.bytes))=some (some (.agg #[.string ByteArray.empty,.slice none 0 0]),2,40):=by kernel_rfl
def gL (fs:List Fl):Prop:=∀f∈fs,∀x∈f.2,jg x
theorem TB(h:gL fs):∀x∈cz fs,jg x:=by
 intro x a;obtain⟨f,b,a⟩:=List.mem_flatMap.1 a;exact h f b x a
/-! ### what is read -/
def Fy (w:World) (b off:Nat) (fs:List Fl):Prop:=
 ∀j,(h:j<fs.length)->w.cell? ⟨b,off+j*2,none⟩=some (.string (bs (fs[j]).1))∧
  ∃a c,w.cell? ⟨b,off+j*2+1,none⟩=some (.slice a (fs[j]).2.length c)∧iB w (.slice a (fs[j]).2.length c) (fs[j]).2
def fQ (w:World) (v:Value) (fs:List Fl):Prop:=
 (fs=[]∧(v=.slice none 0 0∨∃a c,v=.slice (some a) 0 c))∨
 ∃b off c,v=.slice (some ⟨b,off,none⟩) fs.length c∧fs.length<=c∧c<=maxLen∧Fy w b off fs
theorem Fy.a{b d:Nat}(h:Fy w b d fs)(hb:ah w w'):Fy w' b d fs:=by
 intro j g;obtain⟨e,a,c,f,i⟩:=h j g;refine⟨?_,a,c, ?_,i.a hb⟩
 ·rw[hb.cell (Xa6 w _ e)];exact e
 rw[hb.cell (Xa6 w _ f)];exact f
theorem fQ.a(h:fQ w v fs)(hb:ah w w'):fQ w' v fs:=by
 rcases h with h|⟨b,a,c,rfl,d,e,hl⟩
 ·exact .inl h
 exact .inr ⟨b,a,c,rfl,d,e,hl.a hb⟩
theorem fQ.form(h:fQ w v fs):∃a c,v=.slice a fs.length c:=by
 rcases h with⟨rfl,rfl|⟨a,c,rfl⟩⟩|⟨b,d,c,rfl,_⟩<;>exact⟨_,_,rfl⟩
theorem fQ.len_le(h:fQ w v fs):fs.length<=maxLen:=by
 rcases h with⟨rfl,_⟩|⟨b,a,c,rfl,d,e,_⟩
 ·simp[maxLen]
 omega
theorem fQ.at{a:aA}(h:fQ w (.slice a n c) fs)(j:Nat)(f:j<fs.length):
  ∃b d a2 c2,a=some ⟨b,d,none⟩∧w.cell? ⟨b,d+j*2,none⟩=some (.string (bs (fs[j]).1))∧w.cell? ⟨b,d+j*2+1,none⟩=some (.slice a2 (fs[j]).2.length c2)∧iB w (.slice a2 (fs[j]).2.length c2) (fs[j]).2:=by
 rcases h with⟨rfl,_⟩|⟨b,d,m,e,_,_,g⟩
 ·exact absurd f (by simp)
 cases e;obtain⟨i,a2,c2,k,l⟩:=g j f;exact⟨b,d,a2,c2,rfl,i,k,l⟩
theorem fQ.atB{a:aA}(h:fQ w (.slice a n c) fs)(hb:ah w w')(j:Nat)(i:j<fs.length):
  ∃b d a2 c2,a=some ⟨b,d,none⟩∧w'.cell? ⟨b,d+j*2,none⟩=some (.string (bs (fs[j]).1))∧w'.cell? ⟨b,d+j*2+1,none⟩=some (.slice a2 (fs[j]).2.length c2)∧iB w (.slice a2 (fs[j]).2.length c2) (fs[j]).2:=by
 obtain⟨b,d,a2,c2,e,f,g,k⟩:=h.at j i;refine⟨b,d,a2,c2,e, ?_, ?_,k⟩
 ·rw[hb.cell (Xa6 w _ f)];exact f
 rw[hb.cell (Xa6 w _ g)];exact g
/-! ### what is owned -/
def eQ (ps:List (Fl×Value)):List Value:=ps.flatMap fun p=>[.string (bs p.1.1),p.2]
theorem AP(p:Fl×Value)(a:List (Fl×Value)):eQ (p::a)=.string (bs p.1.1)::p.2::eQ a:=rfl
theorem TC(a qs:List (Fl×Value)):eQ (a++qs)=eQ a++eQ qs:=by simp[eQ]
theorem Bp:∀a:List (Fl×Value),(eQ a).length=a.length*2
 |[]=>rfl
 |p::a=>by rw[AP,Xb0,Xb0,Xb0,Bp a];omega
theorem nY:∀(a:List (Fl×Value)) (j:Nat) (h:j<a.length),(eQ a)[j*2]? =some (.string (bs (a[j]).1.1))∧(eQ a)[j*2+1]? =some (a[j]).2
 |p::a,0,h=>by simp[eQ]
 |p::a,j+1,h=>by
  have:=nY a j (by simpa using h)
  rw[AP,show(j+1)*2=j*2+1+1 by omega];simpa using this
theorem qhr(a:List (Fl×Value))(k:Nat)(h:k<=a.length):(eQ a).take (k*2)=eQ (a.take k):=by
 have e:eQ a=eQ (a.take k)++eQ (a.drop k):=by rw[<-TC,Xc0]
 have b:(eQ (a.take k)).length=k*2:=by rw[Bp,Xa4,Xc3 h]
 rw[e,<-b,List.take_left]
theorem qlz(a:List (Fl×Value))(k:Nat)(h:k<=a.length):(eQ a).drop (k*2)=eQ (a.drop k):=by
 have e:eQ a=eQ (a.take k)++eQ (a.drop k):=by rw[<-TC,Xc0]
 have b:(eQ (a.take k)).length=k*2:=by rw[Bp,Xa4,Xc3 h]
 rw[e,<-b,List.drop_left]
theorem bA.ownForm(h:bA w base v l):v.oneCell'=true:=by
 rcases h.2 with⟨rfl,_⟩|⟨g,cap,a,rfl,_⟩<;>rfl
theorem qn8(h:∀p∈b,bA w base p.2 p.1.2):∀u∈eQ b,u.oneCell'=true:=by
 intro u a;obtain⟨p,c,a⟩:=List.mem_flatMap.1 a;simp at a
 rcases a with rfl|rfl
 ·rfl
 exact(h p c).ownForm
def jX (w:World) (base:Nat) (v:Value) (ps:List (Fl×Value)):Prop:=w.ownsRow base 98 2 v ps.length (eQ ps)∧∀p∈ps,bA w base p.2 p.1.2
def bi (w:World) (base:Nat) (v:Value) (fs:List Fl):Prop:=∃ps,ps.map Prod.fst=fs∧jX w base v ps
theorem jX.rd(h:jX w base v b):fQ w v (b.map Prod.fst):=by
 obtain⟨h,hi⟩:=h;rcases h.2 with⟨rfl,e⟩|⟨g,cap,k,rfl,_,p,e,l,m,f⟩
 ·obtain rfl:=Xb6.1 e
  exact .inl ⟨rfl,.inl rfl⟩
 refine .inr ⟨g,0,cap,by simp,by simpa using e,l,fun j n=>?_⟩;have d:j<b.length:=by simpa using n
 obtain⟨e1,o⟩:=nY b j d;have c1:=h.cells (g:=g) rfl _ _ e1;have c2:=h.cells (g:=g) rfl _ _ o;rw[Addr.add_lit]at c1 c2;have i:=(hi b[j] (Xa3 d)).rd;obtain⟨a,c,hv⟩:=i.form;simp only[List.getElem_map];refine⟨by simpa using c1,a,c, ?_, ?_⟩
 ·rw[hv]at c2;simpa [Nat.add_assoc]using c2
 rw[<-hv];exact i
theorem bi.rd(h:bi w base v fs):fQ w v fs:=by obtain⟨a,rfl,h⟩:=h;exact h.rd
theorem bi.form(h:bi w base v fs):∃a c,v=.slice a fs.length c:=h.rd.form
theorem jX.a{a:List (Fl×Value)}(h:jX w base v a)(hb:ah w w'):jX w' base v a:=⟨pI h.1 hb,fun p b=>(h.2 p b).a hb⟩
theorem bi.a(h:bi w base v fs)(hb:ah w w'):bi w' base v fs:=by obtain⟨a,e,h⟩:=h;exact⟨a,e,h.a hb⟩
theorem jX.mono{a:Nat}(h:jX w base v b)(hb:a<=base):jX w a v b:=⟨EY h.1 hb,fun p c=>(h.2 p c).mono hb⟩
theorem bi.mono{a:Nat}(h:bi w base v fs)(hb:a<=base):bi w a v fs:=by obtain⟨b,e,h⟩:=h;exact⟨b,e,h.mono hb⟩
theorem jX.nil(w:World)(base:Nat):jX w base (.slice none 0 0) []:=⟨Xa7 w base _ _,by simp⟩
theorem bi.nil(w:World)(base:Nat):bi w base (.slice none 0 0) []:=⟨[],rfl,jX.nil w base⟩
theorem bA.apartF(h:bA w base v l){k:Nat}{cs:Array Value}{b:Nat×Nat}(c:w.heap[k]? =some (.cells cs 98 b)):v.ownBlock≠some k:=by
 intro e;rcases h.2 with⟨rfl,f⟩|⟨g,cap,d,rfl,_,a,_⟩
 ·cases e
 cases e;rw[c]at a;cases a
theorem bA.keptF(h:bA w base v l){b:Value}{xs:List Value}(d:w.ownsRow c 98 2 b n xs)(a:w.grownBy w' b.ownBlock):bA w' base v l:=by
 refine World.ownsRow.kept h a ?_
 rcases d.2 with⟨rfl,f⟩|⟨g,cap,e,rfl,_,a,_⟩
 ·cases hv:v.ownBlock with
  |none=>exact .inl rfl
  |some k=>exact .inr (by simp[Value.ownBlock])
 exact .inr (h.apartF a)
theorem TD(w:World)(cs:Array Value)(t:TypeId):∀j u,cs.toList[j]? =some u->(w.alloc (.cells cs t)).cell? ((⟨w.heap.size,0,none⟩:Addr).add j)=some u:=by
 intro j u a;have:=World.news_of_block (w:=w.alloc (.cells cs t)) (heap_alloc_new w _) j u (by simpa using a)
 simpa using this
theorem qwv{a:List (Fl×Value)}(h:jX w base v a)(hb:base<=w.heap.size)(hl:a.length<=1000000)(s:az)(x:Value)(l:List Ex)(y:bA w base x l):
  ∃g c w',(Builtin.append_ #[29,29] 29 #[v,.slice (some ⟨w.heap.size,0,none⟩) 1 1]).run Tryz.prog (w.alloc (.cells #[.string (bs s),x] 98))=.ok (.slice (some ⟨g,0,none⟩) (a.length+1) c) w'∧
   jX w' base (.slice (some ⟨g,0,none⟩) (a.length+1) c) (a++[((s,l),x)])∧Below base w w':=by
 obtain⟨i,z⟩:=ak (w.alloc (.cells #[.string (bs s),x] 98));have A:=TD w #[.string (bs s),x] 98;rw[<-z]at A⊢;have b:ah w i:=by rw[z];exact ae
 obtain⟨E,hi,j,m,n⟩:=info_parts Tryz.infoFl;have o:i.ownsRow base 98 2 v a.length (eQ a):=pI h.1 b;obtain⟨J,q,F,B,C,_⟩:=run_append_own (P:=Tryz.prog) i base 29 29 98 E _ 2 40 Tryz.underlying29 hi j m n rfl (by decide) _ _ _ o ⟨w.heap.size,0,none⟩ 1 1 [.string (bs s),x] rfl A (by
  intro u D;simp at D
  rcases D with rfl|rfl
  ·rfl
  exact y.ownForm) (by unfold maxLen;omega) (by omega) (aG hb b.size)
 have G:Below base w q:=(b.mono hb).grown C (aG hb b.size) fun k H=>(o.lt k H).1
 have e:eQ (a++[((s,l),x)])=eQ a++[.string (bs s),x]:=by rw[TC];rfl
 have r:(a++[((s,l),x)]).length=a.length+1:=by simp
 have t:∀p∈a++[((s,l),x)],bA q base p.2 p.1.2:=by
  intro p d;have f:bA i base p.2 p.1.2:=by
   rcases Xa5.1 d with d|d
   ·exact(h.2 p d).a b
   obtain rfl:p=((s,l),x):=by simpa using d
   exact y.a b
  exact f.keptF o C
 rcases B.2 with⟨_,f⟩|⟨g,cap,I,f,_⟩
 ·exact absurd f (by omega)
 subst f;exact⟨g,cap,q,F,⟨by rw[r,e];exact B,t⟩,G⟩
theorem Hm{f:List Ex}(o:bA w base v f)(hb:base<=w.heap.size){a:aA}(h:iB w (.slice a n c) l)(E:n=l.length)(hl:f.length+l.length<=1000000):
  ∃b g w',(Builtin.append_ #[96,96] 96 #[v,.slice a n c]).run Tryz.prog w=.ok (.slice b (f++l).length g) w'∧bA w' base (.slice b (f++l).length g) (f++l)∧Below base w w':=by
 subst E;obtain⟨C,hi,t,y,z⟩:=info_parts Tryz.infoEx;have A:w.ownsRow base 237 2 v f.length (cellsE f):=o;have p:∀s:Addr,a=some s->(∀j u,(cellsE l)[j]? =some u->w.cell? (s.add j)=some u)->∃b g w',(Builtin.append_ #[96,96] 96 #[v,.slice a l.length c]).run Tryz.prog w=.ok (.slice b (f++l).length g) w'∧bA w' base (.slice b (f++l).length g) (f++l)∧Below base w w':=by
  rintro s rfl F;obtain⟨N,D,G,B,H,_⟩:=run_append_own (P:=Tryz.prog) w base 96 96 237 C _ 2 16 Tryz.underlying96 hi t y z rfl (by decide) _ _ _ A s l.length c (cellsE l) (Sr l) F (qyt l) (by unfold maxLen;omega) (by omega) hb;have I:Below base w D:=aF.grown H hb fun k J=>(A.lt k J).1
  rw[<-Xa0,<-yJ]at B;obtain⟨b,g,rfl⟩:=bA.form (l:=f++l) B;exact⟨b,g,D,G,B,I⟩
 rcases h with⟨rfl,e|⟨x,d,e⟩⟩|⟨b,K,g,e,O,Q,i⟩
 ·cases e
  obtain⟨b,g,rfl⟩:=o.form;refine⟨b,g,w, ?_,by simpa using o,aF⟩;rw[Xc8];exact run_append_owned_none (P:=Tryz.prog) (w:=w) base 96 96 237 C 2 Tryz.underlying96 hi _ _ _ A
 ·cases e
  exact p _ rfl (fun j u m=>by simp[cellsE]at m)
 cases e;refine p _ rfl fun j u m=>?_
 have L:j<l.length*2:=by rw[<-Sr];exact(List.getElem?_eq_some_iff.1 m).1
 rw[Addr.add_lit];obtain⟨q,R⟩:=ak (j / 2);have r:q<l.length:=by omega
 obtain⟨c1,c2⟩:=i q r;obtain⟨e1,M⟩:=yn l q r;rcases Nat.mod_two_eq_zero_or_one j with o|o
 ·obtain rfl:j=q*2:=by omega
  rw[e1]at m;cases m;exact c1
 obtain rfl:j=q*2+1:=by omega
 rw[M]at m;cases m;exact c2
end Go.Proofs.YtmeaiocohalphaaGreatDoor

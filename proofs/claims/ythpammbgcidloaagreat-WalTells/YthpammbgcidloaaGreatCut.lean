/-
  What code.Text, code.Cut, bytes.Clone and the document's Text and Cut do.
-/
import Derived.Test.YthpammbgcidloaaGreatSmall
import Derived.Deep.QuietTactic
set_option maxHeartbeats 400000
set_option maxRecDepth 100000
namespace Go.Proofs.YthpammbgcidloaaGreat
open Go.RowKit
theorem CL (a:au) (c:Nat) (w:World):
  Calls Tryz.prog 200 #[.slice a 0 c] w fun e w'=>e=.returned (qm none)∧w'=w:=by
 go_enter Tryz.func200,Tryz.ntmps200;go_wp2;go_loop [5,10] (fun n i=>n=.int .u64 0∧i=.int .i64 0) (fun _ _=>0)
 case atStart=>exact ⟨rfl,rfl⟩
 case round=>
  obtain ⟨rfl,rfl⟩:=hrel;go_wp2;go_ret3;exact ⟨rfl,rfl⟩
theorem qv5 (b p c:Nat) (l:ak) (w:World) (d:∀j,(h:j<l.length)->w.cell? ⟨b,p+j,none⟩=some (.int .u8 (l[j]).toNat)):
  Calls Tryz.prog 200 #[.slice (some ⟨b,p,none⟩) l.length c] w fun e w'=>e=.returned (qm (rd l))∧w'=w:=by
 go_enter Tryz.func200,Tryz.ntmps200;go_wp2;go_loop [5,10] (fun n i=>∃(k a:Nat),k<=l.length∧k<=9∧n=.int .u64 a∧i=.int .i64 k∧a<128 ^ k∧rd l=ig (l.drop k) k a) (fun _ i=>l.length - (intOf i).toNat)
 case atStart=>exact ⟨0,0,Nat.zero_le _,Nat.zero_le _,rfl,rfl,by decide,by simp [rd]⟩
 case round=>
  obtain ⟨k,a,v,y,rfl,rfl,f,q⟩:=hrel;have g:af (rd l=ig (l.drop k) k a):=q;have r:af (a<128 ^ k):=f;clear q f;by_cases s:k<l.length
  ·have u:=d k s
   have m:af (l.drop k=l[k]::l.drop (k+1)):=List.drop_eq_getElem_cons s;obtain ⟨x,t⟩:=ai (l[k]);rw [<-t] at u m;clear d t;have z:=x.toNat_lt;go_wp2
   ·obtain rfl:k=9:=by omega
    go_ret3;rw [g.o,m.o,Vj (by omega)];exact ⟨rfl,rfl⟩
   ·obtain rfl:k=9:=by omega
    go_ret3;rw [g.o,m.o,Yu (by omega) (by omega)];exact ⟨rfl,rfl⟩
   ·obtain rfl:k=9:=by omega
    go_ret3;rw [g.o,m.o,M6 (by omega) (by omega) (by omega)];exact ⟨by rw [Yw a x.toNat r.o (by omega)];rfl,rfl⟩
   ·go_round
    case rel=>exact ⟨k+1,a+x.toNat % 128*128 ^ k,by omega,by omega,by rw [qzk a k x.toNat r.o (by omega)],by go_num,qvk r.o,by rw [g.o,m.o,Yt (by omega) (by omega)]⟩
    case measure=>simp [intOf]<;>omega
   ·go_ret3
    rw [g.o,m.o,Yu (by omega) (by omega)];exact ⟨rfl,rfl⟩
   ·obtain rfl:k=0:=by omega
    go_ret3;rw [g.o,m.o,M6 (by omega) (by omega) (by omega)];obtain rfl:a=0:=by have:=r.o;omega
    exact ⟨by simp [qm, *];rfl,rfl⟩
   ·go_ret3
    rw [g.o,m.o,M6 (by omega) (by omega) (by omega)];exact ⟨by rw [qzk a k x.toNat r.o (by omega),Nat.mod_eq_of_lt (by omega)];rfl,rfl⟩
  ·go_wp2
   go_ret3;have e:l.drop k=[]:=List.drop_eq_nil_of_le (by omega);rw [g.o,e];exact ⟨rfl,rfl⟩
theorem qr3 (a:au) (c:Nat) (w:World):
  Calls Tryz.prog 165 #[.slice a 0 c] w fun e w'=>e=.returned (qm none)∧w'=w:=by
 go_enter Tryz.func165,Tryz.ntmps165;go_wp2;go_loop [5] (fun i=>i=.int .i64 0) (fun _=>0)
 case atStart=>rfl
 case round=>
  obtain rfl:=hrel;go_wp2;go_ret3;exact ⟨rfl,rfl⟩
theorem qaax (b A c:Nat) (l:ak) (w:World) (hl:l.length<=1000000000000) (g:∀j,(h:j<l.length)->w.cell? ⟨b,A+j,none⟩=some (.int .u8 (l[j]).toNat)):
  Calls Tryz.prog 165 #[.slice (some ⟨b,A,none⟩) l.length c] w fun e w'=>e=.returned (qm (rd l))∧w'=w:=by
 go_enter Tryz.func165,Tryz.ntmps165;go_wp2;go_loop [5] (fun i=>∃k:Nat,k<=l.length∧k<=10∧i=.int .i64 k∧∀j,(h:j<l.length)->j<k->128<=(l[j]).toNat) (fun i=>l.length - (intOf i).toNat)
 case atStart=>exact ⟨0,Nat.zero_le _,Nat.zero_le _,rfl,fun j _ h=>by omega⟩
 case round=>
  obtain ⟨k,hk,Q,rfl,B⟩:=hrel;have t:af (∀j,(h:j<l.length)->j<k->128<=(l[j]).toNat):=B;clear B;have K:af (∀j,(h:j<l.length)->w.cell? ⟨b,A+j,none⟩=some (.int .u8 (l[j]).toNat)):=g;clear g;by_cases a:k<l.length
  ·have R:=K.o k a
   obtain ⟨x,L⟩:=ai (l[k]);rw [<-L] at R;have m:af (x=l[k]):=L;clear L;have hb:=x.toNat_lt;have S:(k:Int)<l.length:=by omega
   by_cases V:k<10
   ·have T:(k:Int)<10:=by omega
    by_cases M:128<=x.toNat
    ·have C:(128:Int)<=x.toNat:=by omega
     go_wp2;go_round
     case rel=>exact ⟨k+1,by omega,by omega,by go_num,fun j h N=>by
      by_cases e:j=k
      ·subst e;rw [<-m.o];exact M
      ·exact t.o j h (by omega)⟩
     case measure=>simp [intOf]<;>omega
    ·have C:(x.toNat:Int)<128:=by omega
     by_cases W:k=9
     ·subst W
      by_cases X:1<x.toNat
      ·have O:(1:Int)<x.toNat:=by omega
       go_wp2;go_ret3;rw [F8 l a t.o (by rw [<-m.o];exact X)];exact ⟨rfl,rfl⟩
      ·have O:(x.toNat:Int)<=1:=by omega
       by_cases D:x.toNat=0
       ·go_wp2
        go_ret3;rw [qz9 l 9 a (by omega) (by omega) t.o (by rw [<-m.o];exact D)];exact ⟨rfl,rfl⟩
       ·have E:af (hvd l 9 0<18446744073709551616):=ZV l 9 a (by omega) (fun _=>by rw [<-m.o];omega)
        have F:af (rd l=some (hvd l 9 0,9+1)):=rd_some l 9 a (by omega) t.o (by rw [<-m.o];omega) (fun _=>by rw [<-m.o];omega) (by rw [<-m.o];omega);have P:((x.toNat:Int)==0)=false:=by simpa using D
        go_wp2;go_loop [6,7] (fun n i=>∃j:Nat,j<=9+1∧i=.int .i64 ((j:Int) - 1)∧n=.int .u64 (hvd l 9 j:Nat)) (fun _ i=>(intOf i+1).toNat)
        case atStart=>exact ⟨9+1,Nat.le_refl _,by go_num,by rw [ZU];rfl⟩
        case round=>
         obtain ⟨j,N,rfl,rfl⟩:=hrel;by_cases p:j=0
         ·subst p
          go_wp2;go_ret3;rw [F.o];exact ⟨rfl,rfl⟩
         ·obtain ⟨i,rfl⟩:∃i,j=i+1:=⟨j - 1,by omega⟩
          have q:=K.o i (by omega);have f:=VO l 9 i (by omega) a;have r:=VP l 9 a i (by omega);have s:=E.o;obtain ⟨y,u⟩:=ai (l[i]);rw [<-u] at q f;have G:=y.toNat_lt;obtain ⟨d,v⟩:=ai (hvd l 9 (i+1));rw [<-v] at f ⊢;have H:af (hvd l 9 i=y.toNat % 128+128*d):=f;have I:128*d+y.toNat % 128<18446744073709551616:=by omega
          clear f v r s u;have J:(i:Int)<l.length:=by omega
          have z:((i+1:Nat):Int) - 1=(i:Int):=by omega
          rw [z];clear z;go_wp2;go_round
          case rel=>exact ⟨i,by omega,by go_num,by rw [H.o];go_num⟩
          case measure=>simp [intOf]<;>omega
     ·have Y:¬(k:Int)=9:=by omega
      by_cases Z:0<k
      ·have U:(0:Int)<k:=by omega
       by_cases D:x.toNat=0
       ·go_wp2
        go_ret3;rw [qz9 l k a (by omega) (by omega) t.o (by rw [<-m.o];exact D)];exact ⟨rfl,rfl⟩
       ·have E:af (hvd l k 0<18446744073709551616):=ZV l k a (by omega) (fun h=>by omega)
        have F:af (rd l=some (hvd l k 0,k+1)):=rd_some l k a (by omega) t.o (by rw [<-m.o];omega) (fun h=>by omega) (by rw [<-m.o];omega);have P:((x.toNat:Int)==0)=false:=by simpa using D
        go_wp2;go_loop [6,7] (fun n i=>∃j:Nat,j<=k+1∧i=.int .i64 ((j:Int) - 1)∧n=.int .u64 (hvd l k j:Nat)) (fun _ i=>(intOf i+1).toNat)
        case atStart=>exact ⟨k+1,Nat.le_refl _,by go_num,by rw [ZU];rfl⟩
        case round=>
         obtain ⟨j,N,rfl,rfl⟩:=hrel;by_cases p:j=0
         ·subst p
          go_wp2;go_ret3;rw [F.o];exact ⟨rfl,rfl⟩
         ·obtain ⟨i,rfl⟩:∃i,j=i+1:=⟨j - 1,by omega⟩
          have q:=K.o i (by omega);have f:=VO l k i (by omega) a;have r:=VP l k a i (by omega);have s:=E.o;obtain ⟨y,u⟩:=ai (l[i]);rw [<-u] at q f;have G:=y.toNat_lt;obtain ⟨d,v⟩:=ai (hvd l k (i+1));rw [<-v] at f ⊢;have H:af (hvd l k i=y.toNat % 128+128*d):=f;have I:128*d+y.toNat % 128<18446744073709551616:=by omega
          clear f v r s u;have J:(i:Int)<l.length:=by omega
          have z:((i+1:Nat):Int) - 1=(i:Int):=by omega
          rw [z];clear z;go_wp2;go_round
          case rel=>exact ⟨i,by omega,by go_num,by rw [H.o];go_num⟩
          case measure=>simp [intOf]<;>omega
      ·obtain rfl:k=0:=by omega
       rw [Nat.add_zero] at R;have aa:¬l=[]:=by intro e;rw [e] at a;simp at a
       have E:af (hvd l 0 0<18446744073709551616):=ZV l 0 a (by omega) (fun h=>by omega);have F:af (rd l=some (hvd l 0 0,0+1)):=rd_some l 0 a (by omega) t.o (by rw [<-m.o];omega) (fun h=>by omega) (by omega);go_wp2;go_loop [6,7] (fun n i=>∃j:Nat,j<=0+1∧i=.int .i64 ((j:Int) - 1)∧n=.int .u64 (hvd l 0 j:Nat)) (fun _ i=>(intOf i+1).toNat)
       case atStart=>exact ⟨0+1,Nat.le_refl _,by go_num,by rw [ZU];rfl⟩
       case round=>
        obtain ⟨j,N,rfl,rfl⟩:=hrel;by_cases p:j=0
        ·subst p
         go_wp2;go_ret3;rw [F.o];exact ⟨rfl,rfl⟩
        ·obtain ⟨i,rfl⟩:∃i,j=i+1:=⟨j - 1,by omega⟩
         have q:=K.o i (by omega);have f:=VO l 0 i (by omega) a;have r:=VP l 0 a i (by omega);have s:=E.o;obtain ⟨y,u⟩:=ai (l[i]);rw [<-u] at q f;have G:=y.toNat_lt;obtain ⟨d,v⟩:=ai (hvd l 0 (i+1));rw [<-v] at f ⊢;have H:af (hvd l 0 i=y.toNat % 128+128*d):=f;have I:128*d+y.toNat % 128<18446744073709551616:=by omega
         clear f v r s u;have J:(i:Int)<l.length:=by omega
         have z:((i+1:Nat):Int) - 1=(i:Int):=by omega
         rw [z];clear z;go_wp2;go_round
         case rel=>exact ⟨i,by omega,by go_num,by rw [H.o];go_num⟩
         case measure=>simp [intOf]<;>omega
   ·obtain rfl:k=10:=by omega
    go_wp2;go_ret3;rw [F7 l (by omega) t.o];exact ⟨rfl,rfl⟩
  ·go_wp2
   go_ret3;rw [F6 l (by omega) (fun j h=>t.o j h (by omega))];exact ⟨rfl,rfl⟩
theorem qF (s:ByteArray) (w:World) (h:s.size<=1000000000):
  Calls Tryz.prog 218 #[.string s] w fun e w'=>∃v,e=.returned v∧w'.ownsRow w.heap.size 5 1 v (tx s.data.toList).length (bW (tx s.data.toList))∧ah w w':=by
 have d:s.data.toList.length=s.size:=by rw [Array.length_toList];rfl
 have i:=rF (n:=s.size) (by omega);go_enter Tryz.func218,Tryz.ntmps218;go_wp2_with fail
 refine (qr2 s.size _ (by omega)).mono ?_
 rintro e f ⟨v,rfl,b,c⟩;go_wp2_with (at_builtin;go_must (refine qip w f rfl (.tmp 6) (.tmp 7) 22 9 rfl w.heap.size 5 Tryz.underlying22 Tryz.underlying9 Tryz.infoB _ _ b rfl c aI s rfl (by omega) ?_);intro j k a g)
 go_ret;unfold tx;rw [d];exact ⟨_,rfl,a,g⟩
theorem Qq (s:ByteArray) (w:World) (h:s.size<=1000000000):
  Calls Tryz.prog 162 #[.string s] w fun e w'=>∃v,e=.returned v∧w'.ownsRow w.heap.size 5 1 v (tx s.data.toList).length (bW (tx s.data.toList))∧ah w w':=by
 have d:s.data.toList.length=s.size:=by rw [Array.length_toList];rfl
 have i:=rF (n:=s.size) (by omega);go_enter Tryz.func162,Tryz.ntmps162;go_wp2_with fail
 refine (qoh s.size _ (by omega)).mono ?_
 rintro e f ⟨v,rfl,b,c⟩;go_wp2_with (at_builtin;go_must (refine qip w f rfl (.tmp 6) (.tmp 7) 22 9 rfl w.heap.size 5 Tryz.underlying22 Tryz.underlying9 Tryz.infoB _ _ b rfl c aI s rfl (by omega) ?_);intro j k a g)
 go_ret;unfold tx;rw [d];exact ⟨_,rfl,a,g⟩
theorem qx9 (b a c:Nat) (l:ak) (w:World) (m:l.length<=1000000000) (d:∀j,(h:j<l.length)->w.cell? ⟨b,a+j,none⟩=some (.int .u8 (l[j]).toNat)):
  Calls Tryz.prog 173 #[.slice (some ⟨b,a,none⟩) l.length c] w fun e w'=>∃v,e=.returned v∧w'.ownsRow w.heap.size 5 1 v l.length (bW l)∧ah w w':=by
 have g:af (∀j,(h:j<l.length)->w.cell? ⟨b,a+j,none⟩=some (.int .u8 (l[j]).toNat)):=d;clear d;have n:=fun i=>Lib.run_eql_slice_nil (P:=Tryz.prog) i 22 5 (some ⟨b,a,none⟩) l.length c 0 0 Tryz.underlying22
 go_enter Tryz.func173,Tryz.ntmps173;go_wp2_with (at_builtin;go_must (refine qli w (w.alloc (.cells #[] 5)) rfl (.tmp 5) (.tmp 6) 22 rfl w.heap.size 5 Tryz.underlying22 Tryz.infoB _ [] (World.ownsRow_made w #[] 0 aI (by decide) rfl) rfl (ae) aI b a c l.length l rfl rfl (fun j h=>(World.cell?_alloc_lt _ _ _ (World.block_lt_of_cell? w _ (g.o j h))).trans (g.o j h)) (by simp;omega) ?_);intro p q f k _)
 go_ret;exact ⟨_,rfl,f,k⟩
theorem qpy (b a c m:Nat) (l:ak) (w:World) (f:l.length=m) (g:m<=1000000000) (d:∀j,(h:j<l.length)->w.cell? ⟨b,a+j,none⟩=some (.int .u8 (l[j]).toNat)):
  Calls Tryz.prog 173 #[.slice (some ⟨b,a,none⟩) m c] w fun e w'=>∃v,e=.returned v∧w'.ownsRow w.heap.size 5 1 v l.length (bW l)∧ah w w':=by
 subst f;exact qx9 b a c l w g d
def CF (w w':World) (v:Value) (l:ak):Prop:=
 (ct l=none∧v=.tuple #[.string ByteArray.empty,.slice none 0 0,.int .i64 8])∨
 ∃t r x,ct l=some (t,r)∧v=.tuple #[.string (bs t),x,.int .i64 0]∧w'.ownsRow w.heap.size 5 1 x r.length (bW r)
theorem Pb (a:au) (c:Nat) (w:World):
  Calls Tryz.prog 201 #[.slice a 0 c] w fun e w'=>∃v,e=.returned v∧CF w w' v []∧ah w w':=by
 go_enter Tryz.func201,Tryz.ntmps201;go_wp2_with fail
 refine (CL a c _).mono ?_
 rintro e b ⟨rfl,rfl⟩;unfold qm;go_wp2;go_ret3;exact ⟨_,rfl,.inl ⟨rfl,rfl⟩,aB⟩
theorem Mg (b a c:Nat) (l:ak) (w:World) (P:l.length<=1000000000) (J:l.length<=c) (K:c<=maxLen) (i:∀j,(h:j<l.length)->w.cell? ⟨b,a+j,none⟩=some (.int .u8 (l[j]).toNat)):
  Calls Tryz.prog 201 #[.slice (some ⟨b,a,none⟩) l.length c] w fun e w'=>∃v,e=.returned v∧CF w w' v l∧ah w w':=by
 have t:af (∀j,(h:j<l.length)->w.cell? ⟨b,a+j,none⟩=some (.int .u8 (l[j]).toNat)):=i;clear i;go_enter Tryz.func201,Tryz.ntmps201;go_wp2_with fail
 refine (qv5 b a c l _ t.o).mono ?_
 rintro e s ⟨rfl,rfl⟩;cases hr:rd l with
 | none=>
  have y:af (rd l=none):=hr;clear hr;unfold qm;go_wp2;go_ret3;exact ⟨_,rfl,.inl ⟨ZX y.o,rfl⟩,aB⟩
 | some p=>
  obtain ⟨n,k⟩:=p;obtain ⟨L,M,D,Q⟩:=NM hr;have y:af (rd l=some (n,k)):=hr;clear hr;unfold qm;by_cases E:n<=l.length - k
  ·have z:af (ct l=some ((l.drop k).take n,l.drop (k+n))):=NN y.o E
   have m:((l.drop k).take n).length=n:=by simp;omega
   have r:(l.drop (k+n)).length=l.length - k - n:=by simp;omega
   by_cases A:k=c
   ·subst A
    obtain rfl:n=0:=by omega
    have F:Rd s (.slice (some ⟨b,a,none⟩) 0 0) []:=.inl ⟨rfl,.inr ⟨_,_,rfl⟩⟩;have G:∀f,Rd f (.slice (some ⟨b,a,none⟩) 0 0) []->(convert 22 9 (.slice (some ⟨b,a,none⟩) 0 0)).run Tryz.prog f=.ok (.string (bs [])) f:=fun f h=>ik _ _ _ Tryz.underlying22 Tryz.underlying5 Tryz.underlying9 h
    have g:(l.drop k).length=0:=by simp;omega
    have q:af ((l.drop k).length=0):=g;have u:af (∀j,(h:j<(l.drop k).length)->s.cell? ⟨b,a+j,none⟩=some (.int .u8 ((l.drop k)[j]).toNat)):=fun j h=>by
     exfalso;omega
    have B:af (ct l=some ([],l.drop k)):=by
     have:=z.o
     rw [List.take_zero,Nat.add_zero] at this;exact this
    clear m r g z;go_wp2;go_region_held3 (fun f=>Rd f (.slice (some ⟨b,a,none⟩) 0 0) []) (first | assumption | exact Rd.a (by assumption) (by assumption)) ((go_at_call 173;refine (qpy b a 0 0 (l.drop k) _ q.o (by omega) (by exact u.o)).mono ?_;rintro e H ⟨I,rfl,d,x⟩))
    go_wp2;go_ret3;exact ⟨_,rfl,.inr ⟨_,_,_,B.o,rfl,d⟩,aB.drew.trans x⟩
   ·by_cases N:c - k=n
    ·have F:Rd s (.slice (some ⟨b,a+k,none⟩) n n) ((l.drop k).take n):=.inr ⟨b,a+k,n,by rw [m],by omega,by omega,fun j O=>by
      rw [show a+k+j=a+(k+j) by omega,t.o (k+j) (by omega)];simp⟩
     have G:∀f,Rd f (.slice (some ⟨b,a+k,none⟩) n n) ((l.drop k).take n)->(convert 22 9 (.slice (some ⟨b,a+k,none⟩) n n)).run Tryz.prog f=.ok (.string (bs ((l.drop k).take n))) f:=fun f h=>ik _ _ _ Tryz.underlying22 Tryz.underlying5 Tryz.underlying9 h
     have g:(l.drop (k+n)).length=l.length - k - n:=by omega
     have q:af ((l.drop (k+n)).length=l.length - k - n):=g;have u:af (∀j,(h:j<(l.drop (k+n)).length)->s.cell? ⟨b,a+k+j,none⟩=some (.int .u8 ((l.drop (k+n))[j]).toNat)):=fun j h=>by
      first | (rw [show a+k+j=a+(k+n+j) by omega,t.o (k+n+j) (by omega)];simp;done) | (exfalso;omega)
     have C:(n:Int)<=((c - k:Nat):Int):=by omega
     clear m r g;go_wp2;go_region_held3 (fun f=>Rd f (.slice (some ⟨b,a+k,none⟩) n n) ((l.drop k).take n)) (first | assumption | exact Rd.a (by assumption) (by assumption)) ((go_at_call 173;refine (qpy b (a+k) (0) (l.length - k - n) (l.drop (k+n)) _ q.o (by omega) (by exact u.o)).mono ?_;rintro e H ⟨I,rfl,d,x⟩))
     go_wp2;go_ret3;exact ⟨_,rfl,.inr ⟨_,_,_,z.o,rfl,d⟩,aB.drew.trans x⟩
    ·have F:Rd s (.slice (some ⟨b,a+k,none⟩) n (c - k)) ((l.drop k).take n):=.inr ⟨b,a+k,(c - k),by rw [m],by omega,by omega,fun j O=>by
      rw [show a+k+j=a+(k+j) by omega,t.o (k+j) (by omega)];simp⟩
     have G:∀f,Rd f (.slice (some ⟨b,a+k,none⟩) n (c - k)) ((l.drop k).take n)->(convert 22 9 (.slice (some ⟨b,a+k,none⟩) n (c - k))).run Tryz.prog f=.ok (.string (bs ((l.drop k).take n))) f:=fun f h=>ik _ _ _ Tryz.underlying22 Tryz.underlying5 Tryz.underlying9 h
     have g:(l.drop (k+n)).length=l.length - k - n:=by omega
     have q:af ((l.drop (k+n)).length=l.length - k - n):=g;have u:af (∀j,(h:j<(l.drop (k+n)).length)->s.cell? ⟨b,a+k+n+j,none⟩=some (.int .u8 ((l.drop (k+n))[j]).toNat)):=fun j h=>by
      first | (rw [show a+k+n+j=a+(k+n+j) by omega,t.o (k+n+j) (by omega)];simp;done) | (exfalso;omega)
     have C:(n:Int)<=((c - k:Nat):Int):=by omega
     clear m r g;go_wp2;go_region_held3 (fun f=>Rd f (.slice (some ⟨b,a+k,none⟩) n (c - k)) ((l.drop k).take n)) (first | assumption | exact Rd.a (by assumption) (by assumption)) ((go_at_call 173;refine (qpy b (a+k+n) (c - k - n) (l.length - k - n) (l.drop (k+n)) _ q.o (by omega) (by exact u.o)).mono ?_;rintro e H ⟨I,rfl,d,x⟩))
     go_wp2;go_ret3;exact ⟨_,rfl,.inr ⟨_,_,_,z.o,rfl,d⟩,aB.drew.trans x⟩
  ·go_wp2
   all_goals (go_ret3;exact ⟨_,rfl,.inl ⟨ZY y.o E,rfl⟩,aB⟩)
theorem qr4 {v:Value} {l:ak} (w:World) (h:Rd w v l):
  Calls Tryz.prog 200 #[v] w fun e w'=>e=.returned (qm (rd l))∧w'=w:=by
 rcases h with ⟨rfl,rfl | ⟨f,c,rfl⟩⟩ | ⟨b,d,c,rfl,g,i,a⟩
 ·exact CL _ _ w
 ·exact CL _ _ w
 ·exact qv5 b d c l w a
theorem Wj {v:Value} {l:ak} (w:World) (f:l.length<=1000000000) (h:Rd w v l):
  Calls Tryz.prog 165 #[v] w fun e w'=>e=.returned (qm (rd l))∧w'=w:=by
 rcases h with ⟨rfl,rfl | ⟨g,c,rfl⟩⟩ | ⟨b,d,c,rfl,i,j,a⟩
 ·exact qr3 _ _ w
 ·exact qr3 _ _ w
 ·exact qaax b d c l w (by omega) a
theorem qv6 {v:Value} {l:ak} (w:World) (f:l.length<=1000000000) (h:Rd w v l):
  Calls Tryz.prog 201 #[v] w fun e w'=>∃v,e=.returned v∧CF w w' v l∧ah w w':=by
 rcases h with ⟨rfl,rfl | ⟨j,c,rfl⟩⟩ | ⟨b,d,c,rfl,g,i,a⟩
 ·exact Pb _ _ w
 ·exact Pb _ _ w
 ·exact Mg b d c l w f g i a
def vE (l:ak):ByteArray:=match ct l with | none=>ByteArray.empty | some (t,_)=>bs t
def Gx (l:ak):Int:=match ct l with | none=>8 | some _=>0
def xN (l:ak):ak:=match ct l with | none=>[] | some (_,r)=>r
theorem qr5 {w w':World} {v:Value} {l:ak} (h:CF w w' v l):∃x,v=.tuple #[.string (vE l),x,.int .i64 (Gx l)]∧w'.ownsRow w.heap.size 5 1 x (xN l).length (bW (xN l)):=by
 rcases h with ⟨h,rfl⟩ | ⟨t,r,x,h,rfl,a⟩
 ·exact ⟨.slice none 0 0,by simp [vE,Gx,h],by simp only [xN,h];exact World.ownsRow_nil _ _ _ _⟩
 ·exact ⟨x,by simp [vE,Gx,h],by simp only [xN,h];exact a⟩
end Go.Proofs.YthpammbgcidloaaGreat

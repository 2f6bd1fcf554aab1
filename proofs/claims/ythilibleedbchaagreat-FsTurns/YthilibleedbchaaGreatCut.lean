/-
  What code.Text, code.Cut, bytes.Clone and the document's Text and Cut do.
-/
import Derived.Test.YthilibleedbchaaGreatMathRd
import Derived.Deep.QuietTactic
import Derived.BigQuiet
import Derived.Deep.RegionHeld3
import Derived.Lib.SliceRun
set_option maxHeartbeats 400000
set_option maxRecDepth 100000
namespace Go.Proofs.YthilibleedbchaaGreat
open Go.RowKit
theorem qnk (a:Option Addr) (c:Nat) (w:World):
  Calls Tryz.prog 218 #[.slice a 0 c] w fun e w'=>e=.returned (rdV none)∧w'=w:=by
 go_enter Tryz.func218,Tryz.ntmps218
 go_wp2
 go_loop [5,10] (fun n i=>n=.int .u64 0∧i=.int .i64 0) (fun _ _=>0)
 case atStart=>exact ⟨rfl,rfl⟩
 case round=>
  obtain ⟨rfl,rfl⟩:=hrel;go_wp2;go_ret3;exact ⟨rfl,rfl⟩
theorem qs7 (b off c:Nat) (l:List UInt8) (w:World) (hcell:∀j,(h:j<l.length)→w.cell? ⟨b,off+j,none⟩=some (.int .u8 (l[j]).toNat)):
  Calls Tryz.prog 218 #[.slice (some ⟨b,off,none⟩) l.length c] w fun e w'=>e=.returned (rdV (rd l))∧w'=w:=by
 go_enter Tryz.func218,Tryz.ntmps218
 go_wp2
 go_loop [5,10] (fun n i=>∃(k acc:Nat),k≤l.length∧k≤9∧n=.int .u64 acc∧i=.int .i64 k∧acc<128 ^ k∧rd l=rdGo (l.drop k) k acc) (fun _ i=>l.length - (intOf i).toNat)
 case atStart=>exact ⟨0,0,Nat.zero_le _,Nat.zero_le _,rfl,rfl,by decide,by simp [rd]⟩
 case round=>
  obtain ⟨k,acc,hk,hk9,rfl,rfl,hacc,hrd⟩:=hrel;have HR:Hid (rd l=rdGo (l.drop k) k acc):=hrd;have HA:Hid (acc<128 ^ k):=hacc;clear hrd hacc
  by_cases hlt:k<l.length
  ·have hc:=hcell k hlt
   have HD:Hid (l.drop k=l[k]::l.drop (k+1)):=List.drop_eq_getElem_cons hlt;obtain ⟨x,hx⟩:∃x,x=l[k]:=⟨_,rfl⟩;rw [←hx] at hc HD;clear hcell hx;have hb:=x.toNat_lt;go_wp2
   ·obtain rfl:k=9:=by omega
    go_ret3;rw [HR.out,HD.out,qjo (by omega)];exact ⟨rfl,rfl⟩
   ·obtain rfl:k=9:=by omega
    go_ret3;rw [HR.out,HD.out,qj9 (by omega) (by omega)];exact ⟨rfl,rfl⟩
   ·obtain rfl:k=9:=by omega
    go_ret3;rw [HR.out,HD.out,qf6 (by omega) (by omega) (by omega)];exact ⟨by rw [qado acc x.toNat HA.out (by omega)];rfl,rfl⟩
   ·go_round
    case rel=>exact ⟨k+1,acc+x.toNat % 128*128 ^ k,by omega,by omega,by rw [qwd acc k x.toNat HA.out (by omega)],by go_num,qsx HA.out,by rw [HR.out,HD.out,qj8 (by omega) (by omega)]⟩
    case measure=>simp [intOf]<;>omega
   ·go_ret3
    rw [HR.out,HD.out,qj9 (by omega) (by omega)];exact ⟨rfl,rfl⟩
   ·obtain rfl:k=0:=by omega
    go_ret3;rw [HR.out,HD.out,qf6 (by omega) (by omega) (by omega)]
    obtain rfl:acc=0:=by have:=HA.out;omega
    exact ⟨by simp [rdV, *];rfl,rfl⟩
   ·go_ret3
    rw [HR.out,HD.out,qf6 (by omega) (by omega) (by omega)];exact ⟨by rw [qwd acc k x.toNat HA.out (by omega),Nat.mod_eq_of_lt (by omega)];rfl,rfl⟩
  ·go_wp2
   go_ret3;have e:l.drop k=[]:=List.drop_eq_nil_of_le (by omega);rw [HR.out,e];exact ⟨rfl,rfl⟩
theorem qo9 (a:Option Addr) (c:Nat) (w:World):
  Calls Tryz.prog 183 #[.slice a 0 c] w fun e w'=>e=.returned (rdV none)∧w'=w:=by
 go_enter Tryz.func183,Tryz.ntmps183
 go_wp2
 go_loop [5] (fun i=>i=.int .i64 0) (fun _=>0)
 case atStart=>rfl
 case round=>
  obtain rfl:=hrel;go_wp2;go_ret3;exact ⟨rfl,rfl⟩
theorem qwo (b off c:Nat) (l:List UInt8) (w:World) (hl:l.length≤1000000000000) (hcell:∀j,(h:j<l.length)→w.cell? ⟨b,off+j,none⟩=some (.int .u8 (l[j]).toNat)):
  Calls Tryz.prog 183 #[.slice (some ⟨b,off,none⟩) l.length c] w fun e w'=>e=.returned (rdV (rd l))∧w'=w:=by
 go_enter Tryz.func183,Tryz.ntmps183
 go_wp2
 go_loop [5] (fun i=>∃k:Nat,k≤l.length∧k≤10∧i=.int .i64 k∧∀j,(h:j<l.length)→j<k→128≤(l[j]).toNat) (fun i=>l.length - (intOf i).toNat)
 case atStart=>exact ⟨0,Nat.zero_le _,Nat.zero_le _,rfl,fun j _ h=>by omega⟩
 case round=>
  obtain ⟨k,hk,hk10,rfl,hp0⟩:=hrel;have HP:Hid (∀j,(h:j<l.length)→j<k→128≤(l[j]).toNat):=hp0;clear hp0;have HC:Hid (∀j,(h:j<l.length)→w.cell? ⟨b,off+j,none⟩=some (.int .u8 (l[j]).toNat)):=hcell;clear hcell
  by_cases hlt:k<l.length
  ·have hc:=HC.out k hlt
   obtain ⟨x,hx⟩:∃x,x=l[k]:=⟨_,rfl⟩;rw [←hx] at hc;have HX:Hid (x=l[k]):=hx;clear hx;have hb:=x.toNat_lt
   have hlt':(k:Int)<l.length:=by omega
   by_cases h10:k<10
   ·have h10':(k:Int)<10:=by omega
    by_cases hge:128≤x.toNat
    ·have hge':(128:Int)≤x.toNat:=by omega
     go_wp2
     go_round
     case rel=>exact ⟨k+1,by omega,by omega,by go_num,fun j h hj=>by
      by_cases e:j=k
      ·subst e;rw [←HX.out];exact hge
      ·exact HP.out j h (by omega)⟩
     case measure=>simp [intOf]<;>omega
    ·have hge':(x.toNat:Int)<128:=by omega
     by_cases h9:k=9
     ·subst h9
      by_cases h1:1<x.toNat
      ·have h1':(1:Int)<x.toNat:=by omega
       go_wp2;go_ret3;rw [rd_big l hlt HP.out (by rw [←HX.out];exact h1)];exact ⟨rfl,rfl⟩
      ·have h1':(x.toNat:Int)≤1:=by omega
       by_cases h0:x.toNat=0
       ·go_wp2
        go_ret3;rw [qwn l 9 hlt (by omega) (by omega) HP.out (by rw [←HX.out];exact h0)];exact ⟨rfl,rfl⟩
       ·have BD:Hid (hvd l 9 0<18446744073709551616):=qki l 9 hlt (by omega) (fun _=>by rw [←HX.out];omega)
        have RS:Hid (rd l=some (hvd l 9 0,9+1)):=rd_some l 9 hlt (by omega) HP.out (by rw [←HX.out];omega) (fun _=>by rw [←HX.out];omega) (by rw [←HX.out];omega)
        have h0':((x.toNat:Int)==0)=false:=by simpa using h0
        go_wp2
        go_loop [6,7] (fun n i=>∃j:Nat,j≤9+1∧i=.int .i64 ((j:Int) - 1)∧n=.int .u64 (hvd l 9 j:Nat)) (fun _ i=>(intOf i+1).toNat)
        case atStart=>exact ⟨9+1,Nat.le_refl _,by go_num,by rw [qrn];rfl⟩
        case round=>
         obtain ⟨j,hj,rfl,rfl⟩:=hrel
         by_cases hj0:j=0
         ·subst hj0
          go_wp2;go_ret3;rw [RS.out];exact ⟨rfl,rfl⟩
         ·obtain ⟨i,rfl⟩:∃i,j=i+1:=⟨j - 1,by omega⟩
          have hc2:=HC.out i (by omega);have hst:=qjr l 9 i (by omega) hlt;have hle:=qs5 l 9 hlt i (by omega);have hbd:=BD.out;obtain ⟨y,hy⟩:∃y,y=l[i]:=⟨_,rfl⟩;rw [←hy] at hc2 hst;have hyb:=y.toNat_lt;obtain ⟨d,hd⟩:∃d,d=hvd l 9 (i+1):=⟨_,rfl⟩;rw [←hd] at hst ⊢;have HS:Hid (hvd l 9 i=y.toNat % 128+128*d):=hst
          have hdb:128*d+y.toNat % 128<18446744073709551616:=by omega
          clear hst hd hle hbd hy
          have hij:(i:Int)<l.length:=by omega
          have ei:((i+1:Nat):Int) - 1=(i:Int):=by omega
          rw [ei];clear ei;go_wp2
          go_round
          case rel=>exact ⟨i,by omega,by go_num,by rw [HS.out];go_num⟩
          case measure=>simp [intOf]<;>omega
     ·have h9':¬(k:Int)=9:=by omega
      by_cases hk0:0<k
      ·have hk0':(0:Int)<k:=by omega
       by_cases h0:x.toNat=0
       ·go_wp2
        go_ret3;rw [qwn l k hlt (by omega) (by omega) HP.out (by rw [←HX.out];exact h0)];exact ⟨rfl,rfl⟩
       ·have BD:Hid (hvd l k 0<18446744073709551616):=qki l k hlt (by omega) (fun h=>by omega)
        have RS:Hid (rd l=some (hvd l k 0,k+1)):=rd_some l k hlt (by omega) HP.out (by rw [←HX.out];omega) (fun h=>by omega) (by rw [←HX.out];omega)
        have h0':((x.toNat:Int)==0)=false:=by simpa using h0
        go_wp2
        go_loop [6,7] (fun n i=>∃j:Nat,j≤k+1∧i=.int .i64 ((j:Int) - 1)∧n=.int .u64 (hvd l k j:Nat)) (fun _ i=>(intOf i+1).toNat)
        case atStart=>exact ⟨k+1,Nat.le_refl _,by go_num,by rw [qrn];rfl⟩
        case round=>
         obtain ⟨j,hj,rfl,rfl⟩:=hrel
         by_cases hj0:j=0
         ·subst hj0
          go_wp2;go_ret3;rw [RS.out];exact ⟨rfl,rfl⟩
         ·obtain ⟨i,rfl⟩:∃i,j=i+1:=⟨j - 1,by omega⟩
          have hc2:=HC.out i (by omega);have hst:=qjr l k i (by omega) hlt;have hle:=qs5 l k hlt i (by omega);have hbd:=BD.out;obtain ⟨y,hy⟩:∃y,y=l[i]:=⟨_,rfl⟩;rw [←hy] at hc2 hst;have hyb:=y.toNat_lt;obtain ⟨d,hd⟩:∃d,d=hvd l k (i+1):=⟨_,rfl⟩;rw [←hd] at hst ⊢;have HS:Hid (hvd l k i=y.toNat % 128+128*d):=hst
          have hdb:128*d+y.toNat % 128<18446744073709551616:=by omega
          clear hst hd hle hbd hy
          have hij:(i:Int)<l.length:=by omega
          have ei:((i+1:Nat):Int) - 1=(i:Int):=by omega
          rw [ei];clear ei;go_wp2
          go_round
          case rel=>exact ⟨i,by omega,by go_num,by rw [HS.out];go_num⟩
          case measure=>simp [intOf]<;>omega
      ·obtain rfl:k=0:=by omega
       rw [Nat.add_zero] at hc
       have hne:¬l=[]:=by intro e;rw [e] at hlt;simp at hlt
       have BD:Hid (hvd l 0 0<18446744073709551616):=qki l 0 hlt (by omega) (fun h=>by omega);have RS:Hid (rd l=some (hvd l 0 0,0+1)):=rd_some l 0 hlt (by omega) HP.out (by rw [←HX.out];omega) (fun h=>by omega) (by omega);go_wp2
       go_loop [6,7] (fun n i=>∃j:Nat,j≤0+1∧i=.int .i64 ((j:Int) - 1)∧n=.int .u64 (hvd l 0 j:Nat)) (fun _ i=>(intOf i+1).toNat)
       case atStart=>exact ⟨0+1,Nat.le_refl _,by go_num,by rw [qrn];rfl⟩
       case round=>
        obtain ⟨j,hj,rfl,rfl⟩:=hrel
        by_cases hj0:j=0
        ·subst hj0
         go_wp2;go_ret3;rw [RS.out];exact ⟨rfl,rfl⟩
        ·obtain ⟨i,rfl⟩:∃i,j=i+1:=⟨j - 1,by omega⟩
         have hc2:=HC.out i (by omega);have hst:=qjr l 0 i (by omega) hlt;have hle:=qs5 l 0 hlt i (by omega);have hbd:=BD.out;obtain ⟨y,hy⟩:∃y,y=l[i]:=⟨_,rfl⟩;rw [←hy] at hc2 hst;have hyb:=y.toNat_lt;obtain ⟨d,hd⟩:∃d,d=hvd l 0 (i+1):=⟨_,rfl⟩;rw [←hd] at hst ⊢;have HS:Hid (hvd l 0 i=y.toNat % 128+128*d):=hst
         have hdb:128*d+y.toNat % 128<18446744073709551616:=by omega
         clear hst hd hle hbd hy
         have hij:(i:Int)<l.length:=by omega
         have ei:((i+1:Nat):Int) - 1=(i:Int):=by omega
         rw [ei];clear ei;go_wp2
         go_round
         case rel=>exact ⟨i,by omega,by go_num,by rw [HS.out];go_num⟩
         case measure=>simp [intOf]<;>omega
   ·obtain rfl:k=10:=by omega
    go_wp2;go_ret3;rw [rd_ten l (by omega) HP.out];exact ⟨rfl,rfl⟩
  ·go_wp2
   go_ret3;rw [rd_end l (by omega) (fun j h=>HP.out j h (by omega))];exact ⟨rfl,rfl⟩
end Go.Proofs.YthilibleedbchaaGreat
namespace Go.Proofs.YthilibleedbchaaGreat
open Go.RowKit
theorem qaaf (s:ByteArray) (w:World) (hs:s.size≤1000000000):
  Calls Tryz.prog 215 #[.string s] w fun e w'=>∃v,e=.returned v∧w'.ownsRow w.heap.size 5 1 v (tx s.data.toList).length (u8v (tx s.data.toList))∧Below w.heap.size w w':=by
 have hl:s.data.toList.length=s.size:=by rw [Array.length_toList];rfl
 have hl10:=qbc (n:=s.size) (by omega)
 go_enter Tryz.func215,Tryz.ntmps215
 go_wp2_with fail
 refine (qo7 s.size _ (by omega)).mono ?_
 rintro e w1 ⟨v,rfl,hown,hbel⟩
 go_wp2_with (at_builtin;go_must (refine qhs w w1 rfl (.tmp 6) (.tmp 7) 22 9 rfl w.heap.size 5 Tryz.underlying22 Tryz.underlying9 Tryz.infoB _ _ hown rfl hbel (Nat.le_refl _) s rfl (by omega) ?_);intro v' w2 hown1 hbel1)
 go_ret;unfold tx;rw [hl];exact ⟨_,rfl,hown1,hbel1⟩
theorem qwp (s:ByteArray) (w:World) (hs:s.size≤1000000000):
  Calls Tryz.prog 118 #[.string s] w fun e w'=>∃v,e=.returned v∧w'.ownsRow w.heap.size 5 1 v (tx s.data.toList).length (u8v (tx s.data.toList))∧Below w.heap.size w w':=by
 have hl:s.data.toList.length=s.size:=by rw [Array.length_toList];rfl
 have hl10:=qbc (n:=s.size) (by omega)
 go_enter Tryz.func118,Tryz.ntmps118
 go_wp2_with fail
 refine (qmd s.size _ (by omega)).mono ?_
 rintro e w1 ⟨v,rfl,hown,hbel⟩
 go_wp2_with (at_builtin;go_must (refine qhs w w1 rfl (.tmp 6) (.tmp 7) 22 9 rfl w.heap.size 5 Tryz.underlying22 Tryz.underlying9 Tryz.infoB _ _ hown rfl hbel (Nat.le_refl _) s rfl (by omega) ?_);intro v' w2 hown1 hbel1)
 go_ret;unfold tx;rw [hl];exact ⟨_,rfl,hown1,hbel1⟩
theorem quu (b off c:Nat) (l:List UInt8) (w:World) (hl:l.length≤1000000000) (hcell:∀j,(h:j<l.length)→w.cell? ⟨b,off+j,none⟩=some (.int .u8 (l[j]).toNat)):
  Calls Tryz.prog 144 #[.slice (some ⟨b,off,none⟩) l.length c] w fun e w'=>∃v,e=.returned v∧w'.ownsRow w.heap.size 5 1 v l.length (u8v l)∧Below w.heap.size w w':=by
 have HC:Hid (∀j,(h:j<l.length)→w.cell? ⟨b,off+j,none⟩=some (.int .u8 (l[j]).toNat)):=hcell;clear hcell
 have hq:=fun wx=>Lib.run_eql_slice_nil (P:=Tryz.prog) wx 22 5 (some ⟨b,off,none⟩) l.length c 0 0 Tryz.underlying22
 go_enter Tryz.func144,Tryz.ntmps144
 go_wp2_with (at_builtin;go_must (refine qka w (w.alloc (.cells #[] 5)) rfl (.tmp 5) (.tmp 6) 22 rfl w.heap.size 5 Tryz.underlying22 Tryz.infoB _ [] (World.ownsRow_made w #[] 0 (Nat.le_refl _) (by decide) rfl) rfl ((Below.refl _ _).alloc (Nat.le_refl _) _) (Nat.le_refl _) b off c l.length l rfl rfl (fun j h=>(World.cell?_alloc_lt _ _ _ (World.block_lt_of_cell? w _ (HC.out j h))).trans (HC.out j h)) (by simp;omega) ?_);intro v' w1 hown1 hbel1 _)
 go_ret;exact ⟨_,rfl,hown1,hbel1⟩
theorem qnl (b off c m:Nat) (l:List UInt8) (w:World) (hm:l.length=m) (hl:m≤1000000000) (hcell:∀j,(h:j<l.length)→w.cell? ⟨b,off+j,none⟩=some (.int .u8 (l[j]).toNat)):
  Calls Tryz.prog 144 #[.slice (some ⟨b,off,none⟩) m c] w fun e w'=>∃v,e=.returned v∧w'.ownsRow w.heap.size 5 1 v l.length (u8v l)∧Below w.heap.size w w':=by
 subst hm;exact quu b off c l w hl hcell
def CutV (w w':World) (v:Value) (l:List UInt8):Prop:=
 (ct l=none∧v=.tuple #[.string ByteArray.empty,.slice none 0 0,.int .i64 8])∨
 ∃t r x,ct l=some (t,r)∧v=.tuple #[.string (bs t),x,.int .i64 0]∧w'.ownsRow w.heap.size 5 1 x r.length (u8v r)
theorem qwq (a:Option Addr) (c:Nat) (w:World):
  Calls Tryz.prog 219 #[.slice a 0 c] w fun e w'=>∃v,e=.returned v∧CutV w w' v []∧Below w.heap.size w w':=by
 go_enter Tryz.func219,Tryz.ntmps219
 go_wp2_with fail
 refine (qnk a c _).mono ?_
 rintro e w1 ⟨rfl,rfl⟩;unfold rdV;go_wp2;go_ret3;exact ⟨_,rfl,.inl ⟨rfl,rfl⟩,Below.refl _ _⟩
theorem qadv (b off c:Nat) (l:List UInt8) (w:World) (hl:l.length≤1000000000) (hlc:l.length≤c) (hcm:c≤maxLen) (hcell:∀j,(h:j<l.length)→w.cell? ⟨b,off+j,none⟩=some (.int .u8 (l[j]).toNat)):
  Calls Tryz.prog 219 #[.slice (some ⟨b,off,none⟩) l.length c] w fun e w'=>∃v,e=.returned v∧CutV w w' v l∧Below w.heap.size w w':=by
 have HC:Hid (∀j,(h:j<l.length)→w.cell? ⟨b,off+j,none⟩=some (.int .u8 (l[j]).toNat)):=hcell;clear hcell
 go_enter Tryz.func219,Tryz.ntmps219
 go_wp2_with fail
 refine (qs7 b off c l _ HC.out).mono ?_
 rintro e w1 ⟨rfl,rfl⟩
 cases hr:rd l with
 | none=>
  have HR:Hid (rd l=none):=hr;clear hr;unfold rdV;go_wp2;go_ret3;exact ⟨_,rfl,.inl ⟨qro HR.out,rfl⟩,Below.refl _ _⟩
 | some p=>
  obtain ⟨n,k⟩:=p;obtain ⟨hk0,hkl,hk10,hn64⟩:=qkj hr;have HR:Hid (rd l=some (n,k)):=hr;clear hr;unfold rdV
  by_cases hn:n≤l.length - k
  ·have HCT:Hid (ct l=some ((l.drop k).take n,l.drop (k+n))):=qkk HR.out hn
   have hlt:((l.drop k).take n).length=n:=by simp;omega
   have hld:(l.drop (k+n)).length=l.length - k - n:=by simp;omega
   by_cases hck:k=c
   ·subst hck
    obtain rfl:n=0:=by omega
    have hR:Rd w1 (.slice (some ⟨b,off,none⟩) 0 0) []:=.inl ⟨rfl,.inr ⟨_,_,rfl⟩⟩
    have hconv:∀wx,Rd wx (.slice (some ⟨b,off,none⟩) 0 0) []→(convert 22 9 (.slice (some ⟨b,off,none⟩) 0 0)).run Tryz.prog wx=.ok (.string (bs [])) wx:=fun wx h=>qd4 _ _ _ Tryz.underlying22 Tryz.underlying5 Tryz.underlying9 h
    have hL2:(l.drop k).length=0:=by simp;omega
    have HL2:Hid ((l.drop k).length=0):=hL2
    have HC2:Hid (∀j,(h:j<(l.drop k).length)→w1.cell? ⟨b,off+j,none⟩=some (.int .u8 ((l.drop k)[j]).toNat)):=fun j h=>by
     exfalso;omega
    have HCU:Hid (ct l=some ([],l.drop k)):=by
     have:=HCT.out
     rw [List.take_zero,Nat.add_zero] at this;exact this
    clear hlt hld hL2 HCT;go_wp2
    go_region_held3 (fun wx=>Rd wx (.slice (some ⟨b,off,none⟩) 0 0) []) (first | assumption | exact Rd.carry (by assumption) (by assumption)) ((go_at_call 144;refine (qnl b off 0 0 (l.drop k) _ HL2.out (by omega) (by exact HC2.out)).mono ?_;rintro e w2 ⟨v2,rfl,hown2,hbel2⟩))
    go_wp2;go_ret3;exact ⟨_,rfl,.inr ⟨_,_,_,HCU.out,rfl,hown2⟩,(Below.refl _ _).drew.trans hbel2⟩
   ·by_cases hcn:c - k=n
    ·have hR:Rd w1 (.slice (some ⟨b,off+k,none⟩) n n) ((l.drop k).take n):=.inr ⟨b,off+k,n,by rw [hlt],by omega,by omega,fun j hj=>by
      rw [show off+k+j=off+(k+j) by omega,HC.out (k+j) (by omega)];simp⟩
     have hconv:∀wx,Rd wx (.slice (some ⟨b,off+k,none⟩) n n) ((l.drop k).take n)→(convert 22 9 (.slice (some ⟨b,off+k,none⟩) n n)).run Tryz.prog wx=.ok (.string (bs ((l.drop k).take n))) wx:=fun wx h=>qd4 _ _ _ Tryz.underlying22 Tryz.underlying5 Tryz.underlying9 h
     have hL2:(l.drop (k+n)).length=l.length - k - n:=by omega
     have HL2:Hid ((l.drop (k+n)).length=l.length - k - n):=hL2
     have HC2:Hid (∀j,(h:j<(l.drop (k+n)).length)→w1.cell? ⟨b,off+k+j,none⟩=some (.int .u8 ((l.drop (k+n))[j]).toNat)):=fun j h=>by
      first | (rw [show off+k+j=off+(k+n+j) by omega,HC.out (k+n+j) (by omega)];simp;done) | (exfalso;omega)
     have hb1:(n:Int)≤((c - k:Nat):Int):=by omega
     clear hlt hld hL2;go_wp2
     go_region_held3 (fun wx=>Rd wx (.slice (some ⟨b,off+k,none⟩) n n) ((l.drop k).take n)) (first | assumption | exact Rd.carry (by assumption) (by assumption)) ((go_at_call 144;refine (qnl b (off+k) (0) (l.length - k - n) (l.drop (k+n)) _ HL2.out (by omega) (by exact HC2.out)).mono ?_;rintro e w2 ⟨v2,rfl,hown2,hbel2⟩))
     go_wp2;go_ret3;exact ⟨_,rfl,.inr ⟨_,_,_,HCT.out,rfl,hown2⟩,(Below.refl _ _).drew.trans hbel2⟩
    ·have hR:Rd w1 (.slice (some ⟨b,off+k,none⟩) n (c - k)) ((l.drop k).take n):=.inr ⟨b,off+k,(c - k),by rw [hlt],by omega,by omega,fun j hj=>by
      rw [show off+k+j=off+(k+j) by omega,HC.out (k+j) (by omega)];simp⟩
     have hconv:∀wx,Rd wx (.slice (some ⟨b,off+k,none⟩) n (c - k)) ((l.drop k).take n)→(convert 22 9 (.slice (some ⟨b,off+k,none⟩) n (c - k))).run Tryz.prog wx=.ok (.string (bs ((l.drop k).take n))) wx:=fun wx h=>qd4 _ _ _ Tryz.underlying22 Tryz.underlying5 Tryz.underlying9 h
     have hL2:(l.drop (k+n)).length=l.length - k - n:=by omega
     have HL2:Hid ((l.drop (k+n)).length=l.length - k - n):=hL2
     have HC2:Hid (∀j,(h:j<(l.drop (k+n)).length)→w1.cell? ⟨b,off+k+n+j,none⟩=some (.int .u8 ((l.drop (k+n))[j]).toNat)):=fun j h=>by
      first | (rw [show off+k+n+j=off+(k+n+j) by omega,HC.out (k+n+j) (by omega)];simp;done) | (exfalso;omega)
     have hb1:(n:Int)≤((c - k:Nat):Int):=by omega
     clear hlt hld hL2;go_wp2
     go_region_held3 (fun wx=>Rd wx (.slice (some ⟨b,off+k,none⟩) n (c - k)) ((l.drop k).take n)) (first | assumption | exact Rd.carry (by assumption) (by assumption)) ((go_at_call 144;refine (qnl b (off+k+n) (c - k - n) (l.length - k - n) (l.drop (k+n)) _ HL2.out (by omega) (by exact HC2.out)).mono ?_;rintro e w2 ⟨v2,rfl,hown2,hbel2⟩))
     go_wp2;go_ret3;exact ⟨_,rfl,.inr ⟨_,_,_,HCT.out,rfl,hown2⟩,(Below.refl _ _).drew.trans hbel2⟩
  ·go_wp2
   all_goals (go_ret3;exact ⟨_,rfl,.inl ⟨qrp HR.out hn,rfl⟩,Below.refl _ _⟩)
theorem qpa {v:Value} {l:List UInt8} (w:World) (h:Rd w v l):
  Calls Tryz.prog 218 #[v] w fun e w'=>e=.returned (rdV (rd l))∧w'=w:=by
 rcases h with ⟨rfl,rfl | ⟨ad,c,rfl⟩⟩ | ⟨b,off,c,rfl,hc,hm,hcell⟩
 ·exact qnk _ _ w
 ·exact qnk _ _ w
 ·exact qs7 b off c l w hcell
theorem qgw {v:Value} {l:List UInt8} (w:World) (hl:l.length≤1000000000) (h:Rd w v l):
  Calls Tryz.prog 183 #[v] w fun e w'=>e=.returned (rdV (rd l))∧w'=w:=by
 rcases h with ⟨rfl,rfl | ⟨ad,c,rfl⟩⟩ | ⟨b,off,c,rfl,hc,hm,hcell⟩
 ·exact qo9 _ _ w
 ·exact qo9 _ _ w
 ·exact qwo b off c l w (by omega) hcell
theorem qs8 {v:Value} {l:List UInt8} (w:World) (hl:l.length≤1000000000) (h:Rd w v l):
  Calls Tryz.prog 219 #[v] w fun e w'=>∃v,e=.returned v∧CutV w w' v l∧Below w.heap.size w w':=by
 rcases h with ⟨rfl,rfl | ⟨ad,c,rfl⟩⟩ | ⟨b,off,c,rfl,hc,hm,hcell⟩
 ·exact qwq _ _ w
 ·exact qwq _ _ w
 ·exact qadv b off c l w hl hc hm hcell
def cutT (l:List UInt8):ByteArray:=match ct l with | none=>ByteArray.empty | some (t,_)=>bs t
def qrq (l:List UInt8):Int:=match ct l with | none=>8 | some _=>0
def cutR (l:List UInt8):List UInt8:=match ct l with | none=>[] | some (_,r)=>r
theorem qpb {w w':World} {v:Value} {l:List UInt8} (h:CutV w w' v l):∃x,v=.tuple #[.string (cutT l),x,.int .i64 (qrq l)]∧w'.ownsRow w.heap.size 5 1 x (cutR l).length (u8v (cutR l)):=by
 rcases h with ⟨h,rfl⟩ | ⟨t,r,x,h,rfl,hx⟩
 ·exact ⟨.slice none 0 0,by simp [cutT,qrq,h],by simp only [cutR,h];exact World.ownsRow_nil _ _ _ _⟩
 ·exact ⟨x,by simp [cutT,qrq,h],by simp only [cutR,h];exact hx⟩
end Go.Proofs.YthilibleedbchaaGreat

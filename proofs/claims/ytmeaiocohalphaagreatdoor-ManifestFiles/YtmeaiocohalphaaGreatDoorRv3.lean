/-
  The document's Twin and New.
-/
import Derived.Test.YtmeaiocohalphaaGreatDoorVn8
import Derived.Test.YtmeaiocohalphaaGreatDoorRv1
import Derived.Test.YtmeaiocohalphaaGreatDoorNr4
import Derived.Test.YtmeaiocohalphaaGreatDoorRegD
import Derived.Test.YtmeaiocohalphaaGreatDoorRm9
import Derived.Test.YtmeaiocohalphaaGreatDoorRm8
import Derived.Test.YtmeaiocohalphaaGreatDoorFiRef8
import Derived.Test.YtmeaiocohalphaaGreatDoorFiRd6
import Derived.Test.YtmeaiocohalphaaGreatDoorDMay
import Derived.Test.YtmeaiocohalphaaGreatDoorVn9
import Derived.Lib.AppendZerosOnto
import Derived.Lib.Overlaps
set_option maxHeartbeats 4000000
set_option maxRecDepth 100000
namespace Go.Proofs.YtmeaiocohalphaaGreatDoor
open Go.RowKit
set_option linter.all false
def smsB (L:List Nat):List UInt8:=(L.map sm).flatten
theorem qi2:∀(L:List Nat),(∀x∈L,x<9223372036854775808)→(smsB L).length≤10*L.length
 | [],_=>by simp [smsB]
 | x::L,h=>by
  have h1:=qi2 L (fun y hy=>h y (by simp [hy]));have h2:=qag (n:=x) (by have:=h x (by simp);omega)
  have e:smsB (x::L)=sm x++smsB L:=by simp [smsB]
  rw [e,List.length_append,List.length_cons];omega
theorem MvAt.keepU {w w':World} {A:Nat} {m:Mta} (h:MvAt w A m) (hk:KeepG 5 w w'):MvAt w' A m:=hk A _ _ _ (by decide) h
theorem qq0 (g:Nat) (L:List Nat) (m:Nat) (hm:m=L.length) (w:World) (hc:∀j,(h:j<L.length)→w.cell? ⟨g,j,none⟩=some (.int .i64 (L[j]:Nat))) (hL:m≤10) (hb:∀x∈L,x<9223372036854775808):
  Calls Tryz.prog 132 #[.slice (some ⟨g,0,none⟩) m m] w fun e w'=>∃v,e=.returned v∧OwY w' w.heap.size v (smsB L)∧Below w.heap.size w w':=by
 have HM:=hide hm;have HC:=hide hc;have HB:=hide hb;clear hc hb hm
 go_enter Tryz.func132,Tryz.ntmps132
 go_wp2
 go_loopw [3,4] (fun x i wr=>∃(k:Nat) (a:Option Addr) (nn c:Nat),k≤m∧x=.slice a nn c∧i=.int .i64 k∧Hid (OwY wr w.heap.size (.slice a nn c) (smsB (L.take k)))∧Hid (Below w.heap.size w wr)) (fun _ i _=>m - (intOf i).toNat)
 case atStart=>exact ⟨0,none,0,0,Nat.zero_le _,rfl,rfl,hide (OwY.nil _ _),hide (Below.refl _ _)⟩
 case round=>
  obtain ⟨k,a,nn,c,hk,rfl,rfl,hO,hB⟩:=hrel
  by_cases hlt:k<m
  ·have hlt':(k:Int)<m:=by omega
   have hkl:k<L.length:=by have:=HM.out;omega
   have q0:wr.cell? ⟨g,k,none⟩=some (.int .i64 (L[k]:Nat)):=by
    have h9:=HC.out k hkl;rw [hB.out.cell (World.block_lt_of_cell? _ _ h9)];exact h9
   have hx:=HB.out _ (List.getElem_mem hkl)
   have hlen:(smsB (L.take k)).length≤100:=by
    have:=qi2 (L.take k) (fun x hx=>HB.out x (List.mem_of_mem_take hx))
    rw [List.length_take] at this;omega
   have HTK:=hide (show smsB (L.take (k+1))=smsB (L.take k)++sm L[k] by
    unfold smsB;rw [List.take_succ_eq_append_getElem hkl,List.map_append,List.flatten_append];simp)
   obtain ⟨x,hxx⟩:∃x,x=L[k]:=⟨_,rfl⟩;rw [←hxx] at q0 hx HTK
   have g0:(x:Int) % 18446744073709551616=x:=by omega
   have hcon:=qag6 x wr (by omega);clear hxx
   go_wp2_with fail
   refine hcon.mono ?_
   rintro e w2 ⟨v2,rfl,o2,b2⟩;obtain ⟨a3,n3,c3,w3,HN3,hrun3,o3,b3,k3⟩:=qm2 (hO.out.carry b2) (Nat.le_trans hB.out.size b2.size) o2.rd (by have:=qag (n:=x) (by omega);omega);have HO3:=hide (show OwY w3 w.heap.size (.slice a3 n3 c3) (smsB (L.take (k+1))) by rw [HTK.out];exact o3);have HB3:=hide (show Below w.heap.size w w3 from (hB.out.trans (b2.mono hB.out.size)).trans b3);clear hcon o2 b2 o3 b3 k3 q0 g0 hx hlen HTK hO hB HN3
   go_wp2_with (first | (at_builtin;refine qar rfl (.tmp 11) (.tmp 17) 23 rfl rfl rfl rfl hrun3 ?_) | fail)
   clear hrun3;go_roundw
   case rel=>exact ⟨k+1,a3,n3,c3,by omega,rfl,by go_num,HO3,HB3⟩
   case measure=>simp only [intOf];omega
  ·have hd:decide ((k:Int)<m)=false:=by simpa using (by omega:¬(k:Int)<m)
   obtain rfl:k=m:=by omega
   have HO:=hide (show OwY wr w.heap.size (.slice a nn c) (smsB L) by
    have h9:=hO.out;rw [List.take_of_length_le (by have:=HM.out;omega)] at h9
    exact h9)
   clear hO;go_wp2;go_ret;exact ⟨_,rfl,HO.out,hB.out⟩
/-- What the document's Write answers. -/
theorem qtx (a:Option Addr) (n c:Nat) (R:Lvs) (nx sq:Int) (lg:List UInt8) (w:World) (hrd:RdVw w (.slice a n c) R) (hn1:n≤1000) (hT:(lvs R).flatten.length≤100000):
  Calls Tryz.prog 62 #[.agg #[.slice a n c,.int .i64 nx,.int .i64 sq,.string (bs lg)]] w fun e w'=>∃v,e=.returned (.tuple #[v,.int .i64 (chkV (lvs R,nx,sq,lg))])∧OwY w' w.heap.size v (wrtB (lvs R,nx,sq,lg))∧Below w.heap.size w w':=by
 obtain ⟨w1,hw1⟩:∃w1,w1=w.alloc (.cells #[.slice a n c,.int .i64 nx,.int .i64 sq,.string (bs lg)] 36):=⟨_,rfl⟩
 have hb1:Below w.heap.size w w1:=by rw [hw1];exact (Below.refl _ _).alloc (Nat.le_refl _) _
 have hs1:w1.heap.size=w.heap.size+1:=by rw [hw1];simp
 have hV1:VvAt w1 w.heap.size (.slice a n c) nx sq lg:=by rw [hw1];exact VvAt.new w _ nx sq lg
 have HR:=hide hrd;have HV1:=hide hV1;have HB1:=hide hb1;have HN:=hide hrd.len;have HS1:=hide hs1;obtain ⟨v0,v1,v2,v3⟩:=hV1.cells;have hcon:=qaev a n c R nx sq lg w1 (hrd.carry hb1) hn1 hT;clear hb1 hV1 hrd hT hs1;obtain ⟨E,hE⟩:∃E,E=chkV (lvs R,nx,sq,lg):=⟨_,rfl⟩;have HE:=hide hE;rw [←hE] at hcon ⊢;clear hE
 go_enter Tryz.func62,Tryz.ntmps62
 go_wp2_with fail
 rw [←hw1];clear hw1
 refine hcon.mono ?_
 rintro e w2 ⟨rfl,b2⟩;have HW2:=hide (HV1.out.carry b2);have HC2:=hide (HB1.out.trans (b2.mono HB1.out.size));have HS2:=hide (show w.heap.size+1≤w2.heap.size by have:=b2.size;have:=HS1.out;omega);clear hcon b2 v0 v1 v2 v3 HB1 HV1 HS1
 by_cases h0:E=0
 rotate_left
 ·have h0':(E !=0)=true:=by simpa using h0
  have h0'':(E==0)=false:=by simpa using h0
  have HW:=hide (show wrtB (lvs R,nx,sq,lg)=[] by unfold wrtB;rw [if_neg (by rw [←HE.out];exact h0)]);clear h0;go_wp2;go_ret2;exact ⟨_,rfl,by rw [HW.out];exact OwY.nil _ _,HC2.out⟩
 subst h0;have HW:=hide (show wrtB (lvs R,nx,sq,lg)=verB (lvs R,nx,sq,lg) by unfold wrtB;rw [if_pos HE.out.symm]);have hV:chkV (lvs R,nx,sq,lg)=0:=HE.out.symm
 obtain ⟨zx,zs,zl⟩:(∃p:Nat,nx=p∧p<9223372036854775808)∧(∃p:Nat,sq=p∧p<9223372036854775808)∧lg.length≤1000000:=by
  obtain ⟨_,hm⟩:=chkV_ok.1 hV;obtain ⟨_,hl,hn,_,_⟩:=mayV_iff.1 hm;obtain ⟨n1,n2,n3,n4⟩:=qpi hn;have n1:1≤nx:=n1;have n2:nx≤1099511627776:=n2;have n3:0≤sq:=n3;have n4:sq≤1099511627776:=n4;have hl:lg.length≤16:=(qnm hl).2;exact ⟨⟨nx.toNat,by omega,by omega⟩,⟨sq.toNat,by omega,by omega⟩,by omega⟩
 obtain ⟨nx,rfl,hnx⟩:=zx;obtain ⟨sq,rfl,hsq⟩:=zs;have HV:=hide hV;have HNX:=hide hnx;have HSQ:=hide hsq;have HLG:=hide zl;clear hV hnx hsq zl HE;obtain ⟨v0,v1,v2,v3⟩:=HW2.out.cells;go_wp2
 go_loopw [5,6] (fun x i wr=>∃(k:Nat) (ab:Option Addr) (nb cb:Nat),k≤n∧x=.slice ab nb cb∧i=.int .i64 k∧Hid (OwY wr (w.heap.size+1) (.slice ab nb cb) (lvsB ((lvs R).take k)))∧Hid (Below (w.heap.size+1) w2 wr)) (fun _ i _=>n - (intOf i).toNat)
 case atStart=>exact ⟨0,none,0,0,Nat.zero_le _,rfl,rfl,hide (by rw [List.take_zero,qwc];exact OwY.nil _ _),hide (Below.refl _ _)⟩
 case round=>
  obtain ⟨k,ab,nb,cb,hk,rfl,rfl,hF,hB⟩:=hrel;have HVV:=hide (HW2.out.low hB.out (by omega));have HBB:=hide (HC2.out.trans (hB.out.mono (by omega)));have HZZ:=hide (show w.heap.size+1≤wr.heap.size from Nat.le_trans HS2.out hB.out.size);clear v0 v1 v2 v3;obtain ⟨v0,v1,v2,v3⟩:=HVV.out.cells
  by_cases hlt:k<n
  ·have hlt':(k:Int)<n:=by omega
   have hkl:k<R.length:=by have:=HN.out;omega
   obtain ⟨bb,off,ax,nr,cx,rfl,q0,hRx,hnr⟩:=HR.out.cells HBB.out k hkl;obtain ⟨p1,p2,p3⟩:=qx1 HV.out (k:=k) (by show k<(lvs R).length;rw [qav];exact hkl) 0;have e9:(lvs R)[k]'(by rw [qav];exact hkl)=(R[k]).2:=qcz hkl _;have HTK:=hide (show (lvs R).take (k+1)=(lvs R).take k++[(R[k]).2] by rw [List.take_succ_eq_append_getElem (by rw [qav];exact hkl),qcz hkl])
   have HPL:=hide (show (lvsB ((lvs R).take k)).length≤6000∧(∀j,((lvsB ((lvs R).take k)++sm ((R[k]).2).length)++mtsB (((R[k]).2).take j)).length≤12000)∧(∀m∈(R[k]).2,mtO m=true) from ⟨p1,fun j=>by
    have:=(qx1 HV.out (k:=k) (by show k<(lvs R).length;rw [qav];exact hkl) j).2.1
    have this:((lvsB ((lvs R).take k)++sm ((lvs R)[k]'(by rw [qav];exact hkl)).length)++mtsB (((lvs R)[k]'(by rw [qav];exact hkl)).take j)).length≤12000:=this
    rw [e9] at this;exact this,fun m hm=>p3 m (by show m∈(lvs R)[k]'(by rw [qav];exact hkl);rw [e9];exact hm)⟩)
   obtain ⟨X,hX⟩:∃X,X=(R[k]).2:=⟨_,rfl⟩;rw [←hX] at hRx hnr HTK HPL;have HX:=hide hRx;have HNR:=hide hnr
   have hn9:nr≤1000000:=by
    have h9:=qlg (L:=lvs R) (l:=(R[k]).2) (List.mem_map.2 ⟨R[k],List.getElem_mem hkl,rfl⟩)
    have:=(chkV_ok.1 HV.out).1
    have this:(lvs R).flatten.length≤32:=this
    rw [hnr,hX];omega
   obtain ⟨C,hC⟩:∃C,C=lvsB ((lvs R).take k):=⟨_,rfl⟩;rw [←hC] at hF HPL;have HCC:=hide hC;have HAS:=hide q0
   have HAL:=hide (show bb<w.heap.size by
    obtain ⟨b7,o7,x7,y7,z7,e7,q7, -, -⟩:=HR.out.cells (Below.refl _ _) k hkl;cases e7
    exact World.block_lt_of_cell? _ _ q7)
   clear hX hC p1 p2 p3 e9 hRx hnr;obtain ⟨w5a,hw5a⟩:∃wn,wn=wr.alloc (.cells #[.int .i64 nr] 3):=⟨_,rfl⟩
   have bw5a:Below wr.heap.size wr w5a:=by rw [hw5a];exact (Below.refl _ _).alloc (Nat.le_refl _) _
   have hcl:∀j,(h:j<([nr]:List Nat).length)→w5a.cell? ⟨wr.heap.size,j,none⟩=some (.int .i64 (([nr]:List Nat)[j]:Nat)):=by
    intro j h
    have hbx:Bx w5a wr.heap.size 3 #[.int .i64 nr]:=by rw [hw5a];exact Bx.new wr _ _
    match j,h with
    | 0,_=>exact hbx.at 0 rfl
   have hcon:=qq0 wr.heap.size [nr] 1 rfl w5a hcl (by omega) (by intro x hx;simp only [List.mem_cons,List.mem_singleton,List.not_mem_nil,or_false] at hx;omega);clear hcl
   go_wp2_with fail
   rw [←hw5a];clear hw5a
   refine hcon.mono ?_
   rintro e w5b ⟨v5,rfl,o5,bw5b⟩;obtain ⟨a5,n5,c5,w5,HN5,hrun5,oo5,bb5,kk5⟩:=qm2 ((hF.out.carry bw5a).carry bw5b) (Nat.le_trans HZZ.out (Nat.le_trans bw5a.size bw5b.size)) o5.rd (by have h7:=qi2 [nr] (by intro x hx;simp only [List.mem_cons,List.mem_singleton,List.not_mem_nil,or_false] at hx;omega);have h8:([nr]:List Nat).length≤2:=(by simp);have:=HPL.out.1;omega)
   have HF5:=hide (show OwY w5 (w.heap.size+1) (.slice a5 n5 c5) (C++sm nr) by
    have e7:smsB [nr]=sm nr:=by simp [smsB]
    rw [e7] at oo5;exact oo5)
   have HB5:=hide ((hB.out.trans (bw5a.mono (by have:=HZZ.out;omega))).trans ((bw5b.mono (by have:=HZZ.out;have:=bw5a.size;omega)).trans bb5))
   have HR0:=hide (show w2.cell? ⟨bb,off+k,none⟩=some (.slice ax nr cx) by
    rw [←hB.out.cell (by show bb<w.heap.size+1;have:=HAL.out;omega)];exact HAS.out)
   clear hcon o5 bw5a bw5b oo5 bb5 kk5 HN5
   go_wp2_with (first | (at_builtin;refine qar rfl (.tmp 21) (.tmp 29) 23 rfl rfl rfl rfl hrun5 ?_) | fail)
   clear hrun5;clear q0 v0 v1 v2 v3 HVV HBB HZZ hF hB;go_wp2
   go_loopw [5,7] (fun x i wr=>∃(j:Nat) (ab:Option Addr) (nb cb:Nat),j≤nr∧x=.slice ab nb cb∧i=.int .i64 j∧Hid (OwY wr (w.heap.size+1) (.slice ab nb cb) ((C++sm nr)++mtsB (X.take j)))∧Hid (Below (w.heap.size+1) w2 wr)) (fun _ i _=>nr - (intOf i).toNat)
   case atStart=>exact ⟨0,a5,n5,c5,Nat.zero_le _,rfl,rfl,hide (by rw [List.take_zero,qwb,List.append_nil];exact HF5.out),HB5⟩
   case round=>
    clear HF5 HB5;obtain ⟨j,ab,nb,cb,hj,rfl,rfl,hF,hB⟩:=hrel;have HVV:=hide (HW2.out.low hB.out (by omega));have HBB:=hide (HC2.out.trans (hB.out.mono (by omega)));have HZZ:=hide (show w.heap.size+1≤wr.heap.size from Nat.le_trans HS2.out hB.out.size);obtain ⟨v0,v1,v2,v3⟩:=HVV.out.cells;obtain ⟨bb',off',ax',nr',cx',e8,q0,hRx,hnr⟩:=HR.out.cells HBB.out k hkl;cases e8
    have hsame:(Value.slice ax' nr' cx')=.slice ax nr cx:=by
     have h8:=HAS.out
     have h9:w2.cell? ⟨bb,off+k,none⟩=some (.slice ax' nr' cx'):=by
      rw [←hB.out.cell (by show bb<w.heap.size+1;have:=HAL.out;omega)];exact q0
     rw [HR0.out] at h9;exact (Option.some.inj h9).symm
    cases hsame;clear hRx hnr
    by_cases hjl:j<nr
    ·have hjl':(j:Int)<nr:=by omega
     have hjx:j<X.length:=by have:=HNR.out;omega
     obtain ⟨b4,o4,e4,c0,c1,c2,c3,c4⟩:=HX.out.cells HBB.out j hjx;subst e4;have HJX:=hide (show X.take (j+1)=X.take j++[X[j]] from List.take_succ_eq_append_getElem hjx);have hmt:=HPL.out.2.2 _ (List.getElem_mem hjx);have hpl:=HPL.out.2.1 j;rw [←HNR.out] at hpl;obtain ⟨M,hM⟩:∃M,M=X[j]:=⟨_,rfl⟩;rw [←hM] at c0 c1 c2 c3 c4 HJX hmt;obtain ⟨m1,m2,m3,m4,m5,m6,m7⟩:=qub hmt;obtain ⟨nm,sz,mn,lo,hi⟩:=M;clear hM hmt;obtain ⟨sz,rfl⟩:∃p:Nat,sz=p:=⟨sz.toNat,by have:1≤sz:=m4;omega⟩;obtain ⟨mn,rfl⟩:∃p:Nat,mn=p:=⟨mn.toNat,by have:1≤mn:=m6;omega⟩;dsimp only [Mlo,Mhi] at c0 c1 c2 c3 c4;have HMB:=hide (show nm.length≤1000∧lo.length≤1000∧hi.length≤1000∧sz<100000∧mn<100000 from ⟨by have:nm.length≤16:=m1;omega,by have:lo.length≤64:=m2;omega,by have:hi.length≤64:=m3;omega,by have:(sz:Int)≤16384:=m5;omega,by have:(mn:Int)≤65536:=m7;omega⟩);clear m1 m2 m3 m4 m5 m6 m7;obtain ⟨w5,hw5⟩:∃w5,w5=wr.alloc (.cells #[.string (bs nm),.int .i64 sz,.int .i64 mn,.string (bs lo),.string (bs hi)] 124):=⟨_,rfl⟩
     have b5:Below wr.heap.size wr w5:=by rw [hw5];exact (Below.refl _ _).alloc (Nat.le_refl _) _
     have HM5:=hide (show MvAt w5 wr.heap.size (nm,(sz:Int),(mn:Int),lo,hi) by rw [hw5];exact MvAt.new wr (nm,(sz:Int),(mn:Int),lo,hi));have HF5:=hide (hF.out.carry b5);have HB5:=hide (hB.out.trans (b5.mono (Nat.le_of_lt_succ (by have:=HZZ.out;omega))));have HZ5:=hide (show w.heap.size+1≤w5.heap.size by have:=b5.size;have:=HZZ.out;omega);have HPB:=hide hpl;obtain ⟨D,hD⟩:∃D,D=(C++sm nr)++mtsB (X.take j):=⟨_,rfl⟩;rw [←hD] at HF5 HPB;have HD:=hide hD;obtain ⟨g0,g1,g2,g3,g4⟩:=HM5.out.cells;clear hF hB hpl hD b5;have hcon:=qjl nm w5 (by have:=HMB.out;omega)
     go_wp2_with fail
     rw [←hw5];clear hw5
     refine hcon.mono ?_
     rintro e w6b ⟨v6,rfl,o6,bw6b⟩;obtain ⟨a6,n6,c6,w6,HN6,hrun6,oo6,bb6,kk6⟩:=qm2 (HF5.out.carry bw6b) (Nat.le_trans HZ5.out bw6b.size) o6.rd (by have h9:=HPB.out;have h8:=HMB.out;have k1:=qbk nm (by omega);have k2:=qbk lo (by omega);have k3:=qbk hi (by omega);have k4:=qag (n:=sz) (by omega);have k5:=qag (n:=mn) (by omega);(try simp only [List.length_append] at *);omega);have HF6:=hide oo6;have HB6:=hide ((HB5.out.trans (bw6b.mono HZ5.out)).trans bb6);have HZ6:=hide (Nat.le_trans HZ5.out (Nat.le_trans bw6b.size bb6.size));have HM6:=hide ((HM5.out.carry bw6b).keepU kk6);clear hcon o6 bw6b oo6 bb6 kk6 HN6 HF5 HB5 HZ5 HM5 g0 g1 g2 g3 g4;obtain ⟨g0,g1,g2,g3,g4⟩:=HM6.out.cells
     go_wp2_with (first | (at_builtin;refine qar rfl (.tmp 49) (.tmp 52) 23 rfl rfl rfl rfl hrun6 ?_) | fail)
     clear hrun6;obtain ⟨w7a,hw7a⟩:∃wn,wn=w6.alloc (.cells #[.int .i64 sz,.int .i64 mn] 3):=⟨_,rfl⟩
     have bw7a:Below w6.heap.size w6 w7a:=by rw [hw7a];exact (Below.refl _ _).alloc (Nat.le_refl _) _
     have hcl:∀j,(h:j<([sz,mn]:List Nat).length)→w7a.cell? ⟨w6.heap.size,j,none⟩=some (.int .i64 (([sz,mn]:List Nat)[j]:Nat)):=by
      intro j h
      have hbx:Bx w7a w6.heap.size 3 #[.int .i64 sz,.int .i64 mn]:=by rw [hw7a];exact Bx.new w6 _ _
      match j,h with
      | 0,_=>exact hbx.at 0 rfl
      | 1,_=>exact hbx.at 1 rfl
     have hcon:=qq0 w6.heap.size [sz,mn] 2 rfl w7a hcl (by omega) (by intro x hx;simp only [List.mem_cons,List.mem_singleton,List.not_mem_nil,or_false] at hx;have:=HMB.out;omega);clear hcl
     go_wp2_with fail
     rw [←hw7a];clear hw7a
     refine hcon.mono ?_
     rintro e w7b ⟨v7,rfl,o7,bw7b⟩;obtain ⟨a7,n7,c7,w7,HN7,hrun7,oo7,bb7,kk7⟩:=qm2 ((HF6.out.carry bw7a).carry bw7b) (Nat.le_trans HZ6.out (Nat.le_trans bw7a.size bw7b.size)) o7.rd (by have h7:=qi2 [sz,mn] (by intro x hx;simp only [List.mem_cons,List.mem_singleton,List.not_mem_nil,or_false] at hx;have:=HMB.out;omega);have h8:([sz,mn]:List Nat).length≤2:=(by simp);have h9:=HPB.out;have h8:=HMB.out;have k1:=qbk nm (by omega);have k2:=qbk lo (by omega);have k3:=qbk hi (by omega);have k4:=qag (n:=sz) (by omega);have k5:=qag (n:=mn) (by omega);(try simp only [List.length_append] at *);omega)
     have HF7:=hide (show OwY w7 (w.heap.size+1) (.slice a7 n7 c7) (((D++tx nm)++sm sz)++sm mn) by
      have e7:smsB [sz,mn]=sm sz++sm mn:=by simp [smsB]
      rw [e7,←List.append_assoc] at oo7;exact oo7)
     have HB7:=hide (((HB6.out.trans (bw7a.mono HZ6.out)).trans (bw7b.mono (Nat.le_trans HZ6.out bw7a.size))).trans bb7);have HZ7:=hide (Nat.le_trans HZ6.out (Nat.le_trans bw7a.size (Nat.le_trans bw7b.size bb7.size)));have HM7:=hide (((HM6.out.carry bw7a).carry bw7b).keepU kk7);clear hcon o7 bw7a bw7b oo7 bb7 kk7 HN7 HF6 HB6 HZ6 HM6 g0 g1 g2 g3 g4;obtain ⟨g0,g1,g2,g3,g4⟩:=HM7.out.cells
     go_wp2_with (first | (at_builtin;refine qar rfl (.tmp 54) (.tmp 60) 23 rfl rfl rfl rfl hrun7 ?_) | fail)
     clear hrun7;have hcon:=qjl lo w7 (by have:=HMB.out;omega)
     go_wp2_with fail
     refine hcon.mono ?_
     rintro e w8b ⟨v8,rfl,o8,bw8b⟩;obtain ⟨a8,n8,c8,w8,HN8,hrun8,oo8,bb8,kk8⟩:=qm2 (HF7.out.carry bw8b) (Nat.le_trans HZ7.out bw8b.size) o8.rd (by have h9:=HPB.out;have h8:=HMB.out;have k1:=qbk nm (by omega);have k2:=qbk lo (by omega);have k3:=qbk hi (by omega);have k4:=qag (n:=sz) (by omega);have k5:=qag (n:=mn) (by omega);(try simp only [List.length_append] at *);omega);have HF8:=hide oo8;have HB8:=hide ((HB7.out.trans (bw8b.mono HZ7.out)).trans bb8);have HZ8:=hide (Nat.le_trans HZ7.out (Nat.le_trans bw8b.size bb8.size));have HM8:=hide ((HM7.out.carry bw8b).keepU kk8);clear hcon o8 bw8b oo8 bb8 kk8 HN8 HF7 HB7 HZ7 HM7 g0 g1 g2 g3 g4;obtain ⟨g0,g1,g2,g3,g4⟩:=HM8.out.cells
     go_wp2_with (first | (at_builtin;refine qar rfl (.tmp 62) (.tmp 65) 23 rfl rfl rfl rfl hrun8 ?_) | fail)
     clear hrun8;have hcon:=qjl hi w8 (by have:=HMB.out;omega)
     go_wp2_with fail
     refine hcon.mono ?_
     rintro e w9b ⟨v9,rfl,o9,bw9b⟩;obtain ⟨a9,n9,c9,w9,HN9,hrun9,oo9,bb9,kk9⟩:=qm2 (HF8.out.carry bw9b) (Nat.le_trans HZ8.out bw9b.size) o9.rd (by have h9:=HPB.out;have h8:=HMB.out;have k1:=qbk nm (by omega);have k2:=qbk lo (by omega);have k3:=qbk hi (by omega);have k4:=qag (n:=sz) (by omega);have k5:=qag (n:=mn) (by omega);(try simp only [List.length_append] at *);omega);have HF9:=hide oo9;have HB9:=hide ((HB8.out.trans (bw9b.mono HZ8.out)).trans bb9);have HM9:=hide ((HM8.out.carry bw9b).keepU kk9);clear hcon o9 bw9b oo9 bb9 kk9 HN9 HF8 HB8 HZ8 HM8 g0 g1 g2 g3 g4;obtain ⟨g0,g1,g2,g3,g4⟩:=HM9.out.cells
     go_wp2_with (first | (at_builtin;refine qar rfl (.tmp 67) (.tmp 70) 23 rfl rfl rfl rfl hrun9 ?_) | fail)
     clear hrun9
     have HEND:=hide (show OwY w9 (w.heap.size+1) (.slice a9 n9 c9) ((C++sm nr)++mtsB (X.take (j+1))) by
      rw [HJX.out,qle,←List.append_assoc,←HD.out];have h9:=HF9.out
      simp only [List.append_assoc] at h9 ⊢
      exact h9)
     clear g0 g1 g2 g3 g4 v0 v1 v2 v3 q0;go_roundw
     case rel=>exact ⟨j+1,_,_,_,by omega,rfl,by go_num,HEND,HB9⟩
     case measure=>simp only [intOf];omega
    ·have hd:decide ((j:Int)<nr)=false:=by simpa using (by omega:¬(j:Int)<nr)
     obtain rfl:j=nr:=by omega
     have HE:=hide (show OwY wr (w.heap.size+1) (.slice ab nb cb) (lvsB ((lvs R).take (k+1))) by
      have h9:=hF.out;have e8:j=X.length:=HNR.out;rw [e8,List.take_length] at h9;rw [HTK.out,qlf,lvB,←HCC.out,←List.append_assoc]
      exact h9)
     clear hF hj hjl HBB HVV HZZ;go_wp2;go_roundw
     case rel=>exact ⟨k+1,_,_,_,by omega,rfl,by go_num,HE,hB⟩
     case measure=>simp only [intOf];omega
  ·have hd:decide ((k:Int)<n)=false:=by simpa using (by omega:¬(k:Int)<n)
   obtain rfl:k=n:=by omega
   have HF8:=hide (show OwY wr (w.heap.size+1) (.slice ab nb cb) (lvsB (lvs R)) by
    have h9:=hF.out;rw [List.take_of_length_le (by rw [qav];have:=HN.out;omega)] at h9
    exact h9)
   have HLE:=hide (show (lvsB (lvs R)).length≤6000 from qx2 HV.out);clear hF hk hlt;obtain ⟨w5a,hw5a⟩:∃wn,wn=wr.alloc (.cells #[.int .i64 nx,.int .i64 sq] 3):=⟨_,rfl⟩
   have bw5a:Below wr.heap.size wr w5a:=by rw [hw5a];exact (Below.refl _ _).alloc (Nat.le_refl _) _
   have hcl:∀j,(h:j<([nx,sq]:List Nat).length)→w5a.cell? ⟨wr.heap.size,j,none⟩=some (.int .i64 (([nx,sq]:List Nat)[j]:Nat)):=by
    intro j h
    have hbx:Bx w5a wr.heap.size 3 #[.int .i64 nx,.int .i64 sq]:=by rw [hw5a];exact Bx.new wr _ _
    match j,h with
    | 0,_=>exact hbx.at 0 rfl
    | 1,_=>exact hbx.at 1 rfl
   have hcon:=qq0 wr.heap.size [nx,sq] 2 rfl w5a hcl (by omega) (by intro x hx;simp only [List.mem_cons,List.mem_singleton,List.not_mem_nil,or_false] at hx;have:=HNX.out;have:=HSQ.out;omega);clear hcl
   go_wp2_with fail
   rw [←hw5a];clear hw5a
   refine hcon.mono ?_
   rintro e w5b ⟨v5,rfl,o5,bw5b⟩;obtain ⟨a5,n5,c5,w5,HN5,hrun5,oo5,bb5,kk5⟩:=qm2 ((HF8.out.carry bw5a).carry bw5b) (Nat.le_trans HZZ.out (Nat.le_trans bw5a.size bw5b.size)) o5.rd (by have h7:=qi2 [nx,sq] (by intro x hx;simp only [List.mem_cons,List.mem_singleton,List.not_mem_nil,or_false] at hx;have:=HNX.out;have:=HSQ.out;omega);have h8:([nx,sq]:List Nat).length≤2:=(by simp);have:=HLE.out;omega)
   have HF5:=hide (show OwY w5 (w.heap.size+1) (.slice a5 n5 c5) ((lvsB (lvs R)++sm nx)++sm sq) by
    have e7:smsB [nx,sq]=sm nx++sm sq:=by simp [smsB]
    rw [e7,←List.append_assoc] at oo5;exact oo5)
   have HB5:=hide (((hB.out.trans (bw5a.mono HZZ.out)).trans (bw5b.mono (Nat.le_trans HZZ.out bw5a.size))).trans bb5);have HZ5:=hide (Nat.le_trans HZZ.out (Nat.le_trans bw5a.size (Nat.le_trans bw5b.size bb5.size)));clear hcon o5 bw5a bw5b oo5 bb5 kk5 HN5 HF8 v0 v1 v2 v3;obtain ⟨v0,v1,v2,v3⟩:=(HW2.out.low HB5.out (by omega)).cells
   go_wp2_with (first | (at_builtin;refine qar rfl (.tmp 72) (.tmp 78) 23 rfl rfl rfl rfl hrun5 ?_) | fail)
   clear hrun5;have hcon:=qjl lg w5 HLG.out
   refine hcon.mono ?_
   rintro e w6b ⟨v6,rfl,o6,bw6b⟩;obtain ⟨a6,n6,c6,w6,HN6,hrun6,oo6,bb6,kk6⟩:=qm2 (HF5.out.carry bw6b) (Nat.le_trans HZ5.out bw6b.size) o6.rd (by have:=HLE.out;have:=HLG.out;have k2:=qbk lg (by omega);have k4:=qag (n:=nx) (by have:=HNX.out;omega);have k5:=qag (n:=sq) (by have:=HSQ.out;omega);simp only [List.length_append];omega)
   have HO:=hide (show OwY w6 w.heap.size (.slice a6 n6 c6) (verB (lvs R,(nx:Int),(sq:Int),lg)) by
    have h9:=oo6.mono (show w.heap.size≤w.heap.size+1 by omega);unfold verB;rw [show ((nx:Nat):Int).toNat=nx from rfl,show ((sq:Nat):Int).toNat=sq from rfl]
    simp only [List.append_assoc] at h9 ⊢
    exact h9)
   have HBE:=hide (HC2.out.trans (((HB5.out.trans (bw6b.mono HZ5.out)).trans bb6).mono (by omega)));clear hcon o6 bw6b oo6 bb6 kk6 HN6 HF5 HB5 v0 v1 v2 v3
   go_wp2_with (first | (at_builtin;refine qar rfl (.tmp 80) (.tmp 83) 23 rfl rfl rfl rfl hrun6 ?_) | fail)
   clear hrun6;go_ret2;exact ⟨_,rfl,by rw [HW.out];exact HO.out,HBE.out⟩
theorem qaig (x:FsV) (f:Fsd) (a:Option Addr) (n c:Nat) (R:Lvs) (nx sq:Int) (lg:List UInt8) (w:World) (h:RdX w x f) (hw:WfX f) (hrd:RdVw w (.slice a n c) R) (hn:n≤1000) (hT:(lvs R).flatten.length≤100000):
  Calls Tryz.prog 24 #[x.val,.agg #[.slice a n c,.int .i64 nx,.int .i64 sq,.string (bs lg)]] w fun e w'=>∃v,e=.returned (.tuple #[v,.int .i64 (savM f (lvs R,nx,sq,lg)).2])∧OwFs w' w.heap.size v (savM f (lvs R,nx,sq,lg)).1∧Below w.heap.size w w':=by
 have HX:=hide h;have HW:=hide hw;have HRV:=hide hrd;have HNT:=hide (And.intro hn hT);obtain ⟨V,hV⟩:∃V,V=(lvs R,nx,sq,lg):=⟨_,rfl⟩;have HVV:=hide hV;rw [←hV];clear hV;obtain ⟨u1,eu1⟩:∃u,w.alloc (.cells x.cs 33)=u:=⟨_,rfl⟩
 have q1:Below w.heap.size w u1:=by rw [←eu1];exact (Below.refl _ _).alloc (Nat.le_refl _) _
 have z1:u1.heap.size=w.heap.size+1:=by rw [←eu1];simp
 obtain ⟨u2,eu2⟩:∃u,u1.alloc (.cells #[.slice a n c,.int .i64 nx,.int .i64 sq,.string (bs lg)] 36)=u:=⟨_,rfl⟩
 have q2:Below u1.heap.size u1 u2:=by rw [←eu2];exact (Below.refl _ _).alloc (Nat.le_refl _) _
 have z2:u2.heap.size=w.heap.size+2:=by rw [←eu2];simp [z1]
 obtain ⟨w1,eu3⟩:∃u,u2.alloc (.cells #[.slice none 0 0,.slice none 0 0,.slice none 0 0,.int .u32 0,.slice none 0 0,.slice none 0 0] 33)=u:=⟨_,rfl⟩
 have q3:Below u2.heap.size u2 w1:=by rw [←eu3];exact (Below.refl _ _).alloc (Nat.le_refl _) _
 have qbe:=hide (show FsAt w1 w.heap.size x from ((show FsAt u1 w.heap.size x by rw [←eu1];exact Bq.new w 33 x.cs).carry q2).carry q3);have qadv:=hide ((show VvAt u2 (w.heap.size+1) (.slice a n c) nx sq lg by rw [←eu2,←z1];exact VvAt.new u1 _ nx sq lg).carry q3);have qcn:=hide (show FsB w1 (w.heap.size+2) by rw [←eu3,←z2];exact FsB.new _);have qad:=hide (show Below w.heap.size w w1 from (q1.trans (q2.mono (by omega))).trans (q3.mono (by omega)));obtain ⟨k0,k1,k2,k3,k4,k5⟩:=qab qbe.out;clear h hw hrd hn hT q1 q2 q3;unfold FsV.val;unfold FsV.cs at eu1
 go_enter Tryz.func24,Tryz.ntmps24
 go_wp2_with fail
 try rw [eu1]
 try rw [eu2]
 try rw [eu3]
 try simp only [z1,z2]
 clear eu1 eu2 eu3 z1 z2
 refine (qem x f w1 (HX.out.carry qad.out) HW.out).mono ?_
 rintro e w2 ⟨rfl,hb2⟩;have qb9:=hide (qbe.out.carry hb2);have qbi:=hide (qcn.out.carry hb2);have qadw:=hide (qadv.out.carry hb2);have qae:=hide (qad.out.trans (hb2.mono qad.out.size));clear k0 k1 k2 k3 k4 k5 hb2;obtain ⟨E,hE⟩:∃E,E=fsE f:=⟨_,rfl⟩;rw [←hE];have HEE:=hide hE;clear hE
 by_cases g1:E=0
 case neg=>
  have HE:=hide (qaja (f:=f) (V:=V) (by rw [←HEE.out];exact g1));have HE8:=hide (qtv (f:=f) (by rw [←HEE.out];exact g1))
  have g2:(E !=0)=true:=by simpa using g1
  have g3:(E==0)=false:=by simpa using g1
  obtain ⟨w9,d0,d1,d2,d3,d4,d5,hw9,HST,e0,e1,e2,e3,e4,e5,f0,f1,f2,f3,f4,f5,z0,z1,z2,z3,z4,z5⟩:=qdu qbi qae (show w.heap.size≤w.heap.size+2 by omega);go_wp2
  try rw [hw9]
  clear hw9 e0 e1 e2 e3 e4 e5 f0 f1 f2 f3 f4 f5
  try simp only [Exit.inBlock,Exit.then]
  refine bodyPost_ret ?_ rfl (zR2 HE HE8.out HST)
  simp [results,Tryz.results24,go_sem, *]
 subst g1;have hcon:=qtx a n c R nx sq lg w2 (HRV.out.carry qae.out) HNT.out.1 HNT.out.2;rw [←HVV.out] at hcon;obtain ⟨C,hC⟩:∃C,C=chkV V:=⟨_,rfl⟩;rw [←hC] at hcon;have HC:=hide hC;obtain ⟨v0,v1,v2,v3⟩:=qadw.out.cells;clear hC
 go_wp2_with fail
 refine hcon.mono ?_
 rintro e w4 ⟨v4,rfl,ho4,hb4⟩;have qfq:=hide (qb9.out.carry hb4);have qek:=hide (qbi.out.carry hb4);have qbh:=hide (qae.out.trans (hb4.mono qae.out.size));obtain ⟨a4,c4,e4⟩:=ho4.form;obtain ⟨n4,hn4⟩:∃n4,n4=(wrtB V).length:=⟨_,rfl⟩;rw [←hn4] at e4;subst e4;have HBR0:=hide ho4.rd;clear hcon hb4 ho4 v0 v1 v2 v3 hn4 qadv qadw
 by_cases g1:C=0
 case neg=>
  have HE:=hide (qajb (f:=f) (V:=V) HEE.out.symm (by rw [←HC.out];exact g1))
  have g2:(C !=0)=true:=by simpa using g1
  have g3:(C==0)=false:=by simpa using g1
  obtain ⟨w9,d0,d1,d2,d3,d4,d5,hw9,HST,e0,e1,e2,e3,e4,e5,f0,f1,f2,f3,f4,f5,z0,z1,z2,z3,z4,z5⟩:=qdu qek qbh (show w.heap.size≤w.heap.size+2 by omega);go_wp2
  try rw [hw9]
  clear hw9 e0 e1 e2 e3 e4 e5 f0 f1 f2 f3 f4 f5
  try simp only [Exit.inBlock,Exit.then]
  refine bodyPost_ret ?_ rfl (zR2 HE HC.out.symm HST)
  simp [results,Tryz.results24,go_sem, *]
 subst g1;obtain ⟨B,hB⟩:∃B,B=verB V:=⟨_,rfl⟩;have HBE:=hide hB
 have HBR:=hide (show Rd w4 (.slice a4 n4 c4) B by
  have:=HBR0.out
  unfold wrtB at this;rw [if_pos HC.out.symm,←hB] at this
  exact this)
 have HBN:=hide (show B.length≤1000000 by rw [hB];have:=qh8 HC.out.symm;omega);obtain ⟨m,hm⟩:∃m,m=(tx B).length:=⟨_,rfl⟩;have HM:=hide hm;have HTX:=hide (show (tx B).length≤1000000 by rw [hB];have h6:=qh8 HC.out.symm;have:=qbk (verB V) (by omega);omega);obtain ⟨⟨F9,E9⟩,h9⟩:∃D:Fsd × Int,D=qcy f nexN (tx B):=⟨_,rfl⟩;have HN9:=hide h9
 have HSTO:=hide (show ∀(wx:World) (a9:Option Addr) (c9:Nat),Below w4.heap.size w4 wx→Rd wx (.slice a9 m c9) (tx B)→Calls Tryz.prog 21 #[x.val,.string {data:=#[110,101,120,116]},.slice a9 m c9] wx fun e w'=>∃v,e=.returned v∧∃y:FsV,v=.tuple #[y.val,.int .i64 E9]∧OwFs w' wx.heap.size y.val F9∧Below wx.heap.size wx w' by
  intro wx a9 c9 hx hr;have hh:=qtw x f nexN a9 m c9 (tx B) wx ((HX.out.carry qbh.out).carry hx) HW.out hr HM.out HTX.out;rw [←h9] at hh
  refine hh.mono fun e w' ⟨v,h1,h2,h3⟩=>?_
  obtain ⟨y,ey, -,h4⟩:=h2.bx;subst ey
  exact ⟨_,h1,y,rfl,h4,h3⟩)
 clear hB hm h9 HBR0
 go_wp2_with fail
 refine qg4 (α:=(Option Addr × Nat) × (Nat × FsV)) (F:=fun bx a=>(((((((((((a.put (some 24) (.agg #[.slice x.a1 x.n1 x.c1,.slice x.a2 x.n2 x.c2,.slice x.a3 x.n3 x.c3,.int .u32 x.g,.slice x.a4 x.n4 x.c4,.slice x.a5 x.n5 x.c5])).put (some 25) (.slice a4 n4 c4)).put (some 26) (.string (bs B))).put (some 27) (.slice bx.1.1 m bx.1.2)).put (some 28) (.tuple #[bx.2.2.val,.int .i64 E9])).put (some 23) (.tuple #[bx.2.2.val,.int .i64 E9])).put (some 29) bx.2.2.val).put (some 30) (.int .i64 E9)).put (some 8) (.pointer (some ⟨bx.2.1,0,none⟩))).put none undef).put (some 7) (.int .i64 E9))) (R:=fun bx wz=>Below w4.heap.size w4 wz∧FsAt wz bx.2.1 bx.2.2∧OwFs wz w.heap.size bx.2.2.val F9∧w4.heap.size≤bx.2.1) ?regqz ?impqz
 case regqz=>
  have hK:Keeps (fun wx=>Below w4.heap.size w4 wx):=fun w1 w2 h hb=>h.trans (hb.mono h.size)
  have hS0:(fun wx=>Below w4.heap.size w4 wx) w4:=Below.refl _ _
  refine qaj hK (by kernel_rfl) hS0 ?_
  intro hS;generalize w4.drew=wd at *
  refine rU 0 ?qz1v rfl ?qz1y hS ?qz1r
  case qz1y=>(rintro wx hx;obtain ⟨k0,k1,k2,k3,k4,k5⟩:=qab (qfq.out.carry hx);have r1:=qdw (HBR.out.carry hx);go_simp;all_goals (with_reducible rfl))
  try simp only [Act.put,sA,sB,sC]
  refine rU 1 ?qz2v rfl ?qz2y hS ?qz2r
  case qz2y=>(rintro wx hx;obtain ⟨k0,k1,k2,k3,k4,k5⟩:=qab (qfq.out.carry hx);have r1:=qdw (HBR.out.carry hx);go_simp;all_goals (with_reducible rfl))
  try simp only [Act.put,sA,sB,sC]
  refine rU 2 ?qz3v rfl ?qz3y hS ?qz3r
  case qz3y=>(rintro wx hx;obtain ⟨k0,k1,k2,k3,k4,k5⟩:=qab (qfq.out.carry hx);have r1:=qdw (HBR.out.carry hx);go_simp;all_goals (with_reducible rfl))
  try simp only [Act.put,sA,sB,sC]
  refine qgc (i:=3) (j:=8) (by kernel_rfl) ?_ ?_
  ·skip
   refine qds (R:=fun v wy=>∃a c,v=.slice a m c∧Rd wy (.slice a m c) (tx B)∧Below wd.heap.size wd wy) rfl (by kernel_rfl) (by go_simp;try rfl) ((qjl B wd HBN.out).mono fun e wy ⟨v,h1,h2,h3⟩=>by obtain ⟨a9,c9,e9⟩:=h2.form;rw [←HM.out] at e9;subst e9;exact ⟨_,h1,a9,c9,rfl,h2.rd,h3⟩) ?_
   rintro v9 wqz4 ⟨at9,ct9,rfl,hrt,hbb⟩;have hSN:=hK _ _ hS hbb;refine ⟨hSN, ?_⟩;have Hqz5:=(hrt);clear hrt;clear hS hbb;have hS:=hSN;clear hSN
   try simp only [Act.put,sA,sB,sC]
   refine qgc (i:=4) (j:=8) (by kernel_rfl) ?_ ?_
   ·skip
    refine qds (R:=fun v wy=>∃y:FsV,v=.tuple #[y.val,.int .i64 E9]∧OwFs wy wqz4.heap.size y.val F9∧Below wqz4.heap.size wqz4 wy) rfl (by kernel_rfl) (by go_simp;try rfl) (HSTO.out wqz4 at9 ct9 hS Hqz5) ?_
    rintro v9 wqz6 ⟨y7,rfl,h7,hbb⟩;have hSN:=hK _ _ hS hbb;refine ⟨hSN, ?_⟩;have Hqz7:=Hqz5.carry hbb;have Hqz8:=(h7.mono (Nat.le_trans qbh.out.size hS.size));clear h7;clear hS hbb;have hS:=hSN;clear hSN
    try simp only [Act.put,sA,sB,sC]
    refine rP [5,6,7] 3 ?zp1a ?zp1p hS ?zp1n
    case zp1p=>
     iterate 3 (apply Yl.cons rfl (by kernel_rfl);focus (rintro wx hx;obtain ⟨k0,k1,k2,k3,k4,k5⟩:=qab (qfq.out.carry hx);have r1:=qdw (HBR.out.carry hx);go_simp;all_goals (with_reducible rfl));try simp only [Act.put,sA,sB,sC])
     exact Yl.nil
    obtain ⟨wqz12,ewqz12⟩:∃wN,wqz6.alloc (.cells #[.slice none 0 0,.slice none 0 0,.slice none 0 0,.int .u32 0,.slice none 0 0,.slice none 0 0] 33)=wN:=⟨_,rfl⟩
    have hbb:Below wqz6.heap.size wqz6 wqz12:=by rw [←ewqz12];exact (Below.refl _ _).alloc (Nat.le_refl _) _
    have hSN:=hK _ _ hS hbb;have Hqz13:=Hqz7.carry hbb;have Hqz14:=Hqz8.carry hbb;obtain ⟨Aqz15,hAqz15⟩:∃A,A=wqz6.heap.size:=⟨_,rfl⟩
    have Hqz15:FsB wqz12 Aqz15:=by rw [←ewqz12,hAqz15];exact FsB.new wqz6
    have Lqz15:w4.heap.size≤Aqz15:=by rw [hAqz15];exact hS.size
    refine qpm (i:=8) (v:=.pointer (some ⟨Aqz15,0,none⟩)) (w':=wqz12) rfl (by kernel_rfl) (by kernel_rfl) (by rw [←ewqz12,hAqz15];go_simp) hSN ?_
    clear hS hbb ewqz12 hAqz15;have hS:=hSN;clear hSN
    try simp only [Act.put,sA,sB,sC]
    obtain ⟨⟨d0,e0⟩,⟨d1,e1⟩,⟨d2,e2⟩,⟨d3,e3⟩,⟨d4,e4⟩,⟨d5,e5⟩,ff⟩:=Hqz15.cells;have f0:=ff 0;have f1:=ff 1;have f2:=ff 2;have f3:=ff 3;have f4:=ff 4;have f5:=ff 5;obtain ⟨hat,hgr⟩:=Hqz15.put y7;obtain ⟨wqz16,ewqz16⟩:∃wN,set6 wqz12 Aqz15 y7=wN:=⟨_,rfl⟩;rw [ewqz16] at hat hgr;have hSN:=hS.grown hgr hS.size (by intro k hk;cases hk;exact Lqz15);obtain ⟨_,_,_,_,_,_,hqq⟩:=Hqz15;have how:=Hqz14.keptS hgr hqq (by decide) (by decide) (by decide) (by decide) (by decide);clear hqq;have hat8:=hat;unfold set6 at ewqz16
    try dsimp only at ewqz16
    clear hgr ff
    refine qdo (i:=9) (w':=wqz16) rfl (by kernel_rfl) (by kernel_rfl) (by rw [←ewqz16];go_simp) hSN ?_
    clear hS ewqz16 e0 e1 e2 e3 e4 e5 f0 f1 f2 f3 f4 f5;have hS:=hSN;clear hSN
    try simp only [Act.put,sA,sB,sC]
    refine rU 10 ?qz17v rfl ?qz17y hS ?qz17r
    case qz17y=>(rintro wx hx;obtain ⟨k0,k1,k2,k3,k4,k5⟩:=qab (qfq.out.carry hx);have r1:=qdw (HBR.out.carry hx);go_simp;all_goals (with_reducible rfl))
    try simp only [Act.put,sA,sB,sC]
    refine rD ?_
    exact ⟨rfl,((at9,ct9),(Aqz15,y7)),by simp only [Act.put,sA,sB,sC],hS,hat8,how,Lqz15⟩
   ·skip
    obtain ⟨wqz18,ewqz18⟩:∃wN,wqz4.alloc (.cells #[.slice none 0 0,.slice none 0 0,.slice none 0 0,.int .u32 0,.slice none 0 0,.slice none 0 0] 33)=wN:=⟨_,rfl⟩
    have hbb:Below wqz4.heap.size wqz4 wqz18:=by rw [←ewqz18];exact (Below.refl _ _).alloc (Nat.le_refl _) _
    have hSN:=hK _ _ hS hbb;have Hqz19:=Hqz5.carry hbb;obtain ⟨Aqz20,hAqz20⟩:∃A,A=wqz4.heap.size:=⟨_,rfl⟩
    have Hqz20:FsB wqz18 Aqz20:=by rw [←ewqz18,hAqz20];exact FsB.new wqz4
    have Lqz20:w4.heap.size≤Aqz20:=by rw [hAqz20];exact hS.size
    refine qgd (v:=.pointer (some ⟨Aqz20,0,none⟩)) (w':=wqz18) rfl (by kernel_rfl) (by rw [←ewqz18,hAqz20];go_simp) ⟨hSN, ?_⟩;clear hS hbb ewqz18 hAqz20;have hS:=hSN;clear hSN
    try simp only [Act.put,sA,sB,sC]
    refine qa9 (i:=4) (R:=fun v wy=>∃y:FsV,v=.tuple #[y.val,.int .i64 E9]∧OwFs wy wqz18.heap.size y.val F9∧Below wqz18.heap.size wqz18 wy) rfl (by kernel_rfl) (by kernel_rfl) (by go_simp;try rfl) (HSTO.out wqz18 at9 ct9 hS Hqz19) ?_
    rintro v9 wqz21 ⟨y7,rfl,h7,hbb⟩;have hSN:=hK _ _ hS hbb;refine ⟨hSN, ?_⟩;have Hqz22:=Hqz19.carry hbb;have Hqz23:=Hqz20.carry hbb;have Hqz24:=(h7.mono (Nat.le_trans qbh.out.size hS.size));clear h7;clear hS hbb;have hS:=hSN;clear hSN
    try simp only [Act.put,sA,sB,sC]
    refine rP [5,6,7] 2 ?zp2a ?zp2p hS ?zp2n
    case zp2p=>
     iterate 3 (apply Yl.cons rfl (by kernel_rfl);focus (rintro wx hx;obtain ⟨k0,k1,k2,k3,k4,k5⟩:=qab (qfq.out.carry hx);have r1:=qdw (HBR.out.carry hx);go_simp;all_goals (with_reducible rfl));try simp only [Act.put,sA,sB,sC])
     exact Yl.nil
    obtain ⟨⟨d0,e0⟩,⟨d1,e1⟩,⟨d2,e2⟩,⟨d3,e3⟩,⟨d4,e4⟩,⟨d5,e5⟩,ff⟩:=Hqz23.cells;have f0:=ff 0;have f1:=ff 1;have f2:=ff 2;have f3:=ff 3;have f4:=ff 4;have f5:=ff 5;obtain ⟨hat,hgr⟩:=Hqz23.put y7;obtain ⟨wqz28,ewqz28⟩:∃wN,set6 wqz21 Aqz20 y7=wN:=⟨_,rfl⟩;rw [ewqz28] at hat hgr;have hSN:=hS.grown hgr hS.size (by intro k hk;cases hk;exact Lqz20);obtain ⟨_,_,_,_,_,_,hqq⟩:=Hqz23;have how:=Hqz24.keptS hgr hqq (by decide) (by decide) (by decide) (by decide) (by decide);clear hqq;have hat8:=hat;unfold set6 at ewqz28
    try dsimp only at ewqz28
    clear hgr ff
    refine qdo (i:=9) (w':=wqz28) rfl (by kernel_rfl) (by kernel_rfl) (by rw [←ewqz28];go_simp) hSN ?_
    clear hS ewqz28 e0 e1 e2 e3 e4 e5 f0 f1 f2 f3 f4 f5;have hS:=hSN;clear hSN
    try simp only [Act.put,sA,sB,sC]
    refine rU 10 ?qz29v rfl ?qz29y hS ?qz29r
    case qz29y=>(rintro wx hx;obtain ⟨k0,k1,k2,k3,k4,k5⟩:=qab (qfq.out.carry hx);have r1:=qdw (HBR.out.carry hx);go_simp;all_goals (with_reducible rfl))
    try simp only [Act.put,sA,sB,sC]
    refine rD ?_
    exact ⟨rfl,((at9,ct9),(Aqz20,y7)),by simp only [Act.put,sA,sB,sC],hS,hat8,how,Lqz20⟩
  ·skip
   obtain ⟨wqz30,ewqz30⟩:∃wN,wd.alloc (.cells #[.slice none 0 0,.slice none 0 0,.slice none 0 0,.int .u32 0,.slice none 0 0,.slice none 0 0] 33)=wN:=⟨_,rfl⟩
   have hbb:Below wd.heap.size wd wqz30:=by rw [←ewqz30];exact (Below.refl _ _).alloc (Nat.le_refl _) _
   have hSN:=hK _ _ hS hbb;obtain ⟨Aqz31,hAqz31⟩:∃A,A=wd.heap.size:=⟨_,rfl⟩
   have Hqz31:FsB wqz30 Aqz31:=by rw [←ewqz30,hAqz31];exact FsB.new wd
   have Lqz31:w4.heap.size≤Aqz31:=by rw [hAqz31];exact hS.size
   refine qgd (v:=.pointer (some ⟨Aqz31,0,none⟩)) (w':=wqz30) rfl (by kernel_rfl) (by rw [←ewqz30,hAqz31];go_simp) ⟨hSN, ?_⟩;clear hS hbb ewqz30 hAqz31;have hS:=hSN;clear hSN
   try simp only [Act.put,sA,sB,sC]
   refine qa9 (i:=3) (R:=fun v wy=>∃a c,v=.slice a m c∧Rd wy (.slice a m c) (tx B)∧Below wqz30.heap.size wqz30 wy) rfl (by kernel_rfl) (by kernel_rfl) (by go_simp;try rfl) ((qjl B wqz30 HBN.out).mono fun e wy ⟨v,h1,h2,h3⟩=>by obtain ⟨a9,c9,e9⟩:=h2.form;rw [←HM.out] at e9;subst e9;exact ⟨_,h1,a9,c9,rfl,h2.rd,h3⟩) ?_
   rintro v9 wqz32 ⟨at9,ct9,rfl,hrt,hbb⟩;have hSN:=hK _ _ hS hbb;refine ⟨hSN, ?_⟩;have Hqz33:=Hqz31.carry hbb;have Hqz34:=(hrt);clear hrt;clear hS hbb;have hS:=hSN;clear hSN
   try simp only [Act.put,sA,sB,sC]
   refine qa9 (i:=4) (R:=fun v wy=>∃y:FsV,v=.tuple #[y.val,.int .i64 E9]∧OwFs wy wqz32.heap.size y.val F9∧Below wqz32.heap.size wqz32 wy) rfl (by kernel_rfl) (by kernel_rfl) (by go_simp;try rfl) (HSTO.out wqz32 at9 ct9 hS Hqz34) ?_
   rintro v9 wqz35 ⟨y7,rfl,h7,hbb⟩;have hSN:=hK _ _ hS hbb;refine ⟨hSN, ?_⟩;have Hqz36:=Hqz33.carry hbb;have Hqz37:=Hqz34.carry hbb;have Hqz38:=(h7.mono (Nat.le_trans qbh.out.size hS.size));clear h7;clear hS hbb;have hS:=hSN;clear hSN
   try simp only [Act.put,sA,sB,sC]
   refine rP [5,6,7] 2 ?zp3a ?zp3p hS ?zp3n
   case zp3p=>
    iterate 3 (apply Yl.cons rfl (by kernel_rfl);focus (rintro wx hx;obtain ⟨k0,k1,k2,k3,k4,k5⟩:=qab (qfq.out.carry hx);have r1:=qdw (HBR.out.carry hx);go_simp;all_goals (with_reducible rfl));try simp only [Act.put,sA,sB,sC])
    exact Yl.nil
   obtain ⟨⟨d0,e0⟩,⟨d1,e1⟩,⟨d2,e2⟩,⟨d3,e3⟩,⟨d4,e4⟩,⟨d5,e5⟩,ff⟩:=Hqz36.cells;have f0:=ff 0;have f1:=ff 1;have f2:=ff 2;have f3:=ff 3;have f4:=ff 4;have f5:=ff 5;obtain ⟨hat,hgr⟩:=Hqz36.put y7;obtain ⟨wqz42,ewqz42⟩:∃wN,set6 wqz35 Aqz31 y7=wN:=⟨_,rfl⟩;rw [ewqz42] at hat hgr;have hSN:=hS.grown hgr hS.size (by intro k hk;cases hk;exact Lqz31);obtain ⟨_,_,_,_,_,_,hqq⟩:=Hqz36;have how:=Hqz38.keptS hgr hqq (by decide) (by decide) (by decide) (by decide) (by decide);clear hqq;have hat8:=hat;unfold set6 at ewqz42
   try dsimp only at ewqz42
   clear hgr ff
   refine qdo (i:=9) (w':=wqz42) rfl (by kernel_rfl) (by kernel_rfl) (by rw [←ewqz42];go_simp) hSN ?_
   clear hS ewqz42 e0 e1 e2 e3 e4 e5 f0 f1 f2 f3 f4 f5;have hS:=hSN;clear hSN
   try simp only [Act.put,sA,sB,sC]
   refine rU 10 ?qz43v rfl ?qz43y hS ?qz43r
   case qz43y=>(rintro wx hx;obtain ⟨k0,k1,k2,k3,k4,k5⟩:=qab (qfq.out.carry hx);have r1:=qdw (HBR.out.carry hx);go_simp;all_goals (with_reducible rfl))
   try simp only [Act.put,sA,sB,sC]
   refine rD ?_
   exact ⟨rfl,((at9,ct9),(Aqz31,y7)),by simp only [Act.put,sA,sB,sC],hS,hat8,how,Lqz31⟩
 case impqz=>
 rintro ⟨⟨at9,ct9⟩,A8,y9⟩ ws ⟨hb3,hat8,how8,hge8⟩
 try simp only [Act.put,sA,sB,sC]
 have HY_ws:=hide hat8;have HO_ws:=hide how8;dsimp only at HY_ws HO_ws;have qte:=hide (qek.out.carry hb3);have qqu:=hide (qbh.out.trans (hb3.mono qbh.out.size));clear hb3 hat8 how8 hge8
 by_cases g1:E9=0
 case neg=>
  have HE:=hide (qajc (f:=f) (V:=V) HEE.out.symm HC.out.symm (by rw [←HBE.out,←HN9.out];exact g1));rw [←HBE.out,←HN9.out] at HE
  have g2:(E9 !=0)=true:=by simpa using g1
  have g3:(E9==0)=false:=by simpa using g1
  obtain ⟨w9,d0,d1,d2,d3,d4,d5,hw9,HST,e0,e1,e2,e3,e4,e5,f0,f1,f2,f3,f4,f5,z0,z1,z2,z3,z4,z5⟩:=qdu qte qqu (show w.heap.size≤w.heap.size+2 by omega);go_wp2
  try rw [hw9]
  clear hw9 e0 e1 e2 e3 e4 e5 f0 f1 f2 f3 f4 f5
  try simp only [Exit.inBlock,Exit.then]
  refine bodyPost_ret ?_ rfl (zR HE HST)
  simp [results,Tryz.results24,go_sem, *]
 subst g1;have HE:=hide (qajd (f:=f) (V:=V) HEE.out.symm HC.out.symm (by rw [←HBE.out,←HN9.out]));rw [←HBE.out,←HN9.out] at HE
 have HWF:=hide (show WfX F9 by
  obtain ⟨y,e1, -, -, -, -,h1, -⟩:=qac5 (f:=f) (s:=nexN) (b:=tx B) (by rw [←HN9.out])
  have:F9=y:=by rw [←HN9.out] at e1;exact (Prod.ext_iff.1 e1).1
  rw [this];exact qag7 h1)
 obtain ⟨k0,k1,k2,k3,k4,k5⟩:=qab HY_ws.out;have hcon:=qtn y9 F9 nexN curN ws (qvg HO_ws.out) HWF.out;rw [show bs nexN={data:=#[110,101,120,116]} from rfl,show bs curN={data:=#[99,117,114,114,101,110,116]} from rfl] at hcon;obtain ⟨⟨F7,E7⟩,h7⟩:∃D:Fsd × Int,D=qby F9 nexN curN:=⟨_,rfl⟩;rw [←h7] at hcon HE;clear h7
 go_wp2_with fail
 clear k0 k1 k2 k3 k4 k5
 refine hcon.mono ?_
 rintro e w7 ⟨v7,rfl,ho7,hb7⟩;have qiz:=hide (qte.out.carry hb7);have qd4:=hide (qqu.out.trans (hb7.mono qqu.out.size));obtain ⟨y7,e7, -,ho7'⟩:=ho7.bx;subst e7;obtain ⟨w9,ew9⟩:∃w9,w7.alloc (.cells y7.cs 33)=w9:=⟨_,rfl⟩
 have hb9:Below w7.heap.size w7 w9:=by rw [←ew9];exact (Below.refl _ _).alloc (Nat.le_refl _) _
 have qajn:=hide (qiz.out.carry hb9);have qal7:=hide (qd4.out.trans (hb9.mono qd4.out.size));have HO9:=hide ((ho7'.mono qqu.out.size).carry hb9);have HQ9:=hide (show FsAt w9 w7.heap.size y7 by rw [←ew9];exact Bq.new _ _ _);clear hcon hb7 hb9 ho7 ho7';unfold FsV.cs at ew9;unfold FsV.val;obtain ⟨p0,p1,p2,p3,p4,p5⟩:=qab HQ9.out;obtain ⟨⟨d0,e0⟩,⟨d1,e1⟩,⟨d2,e2⟩,⟨d3,e3⟩,⟨d4,e4⟩,⟨d5,e5⟩,ff⟩:=qajn.out.cells;have f0:=ff 0;have f1:=ff 1;have f2:=ff 2;have f3:=ff 3;have f4:=ff 4;have f5:=ff 5;have hst:=HO9.out.assign qajn.out (w0:=w) qal7.out (by omega);obtain ⟨w8,ew8⟩:∃w8,set6 w9 (w.heap.size+2) y7=w8:=⟨_,rfl⟩;rw [ew8] at hst;have HST9:=hide hst;unfold set6 at ew8;have EWS:=hide ew8;clear hst ew8 ff;go_wp2
 try rw [ew9]
 try rw [EWS.out]
 obtain ⟨s0,s1,s2,s3,s4,s5⟩:=qab HST9.out.2.2.1;clear EWS ew9 f0 f1 f2 f3 f4 f5 e0 e1 e2 e3 e4 e5 p0 p1 p2 p3 p4 p5
 refine bodyPost_ret (v:=.tuple #[y7.val,.int .i64 E7]) ?_ rfl ⟨y7.val, ?_, ?_,HST9.out.2.1⟩
 ·simp [results,Tryz.results24,go_sem,s0,s1,s2,s3,s4,s5]
 ·rw [HE.out]
 ·rw [HE.out];exact HST9.out.1
def RkS (w wx:World) (Q:Nat) (r:List UInt8) (bad:Bool):Prop:=
 ∃a' n' c',RdrAt wx Q (.slice a' n' c') bad∧n'=r.length∧Rd w (.slice a' n' c') r∧w.heap.size≤Q∧Below w.heap.size w wx∧r.length≤1000000
theorem RkS.below {w wx:World} {Q:Nat} {r:List UInt8} {bad:Bool} (h:RkS w wx Q r bad):Below w.heap.size w wx:=by
 obtain ⟨_,_,_,_,_,_,_,h,_⟩:=h;exact h
theorem RkS.lt {w wx:World} {Q:Nat} {r:List UInt8} {bad:Bool} (h:RkS w wx Q r bad):Q<wx.heap.size:=by
 obtain ⟨_,_,_,h,_⟩:=h;exact (Array.getElem?_eq_some_iff.1 h).1
theorem RkS.cell {w wx:World} {Q:Nat} {r:List UInt8} {bad:Bool} (h:RkS w wx Q r bad):wx.cell? ⟨Q,1,none⟩=some (.bool bad):=by
 obtain ⟨_,_,_,h,_⟩:=h;exact h.cell1
theorem RkS.carry {w wx wy:World} {Q:Nat} {r:List UInt8} {bad:Bool} (h:RkS w wx Q r bad) (hb:Below wx.heap.size wx wy):RkS w wy Q r bad:=by
 obtain ⟨a,n,c,h1,h2,h3,h4,h5,h6⟩:=h;exact ⟨a,n,c,h1.carry hb,h2,h3,h4,h5.trans (hb.mono h5.size),h6⟩
theorem RkS.low {w wx wy:World} {Q:Nat} {r:List UInt8} {bad:Bool} (h:RkS w wx Q r bad) (hb:Below (Q+1) wx wy):RkS w wy Q r bad:=by
 obtain ⟨a,n,c,h1,h2,h3,h4,h5,h6⟩:=h;exact ⟨a,n,c,(hb.block Q (Nat.lt_succ_self _)).trans h1,h2,h3,h4,h5.trans (hb.mono (Nat.le_succ_of_le h4)),h6⟩
theorem RkS.set {w wx:World} {Q X:Nat} {r:List UInt8} {bad:Bool} (h:RkS w wx Q r bad) (hX:Q<X) (j:Nat) (u:Value):RkS w (wx.setCell ⟨X,j,none⟩ u) Q r bad:=by
 obtain ⟨a,n,c,h1,h2,h3,h4,h5,h6⟩:=h;exact ⟨a,n,c,(heap_setCell_other wx ⟨X,j,none⟩ Q u (fun e:Q=X=>by omega)).trans h1,h2,h3,h4,qcm h5 (by omega) j u,h6⟩
def LoQ (Q:Nat) (w0 wx:World):Prop:=w0.heap.size≤wx.heap.size∧∀k,k<w0.heap.size→k≠Q→wx.heap[k]? =w0.heap[k]?
theorem LoQ.refl (Q:Nat) (w:World):LoQ Q w w:=⟨Nat.le_refl _,fun _ _ _=>rfl⟩
theorem LoQ.carry {Q:Nat} {w0 wx wy:World} (h:LoQ Q w0 wx) (hb:Below wx.heap.size wx wy):LoQ Q w0 wy:=
 ⟨Nat.le_trans h.1 hb.size,fun k hk hq=>(hb.block k (Nat.lt_of_lt_of_le hk h.1)).trans (h.2 k hk hq)⟩
theorem LoQ.grown {Q:Nat} {w0 wx wy:World} (h:LoQ Q w0 wx) (hg:wx.grownBy wy (some Q)) (hs:wx.heap.size≤wy.heap.size):LoQ Q w0 wy:=
 ⟨Nat.le_trans h.1 hs,fun k hk hq=>(hg.block k (Nat.lt_of_lt_of_le hk h.1) (fun e=>hq (Option.some.inj e))).trans (h.2 k hk hq)⟩
theorem LoQ.set {Q X:Nat} {w0 wx:World} (h:LoQ Q w0 wx) (hX:w0.heap.size≤X) (j:Nat) (u:Value):LoQ Q w0 (wx.setCell ⟨X,j,none⟩ u):=
 ⟨by simpa using h.1,fun k hk hq=>(heap_setCell_other wx ⟨X,j,none⟩ k u (fun e:k=X=>by omega)).trans (h.2 k hk hq)⟩
theorem OwG.loq {α:Type} {sz:Nat} {ec:α→List Value} {t:TypeId} {Q:Nat} {w0 wx:World} {base:Nat} {v:Value} {l:List α} (h:OwG sz ec t w0 base v l) (hq:Q<base) (hl:LoQ Q w0 wx):OwG sz ec t wx base v l:=by
 refine ⟨h.1, ?_⟩
 rcases h.2 with h | ⟨g,cap,cur,e,h1,h2,h3⟩
 ·exact .inl h
 ·exact .inr ⟨g,cap,cur,e,h1,(hl.2 g (Array.getElem?_eq_some_iff.1 h2).1 (by omega)).trans h2,h3⟩
def RkC (w wx wy:World) (Q:Nat) (r':List UInt8) (bad':Bool):Prop:=RkS w wy Q r' bad'∧KeepT 200 wx wy∧∀w0,LoQ Q w0 wx→LoQ Q w0 wy
theorem qajo {w wx wy:World} {Q:Nat} {a:Option Addr} {n c:Nat} {r r':List UInt8} {bad':Bool} (hrd:Rd w (.slice a n c) r) (hge:w.heap.size≤Q) (hb:Below w.heap.size w wx) (hl:r'.length≤1000000) (hP:RdrP Q (.slice a n c) r wx r' bad' wy):RkC w wx wy Q r' bad':=by
 obtain ⟨a2,c2,hs,hat,hg,hk⟩:=hP
 have hb2:Below w.heap.size w wy:=hb.grown hg hb.size fun k hk=>by
  have:k=Q:=by simpa using hk.symm
  omega
 exact ⟨⟨a2,_,c2,hat,rfl,hs.1 w hrd,hge,hb2,hl⟩,hk,fun w0 h0=>h0.grown hg hg.size⟩
theorem qty (most:Nat) {w wx:World} {Q:Nat} {r:List UInt8} {bad:Bool} (h:RkS w wx Q r bad):
  Calls Tryz.prog 136 #[.pointer (some ⟨Q,0,none⟩),.int .u64 most] wx fun e wy=>∃m r' bad',e=.returned (.int .u64 (m:Nat))∧NumR most r bad m r' bad'∧RkC w wx wy Q r' bad':=by
 obtain ⟨a,n,c,h1,h2,h3,h4,h5,h6⟩:=h
 refine (qfc Q a n c r bad most wx h1 (h3.carry h5) h2 h6).mono ?_
 rintro e wy ⟨m,r',bad',rfl,hN,hP⟩;exact ⟨m,r',bad',rfl,hN,qajo h3 h4 h5 (Nat.le_trans hN.le.2 h6) hP⟩
theorem qyf {w wx:World} {Q:Nat} {r:List UInt8} {bad:Bool} (h:RkS w wx Q r bad):
  Calls Tryz.prog 137 #[.pointer (some ⟨Q,0,none⟩)] wx fun e wy=>∃s r' bad',e=.returned (.string (bs s))∧TxtR r bad s r' bad'∧RkC w wx wy Q r' bad':=by
 obtain ⟨a,n,c,h1,h2,h3,h4,h5,h6⟩:=h
 refine (qx6 Q a n c r bad wx h1 (h3.carry h5) h2 h6).mono ?_
 rintro e wy ⟨s,r',bad',rfl,hN,hP⟩;exact ⟨s,r',bad',rfl,hN,qajo h3 h4 h5 (Nat.le_trans hN.le h6) hP⟩
set_option synthInstance.maxHeartbeats 400000
set_option synthInstance.maxSize 4000
theorem qaew {α:Type} {sz:Nat} {ec:α→List Value} {t:TypeId} {P:Program} {ts:TypeId} {z:Value} {by_:Nat} (hsz:∀x,(ec x).length=sz) (h0:0<sz) (hts:P.underlying ts=some (.slice t)) (hinfo:(P.info? t).map (fun i=>(i.zero,i.size,i.bytes))=some (some z,sz,by_)) (hz:z.cells.size=sz)
  {w:World} {base:Nat} {v:Value} {l:List α} (h:OwG sz ec t w base v l) (hb:base≤w.heap.size) (hl:(l.length+1)*by_≤140737488355328) (hl2:l.length+1≤maxLen) (x:α) (hone:∀u∈ec x,u.oneCell'=true) (cs:Array Value) (hcs:cs.toList=ec x):
  ∃g c w',(Builtin.append_ #[ts,ts] ts #[v,.slice (some ⟨w.heap.size,0,none⟩) 1 1]).run P (w.alloc (.cells cs t))=.ok (.slice (some ⟨g,0,none⟩) (l.length+1) c) w'∧
   OwG sz ec t w' base (.slice (some ⟨g,0,none⟩) (l.length+1) c) (l++[x])∧Below base w w'∧KeepG t w w':=by
 obtain ⟨w8,ew8⟩:∃w8,w8=w.alloc (.cells cs t):=⟨_,rfl⟩
 have hn8:∀j u,(ec x)[j]? =some u→w8.cell? ((⟨w.heap.size,0,none⟩:Addr).add j)=some u:=by
  intro j u hj
  have:=World.news_of_block (w:=w.alloc (.cells cs t)) (heap_alloc_new w _) j u (by rw [←hcs] at hj;simpa using hj)
  rw [ew8];simpa using this
 rw [←ew8]
 have hb8:Below w.heap.size w w8:=by rw [ew8];exact (Below.refl _ _).alloc (Nat.le_refl _) _
 obtain ⟨i0,hi,hz0,hz1,hz2⟩:=info_parts hinfo;have q2:w8.ownsRow base t sz v l.length (l.flatMap ec):=qa7 h hb8;obtain ⟨v9,w9,hrun9,hown9,hg9,_⟩:=run_append_own (P:=P) w8 base ts ts t i0 z sz by_ hts hi hz0 hz1 hz2 hz h0 _ _ _ q2 ⟨w.heap.size,0,none⟩ 1 1 (ec x) (by rw [hsz];omega) hn8 hone hl2 hl (Nat.le_trans hb hb8.size)
 have hb9:Below base w w9:=(hb8.mono hb).grown hg9 (Nat.le_trans hb hb8.size) fun k hk=>(q2.lt k hk).1
 rcases hown9.2 with ⟨_,h1⟩ | ⟨g,cap,cur,h1,_⟩
 ·exact absurd h1 (by omega)
 ·subst h1
  refine ⟨g,cap,w9,hrun9, ?_,hb9,(KeepG.below hb8).trans (qiw (l:=l) (ec:=ec) q2 hg9)⟩
  have e:(l++[x]).flatMap ec=l.flatMap ec++ec x:=by simp
  unfold OwG;rw [e,List.length_append];exact hown9
theorem qal8 {w:World} {base:Nat} {v:Value} {S:Lvs} (h:OwVw w base v S) (hb:base≤w.heap.size) (hl:S.length≤100000) {a:Option Addr} {n c:Nat} {l:List Mta} (hx:OwM w base (.slice a n c) l):
  ∃g c' w',(Builtin.append_ #[34,34] 34 #[v,.slice (some ⟨w.heap.size,0,none⟩) 1 1]).run Tryz.prog (w.alloc (.cells #[.slice a n c] 105))=.ok (.slice (some ⟨g,0,none⟩) (S.length+1) c') w'∧
   OwVw w' base (.slice (some ⟨g,0,none⟩) (S.length+1) c') (S++[(.slice a n c,l)])∧Below base w w':=by
 obtain ⟨g,c',w',h1,h2,h3,h4⟩:=qaew (P:=Tryz.prog) qmo (by decide) Tryz.underlying34 Tryz.infoW rfl h.1 hb (by omega) (by unfold maxLen;omega) (.slice a n c,l) (by intro u hu;simp [ecW] at hu;subst hu;rfl) #[.slice a n c] rfl;refine ⟨g,c',w',h1,⟨h2,fun p hp=>?_⟩,h3⟩
 rcases List.mem_append.1 hp with hp | hp
 ·exact OwG.keep (h.2 p hp) h4 (by decide)
 ·obtain rfl:=List.mem_singleton.1 hp
  exact OwG.keep hx h4 (by decide)
theorem OwVw.set1v {w:World} {base B j:Nat} {v u:Value} {S:Lvs} (h:OwVw w base v S) (hB:B<base):OwVw (w.setCell ⟨B,j,none⟩ u) base v S:=⟨OwG.set1v h.1 hB,fun p hp=>OwG.set1v (h.2 p hp) hB⟩
end Go.Proofs.YtmeaiocohalphaaGreatDoor

/-
  What dev's Crash does.
-/
import Derived.Test.YtpkdiododlhipaaGreatDAll3
set_option maxHeartbeats 1000000
set_option maxRecDepth 100000
namespace Go.Proofs.YtpkdiododlhipaaGreat
open Go.RowKit
set_option linter.all false
def RdK (w:World) (v:Value) (K:List Bool):Prop:=
 (K=[]∧(v=.slice none 0 0∨∃a c,v=.slice (some a) 0 c))∨
 ∃b off c,v=.slice (some ⟨b,off,none⟩) K.length c∧K.length≤c∧c≤maxLen∧∀j,(h:j<K.length)→w.cell? ⟨b,off+j,none⟩=some (.bool K[j])
theorem RdK.carry {w w':World} {v:Value} {K:List Bool} (h:RdK w v K) (hb:Below w.heap.size w w'):RdK w' v K:=by
 rcases h with h | ⟨b,off,c,rfl,hc,hm,hcell⟩
 ·exact .inl h
 ·exact .inr ⟨b,off,c,rfl,hc,hm,fun j hj=>qaa _ _ _ _ (hcell j hj) hb⟩
theorem RdK.at {w:World} {a:Option Addr} {n c:Nat} {K:List Bool} (h:RdK w (.slice a n c) K) (j:Nat) (hj:j<K.length):∃b off,a=some ⟨b,off,none⟩∧w.cell? ⟨b,off+j,none⟩=some (.bool K[j]):=by
 rcases h with ⟨rfl,_⟩ | ⟨b,off,c',e,_,_,hc⟩
 ·exact absurd hj (by simp)
 ·cases e;exact ⟨b,off,rfl,hc j hj⟩
theorem RdK.len_le {w:World} {v:Value} {K:List Bool} (h:RdK w v K):K.length≤maxLen:=by
 rcases h with ⟨rfl,_⟩ | ⟨b,off,c,rfl,h1,h2,_⟩
 ·simp [maxLen]
 ·omega
theorem qot:∀(l:List Pu) (K:List Bool) (k:Nat) (hk:k<l.length),kept (l.take (k+1)) K=kept (l.take k) K++(if K[k]? =some true then [l[k]] else [])
 | p::l,[],k,hk=>by
  have e:∀x:List Pu,kept x []=[]:=fun x=>by cases x<;>rfl
  rw [e,e];simp
 | p::l,b::K,0,hk=>by
  cases b<;>simp [kept]
 | p::l,b::K,k+1,hk=>by
  have ih:=qot l K k (by simpa using hk)
  have e:∀x:List Pu,kept (p::x) (b::K)=if b then p::kept x K else kept x K:=fun x=>rfl
  rw [List.take_succ_cons,List.take_succ_cons,e,e,ih]
  cases b<;>simp
theorem qf2:∀(l:List Pu) (K:List Bool) (p:Pu),p∈kept l K→p∈l
 | [],K,p,h=>by cases h
 | q::l,[],p,h=>by cases h
 | q::l,b::K,p,h=>by
  have e:kept (q::l) (b::K)=if b then q::kept l K else kept l K:=rfl
  rw [e] at h
  split at h
  ·rcases List.mem_cons.1 h with rfl | h
   ·exact List.mem_cons_self ..
   ·exact List.mem_cons_of_mem _ (qf2 l K p h)
  ·exact List.mem_cons_of_mem _ (qf2 l K p h)
theorem qmz:∀(l:List Pu) (K:List Bool),(kept l K).length≤l.length
 | [],K=>by simp [kept]
 | q::l,[]=>by simp [kept]
 | q::l,b::K=>by
  have e:kept (q::l) (b::K)=if b then q::kept l K else kept l K:=rfl
  have:=qmz l K
  rw [e]
  split<;>simp<;>omega
theorem qm0 {P:Program} (w:World) {ops:Array Oper} {rest:List Oper} {o:Oper} {a:Act} {Q:Exit→Act→World→Prop} (hgd:o.guard=none) (s x:Operand) (t:TypeId) (ho:o.op=.call {callee:=.builtin .append,args:=#[s,x],argTypes:=#[t,t]})
  {v y v':Value} {w':World} (hs:a.eval s=v) (hx:a.eval x=y) (hrun:(Builtin.append_ #[t,t] o.type #[v,y]).run P w=.ok v' w') (h:wpList P ops Q rest (a.put o.dst v') w'):wpList P ops Q (o::rest) a w:=by
 refine wpList_plain hgd fun K' hK'=>?_
 unfold Oper.wp;rw [qmx ho hs hx hrun];exact hK' _ _ h
theorem qab6 {w:World} {base:Nat} {v:Value} {z:List (Pu × Value)} (h2:w.ownsRow base 77 2 v z.length (qdv z)) (h3:∀p∈z,Rd w p.2 p.1.2):RdW w v (z.map (·.1)):=by
 rcases h2.2 with ⟨rfl,hn⟩ | ⟨g,cap,cur,rfl,_,hg,hn,hm,hsz,htake⟩
 ·refine .inl ⟨?_,.inl rfl⟩
  rw [List.length_eq_zero_iff.1 hn];rfl
 ·refine .inr ⟨g,0,cap,by simp,by simpa using hn,hm,fun j hj=>?_⟩
  have hj':j<z.length:=by simpa using hj
  obtain ⟨e1,e2⟩:=qh9 z j hj';have c1:=h2.cells (g:=g) rfl _ _ e1;have c2:=h2.cells (g:=g) rfl _ _ e2;rw [Addr.add_lit] at c1 c2;refine ⟨by simpa using c1,(z[j]).2,by simpa [Nat.add_assoc] using c2, ?_⟩
  have:=h3 z[j] (List.getElem_mem hj')
  simpa using this
theorem qvp {d:Dk} {v:Value} (K:List Bool) (a:Option Addr) (n c:Nat) (w:World) (hD:RdD w v d) (hK:RdK w (.slice a n c) K) (hn:n=K.length):
  Calls Tryz.prog 27 #[v,.slice a n c] w fun e w'=>∃dv,e=.returned (.tuple #[dv,.int .i64 (qd8 d K).2])∧OwD w' w.heap.size dv (qd8 d K).1∧Below w.heap.size w w':=by
 obtain ⟨a1,c1,a2,c2,a3,c3,rfl,_,_,_⟩:=hD.form;have HD:=hide hD;clear hD;have HKK:=hide hK;have HN:=hide hn;have hnm:n≤maxLen:=hn ▸ hK.len_le;unfold maxLen at hnm;clear hK hn;obtain ⟨w1,ew⟩:∃w1,(w.alloc (.cells #[.slice a1 d.1.length c1,.slice a2 d.2.1.length c2,.slice a3 d.2.2.length c3] 27)).alloc (.cells #[.slice none 0 0,.slice none 0 0,.slice none 0 0] 27)=w1:=⟨_,rfl⟩
 have hb1:Below w.heap.size w w1:=by rw [←ew];exact ((Below.refl _ _).alloc (Nat.le_refl _) _).alloc (by simp) _
 have k0:w1.cell? ⟨w.heap.size,0,none⟩=some (.slice a1 d.1.length c1):=by rw [←ew];simp
 have k1:w1.cell? ⟨w.heap.size,1,none⟩=some (.slice a2 d.2.1.length c2):=by rw [←ew];simp
 have k2:w1.cell? ⟨w.heap.size,2,none⟩=some (.slice a3 d.2.2.length c3):=by rw [←ew];simp
 have hr1:w1.heap[w.heap.size+1]? =some (.cells #[.slice none 0 0,.slice none 0 0,.slice none 0 0] 27 (0,0)):=by rw [←ew];exact qb5 _ _ _
 have hs1:w.heap.size+2≤w1.heap.size:=by rw [←ew];simp
 obtain ⟨_,_,_,eD,h1,h2,_⟩:=HD.out;cases eD;have H1:=hide h1;have H2:=hide h2;clear h1 h2;have E1:Hid (∃n1,d.1.length=n1):=⟨_,rfl⟩
 go_enter Tryz.func27,Tryz.ntmps27
 go_wp2_with fail
 refine (qfn (d:=d) _ (HD.out.carry hb1)).mono ?_
 rintro e w2 ⟨rfl,hb2⟩;have hB2:Below w.heap.size w w2:=hb1.trans (hb2.mono hb1.size);have k0':=qaa _ _ _ _ k0 hb2;have k1':=qaa _ _ _ _ k1 hb2;have k2':=qaa _ _ _ _ k2 hb2;have hr2:=qag _ _ _ _ hr1 hb2;have hs2:=Nat.le_trans hs1 hb2.size;clear ew k0 k1 k2 hr1 hb1 hb2 hs1
 rcases qdw d with ⟨hok,hck⟩ | ⟨hok,hck⟩
 ·rw [hck]
  obtain ⟨hfine,hc1,hc2⟩:=Fine.of_ok hok;have HE:=hide (show qd8 d K=((qc7 d.1 (kept d.2.1 K),[],[]),0) by unfold qd8;rw [if_neg (by rw [hck];decide)]);have HF:=hide hfine;clear hfine hck hok;have hn2:d.2.1.length≤65536:=HF.out.2.1;obtain ⟨i0,hi,hz0,hz1,hz2⟩:=info_parts Tryz.infoPut;have HI:=hide hi;have HZ0:=hide hz0;have HZ1:=hide hz1;have HZ2:=hide hz2;clear hi hz0 hz1 hz2;go_wp2
  go_loopw [7,20] (fun kv i wr=>∃(k:Nat) (z:List (Pu × Value)),k≤d.2.1.length∧i=.int .i64 k∧Hid (z.map (·.1)=kept (d.2.1.take k) K)∧Hid (wr.ownsRow w2.heap.size 77 2 kv z.length (qdv z))∧Hid (∀p∈z,Rd w p.2 p.1.2)∧Below w2.heap.size w2 wr) (fun _ i _=>d.2.1.length - (intOf i).toNat)
  case atStart=>exact ⟨0,[],Nat.zero_le _,rfl,by show _=_;cases K<;>rfl,World.ownsRow_nil _ _ _ _,by show ∀p∈_,_;simp,Below.refl _ _⟩
  case round=>
   obtain ⟨k,z,hk,rfl,hz,ho,hp,hbel⟩:=hrel;have hBr:Below w.heap.size w wr:=hB2.trans (hbel.mono hB2.size)
   by_cases hlt:k<d.2.1.length
   ·have hlt':(k:Int)<d.2.1.length:=by omega
    obtain ⟨b,off,rfl,q0,x,m,c',q1,q2,q3⟩:=(H2.out.carry hBr).at k hlt;obtain ⟨_,_,e9,_,x9,m9,c9,p1,p2,p3⟩:=H2.out.at k hlt;cases e9
    have ex:x9=x∧m9=m∧c9=c':=by
     have:=(qaa _ _ _ _ p1 hBr).symm.trans q1
     injection this with this
     injection this with t1 t2 t3
     exact ⟨t1,t2,t3⟩
    obtain ⟨rfl,rfl,rfl⟩:=ex;have HR:=hide p2;have HS:=hide (qot d.2.1 K k hlt);clear q2 q3 p1 p2 p3;have ho1:=hide ((ho.out.alloc (.cells #[.int .i64 (d.2.1[k]).1,.slice x9 m9 c9] 77)))
    by_cases hkn:k<n
    ·have hkn':(k:Int)<n:=by omega
     have hkK:k<K.length:=by have:=HN.out;omega
     obtain ⟨b5,o5,rfl,s0⟩:=(HKK.out.carry hBr).at k hkK
     have s0':=fun o=>qaa _ _ _ _ s0 ((Below.refl _ _).alloc (Nat.le_refl _) o)
     cases hb:K[k] with
     | false=>
      rw [hb] at s0 s0';have HS2:=hide (show kept (d.2.1.take (k+1)) K=kept (d.2.1.take k) K by rw [HS.out,List.getElem?_eq_getElem hkK,hb];simp);clear hb s0;go_wp2;go_roundw
      case rel=>exact ⟨k+1,z,by omega,by go_num,by show _=_;rw [HS2.out];exact hz.out,ho1.out,hp.out,hbel.alloc hbel.size _⟩
      case measure=>simp [intOf]<;>omega
     | true=>
      rw [hb] at s0 s0';have HS2:=hide (show kept (d.2.1.take (k+1)) K=kept (d.2.1.take k) K++[d.2.1[k]] by rw [HS.out,List.getElem?_eq_getElem hkK,hb];simp)
      have hzl:z.length≤65536:=by
       have h1:=congrArg List.length hz.out;have h2:=qmz (d.2.1.take k) K;rw [List.length_map] at h1;rw [List.length_take] at h2;omega
      obtain ⟨wa,ewa⟩:∃wa,wr.alloc (.cells #[.int .i64 (d.2.1[k]).1,.slice x9 m9 c9] 77)=wa:=⟨_,rfl⟩;obtain ⟨wb,ewb⟩:∃wb,wa.alloc (.cells #[.int .i64 (d.2.1[k]).1,.slice x9 m9 c9] 77)=wb:=⟨_,rfl⟩
      have hba:Below wr.heap.size wr wa:=by rw [←ewa];exact (Below.refl _ _).alloc (Nat.le_refl _) _
      have hbb:Below wa.heap.size wa wb:=by rw [←ewb];exact (Below.refl _ _).alloc (Nat.le_refl _) _
      have hob:=qax (qax ho.out hba) hbb
      have hnb:∀j u,([Value.int .i64 (d.2.1[k]).1,.slice x9 m9 c9]:List Value)[j]? =some u→wb.cell? ((⟨wa.heap.size,0,none⟩:Addr).add j)=some u:=by
       intro j u hj;rw [←ewb]
       have:=World.news_of_block (w:=wa.alloc (.cells #[.int .i64 (d.2.1[k]).1,.slice x9 m9 c9] 77)) (heap_alloc_new wa _) j u (by simpa using hj)
       simpa using this
      obtain ⟨va,wc,hrun,hoc,hgc,_⟩:=run_append_own (P:=Tryz.prog) wb w2.heap.size 24 24 77 i0 _ 2 32 Tryz.underlying24 HI.out HZ0.out HZ1.out HZ2.out rfl (by decide) _ _ _ hob ⟨wa.heap.size,0,none⟩ 1 1 [.int .i64 (d.2.1[k]).1,.slice x9 m9 c9] rfl hnb (by intro u hu;simp at hu;rcases hu with rfl | rfl<;>rfl) (by unfold maxLen;omega) (by omega) (Nat.le_trans hbel.size (Nat.le_trans hba.size hbb.size));have hbc:Below w2.heap.size w2 wc:=((hbel.trans (hba.mono hbel.size)).trans (hbb.mono (Nat.le_trans hbel.size hba.size))).grown hgc (Nat.le_trans hbel.size (Nat.le_trans hba.size hbb.size)) (fun k hk=>(ho.out.lt k hk).1);have HOC:=hide hoc
      have s0'':wa.cell? ⟨b5,o5+k,none⟩=some (.bool true):=by rw [←ewa];exact s0' _
      have a0:wa.cell? ⟨wr.heap.size,0,none⟩=some (.int .i64 (d.2.1[k]).1):=by rw [←ewa];simp
      have a1':wa.cell? ⟨wr.heap.size,1,none⟩=some (.slice x9 m9 c9):=by rw [←ewa];simp
      clear hb s0 s0' hob hnb hoc hgc hba hbb ho1
      go_wp2_with (at_builtin;go_must (refine qm0 wb rfl (.tmp 35) (.tmp 37) 24 rfl (v:=_) (y:=.slice (some ⟨wa.heap.size,0,none⟩) 1 1) rfl rfl hrun ?_))
      go_roundw
      case rel=>
       refine ⟨k+1,z++[(d.2.1[k],.slice x9 m9 c9)],by omega,by go_num, ?_, ?_, ?_,hbc⟩
       ·show _=_
        rw [HS2.out,List.map_append,hz.out];rfl
       ·show World.ownsRow _ _ _ _ _ _ _
        rw [qgs,List.length_append];exact HOC.out
       ·intro p hpz
        rcases List.mem_append.1 hpz with h | h
        ·exact hp.out p h
        ·rw [List.mem_singleton.1 h];exact HR.out
      case measure=>simp [intOf]<;>omega
    ·have hkn':decide ((k:Int)<n)=false:=by simpa using (by omega:¬(k:Int)<n)
     have HS2:=hide (show kept (d.2.1.take (k+1)) K=kept (d.2.1.take k) K by rw [HS.out,List.getElem?_eq_none (by have:=HN.out;omega)];simp);go_wp2;go_roundw
     case rel=>exact ⟨k+1,z,by omega,by go_num,by show _=_;rw [HS2.out];exact hz.out,ho1.out,hp.out,hbel.alloc hbel.size _⟩
     case measure=>simp [intOf]<;>omega
   ·have hlt':decide ((k:Int)<d.2.1.length)=false:=by simpa using (by omega:¬(k:Int)<d.2.1.length)
    have hzz:z.map (·.1)=kept d.2.1 K:=by
     have:=hz.out
     rw [List.take_of_length_le (by omega)] at this;exact this
    have hl0:=qaa _ _ _ _ k0' hbel;have hrr:=qag _ _ _ _ hr2 hbel;have hsr:=Nat.le_trans hs2 hbel.size
    have hRW:RdW wr u7 (kept d.2.1 K):=by
     rw [←hzz];exact qab6 ho.out (fun p hpz=>(hp.out p hpz).carry hBr)
    have HRW:=hide hRW;have HKM:=hide (fun p (h:p∈kept d.2.1 K)=>qcp (HF.out.2.2.2 p (qf2 _ _ _ h)));have hkl:=qmz d.2.1 K;have hlen:=HF.out.1;have HL:=hide hlen;have HB9:=hide (show d.1.length≤1000000000 by omega);have HP9:=hide (show 0<d.1.length by omega);clear hlen k0' k1' k2' hr2 hbel hRW hz ho hp hzz
    go_wp2_with fail
    refine (qfh a1 c1 _ d.1 _ rfl HB9.out (H1.out.carry hBr)).mono ?_
    rintro e w4 ⟨dv,rfl,hO4,hb4⟩;obtain ⟨g0,cp,rfl,hg0⟩:=qvl hO4 HP9.out;have hB4:Below w.heap.size w w4:=hBr.trans (hb4.mono hBr.size);have hr4:=qag _ _ _ _ hrr hb4;have hs4:=Nat.le_trans hsr hb4.size;have HW4:=hide (HRW.out.carry hb4);have hg04:g0<w4.heap.size:=(World.ownsRow.lt hO4 g0 rfl).2;obtain ⟨au,cu,rfl⟩:=HRW.out.form;have HO4:=hide hO4;clear hO4 hb4 hrr hl0
    go_wp2_with fail
    refine (qmv au _ cu (kept d.2.1 K) _ rfl (by omega) (fun p h=>by have:=HKM.out p h;omega) HW4.out).mono ?_
    rintro e w5 ⟨b,rfl,hm5,hb5⟩;have hB5:Below w.heap.size w w5:=hB4.trans (hb5.mono hB4.size);have hr5:=qag _ _ _ _ hr4 hb5;have hs5:=Nat.le_trans hs4 hb5.size;have HM5:=hide hm5;have HO5:=hide (HO4.out.carry hb5);clear hm5 hb5 hr4 HO4 HW4
    have hlp:∀(k:Int) (l:List UInt8) (q:List Pu),(∀p∈q,0≤p.1∧p.1<mny d∧p.2.length=128)→qbw k q=some l→0≤k∧k<mny d:=by
     intro k l q
     induction q with
     | nil=>intro _ h;cases h
     | cons p q ih=>
      intro hq h;have e2:qbw k (p::q)=(match qbw k q with | some b=>some b | none=>if p.1=k then some p.2 else none):=rfl;rw [e2] at h
      cases e:qbw k q with
      | some b=>exact ih (fun p hp=>hq p (List.mem_cons_of_mem _ hp)) (by rw [e];rw [e] at h;exact h)
      | none=>
       rw [e] at h
       have:=hq p (List.mem_cons_self ..)
       simp only at h
       split at h
       ·rename_i hk;omega
       ·cases h
    have HLP:=hide (fun k l=>hlp k l (kept d.2.1 K) HKM.out);clear hlp
    go_wp2_with fail
    refine (qvj _ b _ _ _ g0 _ cp (mny d) d.1 _ HM5.out HO5.out hg04 HL.out hc1 (by omega) HLP.out).mono ?_
    rintro e w6 ⟨rfl,hg6,data',hO6,hl6,hk6⟩
    have hp2:∀p∈kept d.2.1 K,0≤p.1∧128*p.1.toNat+128≤d.1.length∧p.2.length=128:=fun p h=>by have:=HKM.out p h;have:=HL.out;omega
    have hdata:data'=qc7 d.1 (kept d.2.1 K):=by
     refine qvh (mny d) (hl6.trans HL.out) ?_ (fun n hn=>?_)
     ·rw [qfk d.1 _ d.1 rfl hp2];exact HL.out
     ·rw [hk6 n hn,qek d.1 n _ d.1 rfl hp2]
    have hB6:Below w.heap.size w w6:=hB5.grown hg6 hB5.size (fun k hk=>by cases hk;have:=hBr.size;omega)
    have hne:some (w.heap.size+1)≠some g0:=fun e=>by
     injection e with e
     omega
    have hr6:=(hg6.block _ (by omega) hne).trans hr5;obtain ⟨ws,ews,hws,hgs⟩:=qa7 (.slice (some ⟨g0,0,none⟩) d.1.length cp) (.slice none 0 0) (.slice none 0 0) hr6;obtain ⟨z1,z2,z3,z4⟩:=cells3 hr6;obtain ⟨q1,q2,q3,q4⟩:=cells3 hws;have hbs:=hB6.grown hgs hB6.size (fun k hk=>by cases hk;simp)
    have HOD:Hid (OwD ws w.heap.size (.agg #[.slice (some ⟨g0,0,none⟩) d.1.length cp,.slice none 0 0,.slice none 0 0]) (qc7 d.1 (kept d.2.1 K),[],[])):=
     ⟨_,_,_,rfl,by rw [←hdata];exact (hO6.grown hgs (by omega)).mono hBr.size,⟨[],rfl,World.ownsRow_nil _ _ _ _,by simp⟩,⟨[],rfl,World.ownsRow_nil _ _ _ _,by simp⟩⟩
    clear hws hgs hO6 hk6 hl6 hp2 hdata hg6 hr6 hne HM5 HO5 HLP HRW;go_wp2
    refine bodyPost_ret (v:=.tuple #[.agg #[.slice (some ⟨g0,0,none⟩) d.1.length cp,.slice none 0 0,.slice none 0 0],.int .i64 0]) ?_ rfl ?_
    ·simp [results,Tryz.results27,go_sem, *]
    ·rw [HE.out];exact ⟨_,rfl,HOD.out,hbs⟩
 ·rw [hck]
  have HE:=hide (show qd8 d K=(dz,20) by unfold qd8;rw [if_pos (by rw [hck];decide),hck]);clear hck hok;obtain ⟨ws,ews,hws,hgs⟩:=qa7 (.slice none 0 0) (.slice none 0 0) (.slice none 0 0) hr2;obtain ⟨z1,z2,z3,z4⟩:=cells3 hr2;obtain ⟨q1,q2,q3,q4⟩:=cells3 hws;have hbs:=hB2.grown hgs hB2.size (fun k hk=>by cases hk;simp);clear hws hgs;go_wp2
  refine bodyPost_ret (v:=.tuple #[.agg #[.slice none 0 0,.slice none 0 0,.slice none 0 0],.int .i64 20]) ?_ rfl ?_
  ·simp [results,Tryz.results27,go_sem, *]
  ·rw [HE.out];exact ⟨_,rfl,qbh _ _,hbs⟩
end Go.Proofs.YtpkdiododlhipaaGreat

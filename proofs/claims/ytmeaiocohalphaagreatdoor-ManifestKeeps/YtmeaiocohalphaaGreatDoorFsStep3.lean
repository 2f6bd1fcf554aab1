/-
  The steps that write.
-/
import Derived.Test.YtmeaiocohalphaaGreatDoorFsFn6
set_option maxHeartbeats 2000000
set_option maxRecDepth 100000
namespace Go.Proofs.YtmeaiocohalphaaGreatDoor
open Go.RowKit
set_option linter.unusedVariables false
set_option linter.unusedSimpArgs false
abbrev qjy (w:World) (p:Nat) (x:FsV) (e:Int) (ab:Option Addr) (nb cb:Nat):Prop:=Bq w p 83 #[.slice x.a1 x.n1 x.c1,.slice x.a2 x.n2 x.c2,.slice x.a3 x.n3 x.c3,.int .u32 x.g,.slice x.a4 x.n4 x.c4,.slice x.a5 x.n5 x.c5,.int .i64 e,.slice ab nb cb]
theorem qap {w:World} {p:Nat} {x:FsV} {e:Int} {ab:Option Addr} {nb cb:Nat} (h:qjy w p x e ab nb cb):w.cell? ⟨p,0,none⟩=some (.slice x.a1 x.n1 x.c1)∧w.cell? ⟨p,1,none⟩=some (.slice x.a2 x.n2 x.c2)∧w.cell? ⟨p,2,none⟩=some (.slice x.a3 x.n3 x.c3)∧w.cell? ⟨p,3,none⟩=some (.int .u32 x.g)∧w.cell? ⟨p,4,none⟩=some (.slice x.a4 x.n4 x.c4)∧w.cell? ⟨p,5,none⟩=some (.slice x.a5 x.n5 x.c5)∧w.cell? ⟨p,6,none⟩=some (.int .i64 e)∧w.cell? ⟨p,7,none⟩=some (.slice ab nb cb):=
 ⟨h.cell 0,h.cell 1,h.cell 2,h.cell 3,h.cell 4,h.cell 5,h.cell 6,h.cell 7⟩
def WayR (w:World) (p base:Nat) (o:Bool) (y:Wy) (x:FsV) (ab:Option Addr) (nb cb:Nat):Prop:=
 ∀w',w.grownBy w' (some p)→RdX w' x y.1∧Rd w' (.slice ab nb cb) y.2.2∧(o=true→y.2.1=0→OwD w' base x.dv y.1.1)
theorem WayR.later {w w1:World} {p base:Nat} {o:Bool} {y:Wy} {x:FsV} {ab:Option Addr} {nb cb:Nat} (h:WayR w p base o y x ab nb cb) (hg:w.grownBy w1 (some p)):WayR w1 p base o y x ab nb cb:=fun w' h'=>h w' (hg.trans h')
def WayS (w:World) (p base:Nat) (o:Bool) (y:Wy):Prop:=∃(x:FsV) (ab:Option Addr) (nb cb:Nat),qjy w p x y.2.1 ab nb cb∧nb=y.2.2.length∧WfX y.1∧WayR w p base o y x ab nb cb
theorem qba {w w':World} (p:Nat) (hb:Below w.heap.size w w'):w.grownBy w' (some p):=⟨hb.os,hb.tape,hb.output,hb.size,fun k hk _=>hb.block k hk⟩
theorem qcy {w w':World} {p:Nat} (h:w.grownBy w' (some p)) (j:Nat) (v:Value):w.grownBy (w'.setCell ⟨p,j,none⟩ v) (some p):=h.trans (qan w' ⟨p,j,none⟩ v)
theorem WayS.carry {w w':World} {p base:Nat} {o:Bool} {y:Wy} (h:WayS w p base o y) (hb:Below w.heap.size w w'):WayS w' p base o y:=by
 obtain ⟨x,ab,nb,cb,h1,h2,h3,h4⟩:=h;exact ⟨x,ab,nb,cb,h1.carry hb,h2,h3,h4.later (qba p hb)⟩
theorem WayS.lt {w:World} {p base:Nat} {o:Bool} {y:Wy} (h:WayS w p base o y):p<w.heap.size:=by
 obtain ⟨x,ab,nb,cb,h1,_⟩:=h;exact h1.lt
theorem WayS.err {w:World} {p base:Nat} {o:Bool} {y:Wy} (o':Bool) (h:WayS w p base o y) (he:y.2.1≠0):WayS w p base o' y:=by
 obtain ⟨x,ab,nb,cb,h1,h2,h3,h4⟩:=h;exact ⟨x,ab,nb,cb,h1,h2,h3,fun w' hg=>⟨(h4 w' hg).1,(h4 w' hg).2.1,fun _ h0=>absurd h0 he⟩⟩
theorem WayS.any {w:World} {p base:Nat} {o:Bool} {y:Wy} (h:WayS w p base o y):WayS w p base false y:=by
 obtain ⟨x,ab,nb,cb,h1,h2,h3,h4⟩:=h;exact ⟨x,ab,nb,cb,h1,h2,h3,fun w' hg=>⟨(h4 w' hg).1,(h4 w' hg).2.1,fun h0=>by cases h0⟩⟩
theorem WayS.setErr {w:World} {p base:Nat} {o:Bool} {y:Wy} (r:Int) (h:WayS w p base o y) (he:y.2.1=0):WayS (w.setCell ⟨p,6,none⟩ (.int .i64 r)) p base o (y.1,r,y.2.2)∧w.grownBy (w.setCell ⟨p,6,none⟩ (.int .i64 r)) (some p):=by
 obtain ⟨x,ab,nb,cb,h1,h2,h3,h4⟩:=h;have hg:=qan w ⟨p,6,none⟩ (.int .i64 r);refine ⟨⟨x,ab,nb,cb,h1.put 6 _,h2,h3,fun w' hw=>?_⟩,hg⟩;obtain ⟨a,b,c⟩:=h4 w' (hg.trans hw);exact ⟨a,b,fun h0 _=>c h0 he⟩
theorem WayS.setDisk {w w1:World} {p base b1:Nat} {o:Bool} {y:Wy} {d:Dk} {a1:Option Addr} {n1 c1:Nat} {a2:Option Addr} {n2 c2:Nat} {a3:Option Addr} {n3 c3:Nat} (h:WayS w p base o y) (hb:Below w.heap.size w w1) (hb1:base≤b1) (hp:p<b1) (ho:OwD w1 b1 (.agg #[.slice a1 n1 c1,.slice a2 n2 c2,.slice a3 n3 c3]) d):
  WayS (((w1.setCell ⟨p,0,none⟩ (.slice a1 n1 c1)).setCell ⟨p,1,none⟩ (.slice a2 n2 c2)).setCell ⟨p,2,none⟩ (.slice a3 n3 c3)) p base true (qnf y d)∧w.grownBy (((w1.setCell ⟨p,0,none⟩ (.slice a1 n1 c1)).setCell ⟨p,1,none⟩ (.slice a2 n2 c2)).setCell ⟨p,2,none⟩ (.slice a3 n3 c3)) (some p):=by
 obtain ⟨x,ab,nb,cb,h1,h2,h3,h4⟩:=h;have g1:w1.grownBy (((w1.setCell ⟨p,0,none⟩ (.slice a1 n1 c1)).setCell ⟨p,1,none⟩ (.slice a2 n2 c2)).setCell ⟨p,2,none⟩ (.slice a3 n3 c3)) (some p):=qcy (qcy (qcy (World.grownBy.refl _ _) 0 _) 1 _) 2 _;have g0:=(qba p hb).trans g1;refine ⟨⟨⟨a1,n1,c1,a2,n2,c2,a3,n3,c3,x.g,x.a4,x.n4,x.c4,x.a5,x.n5,x.c5⟩,ab,nb,cb,(((h1.carry hb).put 0 _).put 1 _).put 2 _,h2,⟨h3.g,h3.fl,h3.kl⟩,fun w' hw=>?_⟩,g0⟩;obtain ⟨a,b,c⟩:=h4 w' (g0.trans hw);have ho':=ho.grown (g1.trans hw) hp;have hl:=RdD.mk3 ho'.rd;exact ⟨⟨ho'.rd,hl.1,hl.2,a.g,a.fl,a.n4,a.kl,a.n5⟩,b,fun _ _=>ho'.mono hb1⟩
theorem WayS.setGen {w:World} {p base:Nat} {o:Bool} {y:Wy} (g:Nat) (hg:g<4294967296) (h:WayS w p base o y):WayS (w.setCell ⟨p,3,none⟩ (.int .u32 g)) p base o ((y.1.1,g,y.1.2.2),y.2)∧w.grownBy (w.setCell ⟨p,3,none⟩ (.int .u32 g)) (some p):=by
 obtain ⟨x,ab,nb,cb,h1,h2,h3,h4⟩:=h;have hg':=qan w ⟨p,3,none⟩ (.int .u32 g);refine ⟨⟨⟨x.a1,x.n1,x.c1,x.a2,x.n2,x.c2,x.a3,x.n3,x.c3,g,x.a4,x.n4,x.c4,x.a5,x.n5,x.c5⟩,ab,nb,cb,h1.put 3 _,h2,⟨hg,h3.fl,h3.kl⟩,fun w' hw=>?_⟩,hg'⟩;obtain ⟨a,b,c⟩:=h4 w' (hg'.trans hw);exact ⟨⟨a.d,a.n1,a.n2,rfl,a.fl,a.n4,a.kl,a.n5⟩,b,c⟩
theorem WayS.setDir {w w1:World} {p base b1:Nat} {o:Bool} {y:Wy} {l:List Fl} {ab:Option Addr} {nb cb:Nat} (h:WayS w p base o y) (hb:Below w.heap.size w w1) (hn:nb=l.length) (hw:wfFs l) (ho:OwF w1 b1 (.slice ab nb cb) l):
  WayS (w1.setCell ⟨p,4,none⟩ (.slice ab nb cb)) p base o ((y.1.1,y.1.2.1,l,y.1.2.2.2),y.2)∧w.grownBy (w1.setCell ⟨p,4,none⟩ (.slice ab nb cb)) (some p):=by
 obtain ⟨x,ab',nb',cb',h1,h2,h3,h4⟩:=h;have g1:=qan w1 ⟨p,4,none⟩ (.slice ab nb cb);have g0:=(qba p hb).trans g1;refine ⟨⟨⟨x.a1,x.n1,x.c1,x.a2,x.n2,x.c2,x.a3,x.n3,x.c3,x.g,ab,nb,cb,x.a5,x.n5,x.c5⟩,ab',nb',cb',(h1.carry hb).put 4 _,h2,⟨h3.g,hw,h3.kl⟩,fun w' hw=>?_⟩,g0⟩;obtain ⟨a,b,c⟩:=h4 w' (g0.trans hw);exact ⟨⟨a.d,a.n1,a.n2,a.g,(ho.keptS (g1.trans hw) (h1.carry hb) (by decide) (by decide)).rd,hn,a.kl,a.n5⟩,b,c⟩
theorem WayS.setKept {w:World} {p base:Nat} {o:Bool} {y:Wy} {x:FsV} {ab:Option Addr} {nb cb:Nat} (h1:qjy w p x y.2.1 ab nb cb) (h2:nb=y.2.2.length) (h3:WfX y.1) (h4:WayR w p base o y x ab nb cb):
  WayS (w.setCell ⟨p,5,none⟩ (.slice x.a4 x.n4 x.c4)) p base o ((y.1.1,y.1.2.1,y.1.2.2.1,y.1.2.2.1),y.2)∧w.grownBy (w.setCell ⟨p,5,none⟩ (.slice x.a4 x.n4 x.c4)) (some p):=by
 have g1:=qan w ⟨p,5,none⟩ (.slice x.a4 x.n4 x.c4);refine ⟨⟨⟨x.a1,x.n1,x.c1,x.a2,x.n2,x.c2,x.a3,x.n3,x.c3,x.g,x.a4,x.n4,x.c4,x.a4,x.n4,x.c4⟩,ab,nb,cb,h1.put 5 _,h2,⟨h3.g,h3.fl,h3.fl⟩,fun w' hw=>?_⟩,g1⟩;obtain ⟨a,b,c⟩:=h4 w' (g1.trans hw);exact ⟨⟨a.d,a.n1,a.n2,a.g,a.fl,a.n4,a.fl,a.n4⟩,b,c⟩
theorem qp9 (p base:Nat) (o:Bool) (y:Wy) (w:World) (h:WayS w p base o y) (hp:base≤p):
  Calls Tryz.prog 90 #[.pointer (some ⟨p,0,none⟩)] w fun e w'=>e=.returned (.int .i64 (qb5 y).2)∧WayS w' p base true (qb5 y).1∧w.grownBy w' (some p):=by
 have HS:=hide h;obtain ⟨x,ab,nb,cb,h1,h2,h3,h4⟩:=h;obtain ⟨k0,k1,k2,k3,k4,k5,k6,k7⟩:=qap h1;have HR:=hide (h4 w (World.grownBy.refl _ _)).1;have HW1:=hide h1;have HWF:=hide h3;clear h1 h2 h3 h4
 go_enter Tryz.func90,Tryz.ntmps90
 go_wp2_with fail
 refine (qafp (d:=y.1.1) w HR.out.d).mono ?_
 rintro e w1 ⟨dv,rfl,ho,hb⟩;obtain ⟨d,hd⟩:∃d,d=(doD y.1.1 [(true,0,[])] 1).1:=⟨_,rfl⟩;rw [←hd] at ho;obtain ⟨a1,c1,a2,c2,a3,c3,e1⟩:=ho.form;obtain ⟨n1,hn1⟩:∃n,n=d.1.length:=⟨_,rfl⟩;obtain ⟨n2,hn2⟩:∃n,n=d.2.1.length:=⟨_,rfl⟩;obtain ⟨n3,hn3⟩:∃n,n=d.2.2.length:=⟨_,rfl⟩;rw [←hn1,←hn2,←hn3] at e1;subst e1;have hst:=HS.out.setDisk hb (Nat.le_trans hp (Nat.le_of_lt HS.out.lt)) HS.out.lt ho;have HST:=hide hst;rw [hd] at HST;have HW2:=hide (HW1.out.carry hb);clear k0 k1 k2 k3 k4 k5 k6 k7;obtain ⟨k0,k1,k2,k3,k4,k5,k6,k7⟩:=qap HW2.out;have f0:=HW2.out.fz 0;have f1:=HW2.out.fz 1;have f2:=HW2.out.fz 2;clear hst ho hb hd hn1 hn2 hn3;go_wp2;go_ret;exact ⟨rfl,HST.out.1,HST.out.2⟩
theorem qacp (p base:Nat) (o:Bool) (y:Wy) (w:World) (h:WayS w p base o y) (hp:base≤p):
  Calls Tryz.prog 40 #[.pointer (some ⟨p,0,none⟩)] w fun e w'=>e=.returned (.int .i64 (qh1 y).2)∧WayS w' p base true (qh1 y).1∧w.grownBy w' (some p):=by
 have HS:=hide h;obtain ⟨x,ab,nb,cb,h1,h2,h3,h4⟩:=h;obtain ⟨k0,k1,k2,k3,k4,k5,k6,k7⟩:=qap h1;have HR:=hide (h4 w (World.grownBy.refl _ _)).1;have HW1:=hide h1;have HWF:=hide h3;clear h1 h2 h3 h4
 go_enter Tryz.func40,Tryz.ntmps40
 go_wp2_with fail
 refine (qabj (d:=y.1.1) w HR.out.d).mono ?_
 rintro e w1 ⟨dv,rfl,ho,hb⟩;obtain ⟨d,hd⟩:∃d,d=(qfm y.1.1).1:=⟨_,rfl⟩;rw [←hd] at ho;obtain ⟨a1,c1,a2,c2,a3,c3,e1⟩:=ho.form;obtain ⟨n1,hn1⟩:∃n,n=d.1.length:=⟨_,rfl⟩;obtain ⟨n2,hn2⟩:∃n,n=d.2.1.length:=⟨_,rfl⟩;obtain ⟨n3,hn3⟩:∃n,n=d.2.2.length:=⟨_,rfl⟩;rw [←hn1,←hn2,←hn3] at e1;subst e1;have hst:=HS.out.setDisk hb (Nat.le_trans hp (Nat.le_of_lt HS.out.lt)) HS.out.lt ho;have HST:=hide hst;rw [hd] at HST;have HW2:=hide (HW1.out.carry hb);clear k0 k1 k2 k3 k4 k5 k6 k7;obtain ⟨k0,k1,k2,k3,k4,k5,k6,k7⟩:=qap HW2.out;have f0:=HW2.out.fz 0;have f1:=HW2.out.fz 1;have f2:=HW2.out.fz 2;clear hst ho hb hd hn1 hn2 hn3;go_wp2;go_ret;exact ⟨rfl,HST.out.1,HST.out.2⟩
theorem qago (p base:Nat) (o:Bool) (y:Wy) (w:World) (h:WayS w p base o y) (hp:base≤p):
  Calls Tryz.prog 175 #[.pointer (some ⟨p,0,none⟩)] w fun e w'=>e=.returned (.int .i64 (qtt y).2)∧WayS w' p base true (qtt y).1∧w.grownBy w' (some p):=by
 have HS:=hide h;obtain ⟨x,ab,nb,cb,h1,h2,h3,h4⟩:=h;obtain ⟨k0,k1,k2,k3,k4,k5,k6,k7⟩:=qap h1;have HR:=hide (h4 w (World.grownBy.refl _ _)).1;have HW1:=hide h1;have HWF:=hide h3;clear h1 h2 h3 h4
 go_enter Tryz.func175,Tryz.ntmps175
 go_wp2_with fail
 refine (qabg (d:=y.1.1) [] none 0 0 0 w HR.out.d (.inl ⟨rfl,.inl rfl⟩) rfl).mono ?_
 rintro e w1 ⟨dv,rfl,ho,hb⟩;obtain ⟨d,hd⟩:∃d,d=(doD y.1.1 [] 0).1:=⟨_,rfl⟩;rw [←hd] at ho;obtain ⟨a1,c1,a2,c2,a3,c3,e1⟩:=ho.form;obtain ⟨n1,hn1⟩:∃n,n=d.1.length:=⟨_,rfl⟩;obtain ⟨n2,hn2⟩:∃n,n=d.2.1.length:=⟨_,rfl⟩;obtain ⟨n3,hn3⟩:∃n,n=d.2.2.length:=⟨_,rfl⟩;rw [←hn1,←hn2,←hn3] at e1;subst e1;have hst:=HS.out.setDisk hb (Nat.le_trans hp (Nat.le_of_lt HS.out.lt)) HS.out.lt ho;have HST:=hide hst;rw [hd] at HST;have HW2:=hide (HW1.out.carry hb);clear k0 k1 k2 k3 k4 k5 k6 k7;obtain ⟨k0,k1,k2,k3,k4,k5,k6,k7⟩:=qap HW2.out;have f0:=HW2.out.fz 0;have f1:=HW2.out.fz 1;have f2:=HW2.out.fz 2;clear hst ho hb hd hn1 hn2 hn3;go_wp2;go_ret;exact ⟨rfl,HST.out.1,HST.out.2⟩
theorem qly (N:Int) (ax:Option Addr) (nx cx:Nat) (l:List UInt8) (p base:Nat) (o:Bool) (y:Wy) (w:World) (h:WayS w p base o y) (hp:base≤p) (hx:Rd w (.slice ax nx cx) l):
  Calls Tryz.prog 168 #[.pointer (some ⟨p,0,none⟩),.int .i64 N,.slice ax nx cx] w fun e w'=>e=.returned (.int .i64 (qc0 N l y).2)∧WayS w' p base true (qc0 N l y).1∧w.grownBy w' (some p):=by
 have HS:=hide h;obtain ⟨x,ab,nb,cb,h1,h2,h3,h4⟩:=h;obtain ⟨k0,k1,k2,k3,k4,k5,k6,k7⟩:=qap h1;have HR:=hide (h4 w (World.grownBy.refl _ _)).1;have HW1:=hide h1;have HWF:=hide h3;clear h1 h2 h3 h4;have HRX:=hide hx;clear hx
 go_enter Tryz.func168,Tryz.ntmps168
 go_wp2_with fail
 refine (qabi (d:=y.1.1) N ax nx cx l w HR.out.d HRX.out).mono ?_
 rintro e w1 ⟨dv,rfl,ho,hb⟩;obtain ⟨d,hd⟩:∃d,d=(doD y.1.1 [(false,N,l)] 1).1:=⟨_,rfl⟩;rw [←hd] at ho;obtain ⟨a1,c1,a2,c2,a3,c3,e1⟩:=ho.form;obtain ⟨n1,hn1⟩:∃n,n=d.1.length:=⟨_,rfl⟩;obtain ⟨n2,hn2⟩:∃n,n=d.2.1.length:=⟨_,rfl⟩;obtain ⟨n3,hn3⟩:∃n,n=d.2.2.length:=⟨_,rfl⟩;rw [←hn1,←hn2,←hn3] at e1;subst e1;have hst:=HS.out.setDisk hb (Nat.le_trans hp (Nat.le_of_lt HS.out.lt)) HS.out.lt ho;have HST:=hide hst;rw [hd] at HST;have HW2:=hide (HW1.out.carry hb);clear k0 k1 k2 k3 k4 k5 k6 k7;obtain ⟨k0,k1,k2,k3,k4,k5,k6,k7⟩:=qap HW2.out;have f0:=HW2.out.fz 0;have f1:=HW2.out.fz 1;have f2:=HW2.out.fz 2;clear hst ho hb hd hn1 hn2 hn3;go_wp2;go_ret;exact ⟨rfl,HST.out.1,HST.out.2⟩
theorem qagp (p base:Nat) (o:Bool) (y:Wy) (w:World) (h:WayS w p base o y) (hp:base≤p):
  Calls Tryz.prog 93 #[.pointer (some ⟨p,0,none⟩)] w fun e w'=>e=.returned (.int .i64 (keepW y).2)∧WayS w' p base o (keepW y).1∧w.grownBy w' (some p):=by
 obtain ⟨x,ab,nb,cb,h1,h2,h3,h4⟩:=h;obtain ⟨k0,k1,k2,k3,k4,k5,k6,k7⟩:=qap h1;have f5:=h1.fz 5;have HST:=hide (WayS.setKept h1 h2 h3 h4);clear h1 h2 h3 h4
 go_enter Tryz.func93,Tryz.ntmps93
 go_wp2;go_ret;exact ⟨rfl,HST.out.1,HST.out.2⟩
def WayU (w:World) (p:Nat) (x:FsV) (e:Int):Prop:=∃u,Bq w p 83 #[.slice x.a1 x.n1 x.c1,.slice x.a2 x.n2 x.c2,.slice x.a3 x.n3 x.c3,.int .u32 x.g,.slice x.a4 x.n4 x.c4,.slice x.a5 x.n5 x.c5,.int .i64 e,u]
theorem WayU.carry {w w':World} {p:Nat} {x:FsV} {e:Int} (h:WayU w p x e) (hb:Below w.heap.size w w'):WayU w' p x e:=by obtain ⟨u,h⟩:=h;exact ⟨u,h.carry hb⟩
theorem qgq {w:World} {p:Nat} {x:FsV} {e:Int} (h:WayU w p x e):w.cell? ⟨p,0,none⟩=some (.slice x.a1 x.n1 x.c1)∧w.cell? ⟨p,1,none⟩=some (.slice x.a2 x.n2 x.c2)∧w.cell? ⟨p,2,none⟩=some (.slice x.a3 x.n3 x.c3)∧w.cell? ⟨p,3,none⟩=some (.int .u32 x.g)∧w.cell? ⟨p,4,none⟩=some (.slice x.a4 x.n4 x.c4)∧w.cell? ⟨p,5,none⟩=some (.slice x.a5 x.n5 x.c5)∧w.cell? ⟨p,6,none⟩=some (.int .i64 e)∧∃u,w.cell? ⟨p,7,none⟩=some u:=by
 obtain ⟨u,h⟩:=h;exact ⟨h.cell 0,h.cell 1,h.cell 2,h.cell 3,h.cell 4,h.cell 5,h.cell 6,u,h.cell 7⟩
theorem WayU.putB {w:World} {p:Nat} {x:FsV} {e:Int} (h:WayU w p x e) (ab:Option Addr) (nb cb:Nat):qjy (w.setCell ⟨p,7,none⟩ (.slice ab nb cb)) p x e ab nb cb:=by
 obtain ⟨u,h⟩:=h;exact h.put 7 _
theorem qagq (p base:Nat) (o:Bool) (y:Wy) (w:World) (h:WayS w p base o y) (hp:base≤p):
  Calls Tryz.prog 89 #[.pointer (some ⟨p,0,none⟩)] w fun e w'=>e=.returned (.int .i64 (qbl y).2)∧WayS w' p base o (qbl y).1∧w.grownBy w' (some p):=by
 have HS:=hide h;obtain ⟨x,ab,nb,cb,h1,h2,h3,h4⟩:=h;obtain ⟨k0,k1,k2,k3,k4,k5,k6,k7⟩:=qap h1;have HR:=hide (h4 w (World.grownBy.refl _ _)).1;have HW1:=hide h1;have HWF:=hide h3;clear h1 h2 h3 h4
 by_cases g1:x.g=4294967295
 ·have HE:=hide (show qbl y=(y,9) by unfold qbl;rw [if_pos (by rw [←HR.out.g];exact g1)])
  have g1':(x.g:Int)=4294967295:=by omega
  clear g1
  go_enter Tryz.func89,Tryz.ntmps89
  go_wp2;go_ret;rw [HE.out];exact ⟨rfl,HS.out,World.grownBy.refl _ _⟩
 have HE:=hide (show qbl y=(((y.1.1,y.1.2.1+1,y.1.2.2),y.2.1,qd1 y.1.2.2.1 (qa3 y.1)),chkF y.1.2.2.1 (qa3 y.1)) by unfold qbl;rw [if_neg (by rw [←HR.out.g];exact g1)])
 have g1':¬(x.g:Int)=4294967295:=by omega
 have HLT:=hide (show x.g+1<4294967296 by have:=HWF.out.g;have:=HR.out.g;omega)
 have hw32:IntKind.u32.wrap ((x.g:Int)+1)=((x.g+1:Nat):Int):=by have:=HLT.out;simp only [IntKind.wrap_u32];omega
 have f3:=HW1.out.fz 3;clear g1
 go_enter Tryz.func89,Tryz.ntmps89
 go_wp2_with fail
 have hst:=HS.out.setGen (x.g+1) HLT.out;rw [show ((x.g+1:Nat):Int)=(x.g:Int)+1 from by omega] at hst;obtain ⟨w2,ew2⟩:∃w2,w.setCell ⟨p,3,none⟩ (.int .u32 ((x.g:Int)+1))=w2:=⟨_,rfl⟩;rw [ew2] at hst ⊢;rw [HR.out.g] at hst;obtain ⟨hst1,hg2⟩:=hst;have HS2:=hide hst1;have HG2:=hide hg2;have HZ:=hide (show qa3 (y.1.1,y.1.2.1+1,y.1.2.2)=qa3 y.1 from rfl);obtain ⟨x2,ab2,nb2,cb2,h1,h2,h3,h4⟩:=hst1;have HC:=hide (qap h1);have HW2:=hide h1;have HR2:=hide h4;have HWF2:=hide h3;clear h1 h2 h3 h4 hg2 ew2 k0 k1 k2 k3 k4 k5 k6 k7 f3 g1' HW1 hw32
 have hK:Keeps (fun wx=>WayU wx p x2 y.2.1∧w2.grownBy wx (some p)):=fun w1 w3 h hb=>⟨h.1.carry hb,h.2.trans (qba p hb)⟩
 have hS0:(fun wx=>WayU wx p x2 y.2.1∧w2.grownBy wx (some p)) w2:=⟨⟨_,HW2.out⟩,World.grownBy.refl _ _⟩;clear HC
 refine qas hK (by kernel_rfl) hS0 ?_
 intro hS
 refine qae [0,1,2,3,4,5,6,7,8,9] (fuel:=9) (a':=?qaa1) (by kernel_rfl) (by kernel_rfl) (by kernel_rfl) ?qap1 hS ?qan1
 case qap1=>
  iterate 10 (apply Yl.cons rfl rfl;focus (rintro wx ⟨x1,x8⟩;obtain ⟨k0,k1,k2,k3,k4,k5,k6,u9,k7⟩:=qgq x1;go_simp;all_goals (with_reducible rfl));try simp only [Act.put,List.setIfInBounds_toArray,List.set_cons_zero,List.set_cons_succ])
  exact Yl.nil
 refine qdi hK (i:=10) (v:=.int .i64 (qa3 y.1)) rfl (by kernel_rfl) (by rfl) (by go_simp) hS (qp5 x2 (y.1.1,y.1.2.1+1,y.1.2.2) _ (HR2.out _ hS.2).1) ?_
 clear hS;intro w29 hS
 try simp only [Act.put,List.setIfInBounds_toArray,List.set_cons_zero,List.set_cons_succ]
 refine qbo (i:=11) (R:=fun v wx=>∃av nv cv,v=.tuple #[.slice av nv cv,.int .i64 (chkF y.1.2.2.1 (qa3 y.1))]∧nv=(qd1 y.1.2.2.1 (qa3 y.1)).length∧OwBy wx w29.heap.size (.slice av nv cv) (qd1 y.1.2.2.1 (qa3 y.1))∧Below w29.heap.size w29 wx) rfl (by kernel_rfl) (by rfl) (by go_simp) ((qza _ _ _ y.1.2.2.1 (qa3 y.1) w29 (HR2.out _ hS.2).1.fl (HR2.out _ hS.2).1.n4 HWF2.out.fl).mono fun e wy ⟨v,h1,h2,h3⟩=>by
   obtain ⟨av,cv,ev⟩:=(qjg h2).form;subst ev
   exact ⟨_,h1,av,_,cv,rfl,rfl,h2,h3⟩) ?_
 rintro v30 w30 ⟨av,nv,cv,rfl,hnv,ho30,hb30⟩;have hS30:=hK _ _ hS hb30;refine ⟨hS30, ?_⟩;clear hS;have hS:=hS30
 try simp only [Act.put,List.setIfInBounds_toArray,List.set_cons_zero,List.set_cons_succ]
 refine qae [12,13,14,15,16] (fuel:=2) (a':=?qaa2) (by kernel_rfl) (by kernel_rfl) (by kernel_rfl) ?qap2 hS ?qan2
 case qap2=>
  iterate 5 (apply Yl.cons rfl rfl;focus (rintro wx ⟨x1,x8⟩;obtain ⟨k0,k1,k2,k3,k4,k5,k6,u9,k7⟩:=qgq x1;go_simp;all_goals (with_reducible rfl));try simp only [Act.put,List.setIfInBounds_toArray,List.set_cons_zero,List.set_cons_succ])
  exact Yl.nil
 obtain ⟨u9,k7⟩:=(qgq hS.1).2.2.2.2.2.2.2
 have f7:w30.frozen? ⟨p,7,none⟩=false:=by obtain ⟨u,hu⟩:=hS.1;exact hu.fz 7
 obtain ⟨w9,hw9⟩:∃w9,w9=w30.setCell ⟨p,7,none⟩ (.slice av nv cv):=⟨_,rfl⟩
 have g9:w30.grownBy w9 (some p):=by rw [hw9];exact qan w30 ⟨p,7,none⟩ _
 have hA9:qjy w9 p x2 y.2.1 av nv cv:=by rw [hw9];exact hS.1.putB av nv cv
 have hS9:(fun wx=>WayU wx p x2 y.2.1∧w2.grownBy wx (some p)) w9:=⟨⟨_,hA9⟩,hS.2.trans g9⟩;have HFIN:=hide (show WayS w9 p base o ((y.1.1,y.1.2.1+1,y.1.2.2),y.2.1,qd1 y.1.2.2.1 (qa3 y.1))∧w.grownBy w9 (some p) from ⟨⟨x2,av,nv,cv,hA9,hnv,HWF2.out,fun w' hw=>⟨(HR2.out w' (hS9.2.trans hw)).1,qjg (by obtain ⟨u,hu⟩:=hS.1;exact qb6 ho30 (g9.trans hw) hu (by decide)),(HR2.out w' (hS9.2.trans hw)).2.2⟩⟩,HG2.out.trans hS9.2⟩)
 refine qb8 (i:=17) (w':=w9) rfl (by kernel_rfl) (by rfl) (by rw [hw9];go_simp) hS9 ?_
 clear hS;have hS:=hS9
 try simp only [Act.put,List.setIfInBounds_toArray,List.set_cons_zero,List.set_cons_succ]
 refine qae [18] (fuel:=0) (a':=?qaa3) (by kernel_rfl) (by kernel_rfl) (by kernel_rfl) ?qap3 hS ?qan3
 case qap3=>
  iterate 1 (apply Yl.cons rfl rfl;focus (rintro wx ⟨x1,x8⟩;obtain ⟨k0,k1,k2,k3,k4,k5,k6,u9,k7⟩:=qgq x1;go_simp;all_goals (with_reducible rfl));try simp only [Act.put,List.setIfInBounds_toArray,List.set_cons_zero,List.set_cons_succ])
  exact Yl.nil
 refine wpAnyH_done (by kernel_rfl) ?_ _
 refine NoPanic.normal ?_
 try simp only [Act.put,List.setIfInBounds_toArray,List.set_cons_zero,List.set_cons_succ]
 clear hS hS9 hS30 hS0 hK hA9 g9 hw9 f7 k7 ho30 hb30 hnv;go_wp2;go_ret;rw [HE.out];exact ⟨rfl,HFIN.out.1,HFIN.out.2⟩
theorem WayS.weak {w:World} {p base:Nat} {o:Bool} {y:Wy} (h:WayS w p base true y):WayS w p base o y:=by
 cases o with
 | true=>exact h
 | false=>exact h.any
theorem qfs (n:Int) (b:List UInt8) (l:List (List UInt8)) (x:Wy):qce n (b::l) x=if (qc0 n b x).2≠0 then qc0 n b x else qce (n+1) l (qc0 n b x).1:=rfl
theorem qaki {ar k:Nat} (h1:ar≤18) (h2:k≤1000000):wrap64 ((ar:Int)+k)=(ar:Int)+k:=by unfold wrap64;omega
theorem qagr (p base:Nat) (o:Bool) (y:Wy) (w:World) (h:WayS w p base o y) (hp:base≤p) (hl:y.2.2.length≤1000000):
  Calls Tryz.prog 91 #[.pointer (some ⟨p,0,none⟩)] w fun e w'=>e=.returned (.int .i64 (qfo y).2)∧WayS w' p base o (qfo y).1∧w.grownBy w' (some p):=by
 have HS:=hide h;have HL:=hide hl;clear hl;obtain ⟨x,ab,nb,cb,h1,h2,h3,h4⟩:=h;obtain ⟨k0,k1,k2,k3,k4,k5,k6,k7⟩:=qap h1;have HR:=hide (h4 w (World.grownBy.refl _ _));have HG:=hide h3.g;have HN:=hide h2;clear h1 h2 h3 h4;obtain ⟨ar,har⟩:∃ar,ar=2+x.g % 2*16:=⟨_,rfl⟩;have hsw:=qgm x.g w (by rw [HR.out.1.g];exact HG.out);rw [←har] at hsw;have HAR:=hide (show ar≤18 by omega);have HE:=hide (show qfo y=qce (ar:Int) (qa5 y.2.2) y by unfold qfo;rw [har,HR.out.1.g]);clear har;obtain ⟨bl,hbl⟩:∃bl,bl=qa5 y.2.2:=⟨_,rfl⟩;rw [←hbl] at HE;have hwh:=qzh ab nb cb y.2.2 w HR.out.2.1 HN.out HL.out;rw [←hbl] at hwh;have HK:=hide (show bl.length≤1000000 by rw [hbl,qca];have:=HL.out;omega);clear hbl
 go_enter Tryz.func91,Tryz.ntmps91
 go_wp2_with fail
 refine hsw.mono ?_
 rintro e w1 ⟨rfl,ew1⟩;subst w1;clear hsw
 go_wp2_with fail
 refine hwh.mono ?_
 rintro e w1 ⟨v1,rfl,ho1,hb1⟩;obtain ⟨K,hK⟩:∃K,K=bl.length:=⟨_,rfl⟩
 obtain ⟨av,cv,e9⟩:∃a c,v1=.slice a K c:=by rw [hK];exact ho1.form
 subst e9;have HKL:=hide hK;have HO1:=hide ho1;have HS1:=hide (HS.out.carry hb1);have HG1:=hide (qba p hb1);have HPL:=hide HS.out.lt
 have hK6:K≤1000000:=by rw [hK];exact HK.out
 clear hwh ho1 hb1 hK k0 k1 k2 k3 k4 k5 k6 k7
 go_wp2_with fail
 go_loopw [23] (fun i wr=>∃(k:Nat) (yk:Wy),k≤K∧i=.int .i64 k∧Hid (qce ((ar:Int)+k) (bl.drop k) yk=qce (ar:Int) bl y)∧Hid (WayS wr p base o yk)∧Hid (OwBB wr w.heap.size (.slice av K cv) bl)∧Hid (w.grownBy wr (some p))) (fun i _=>K - (intOf i).toNat)
 case atStart=>exact ⟨0,y,Nat.zero_le _,rfl,hide (by simp),HS1,HO1,HG1⟩
 case round=>
  obtain ⟨k,yk,hk,rfl,hE,hS,hO,hG⟩:=hrel
  by_cases hlt:k<K
  ·have hlt':(k:Int)<K:=by omega
   have hkl:k<bl.length:=by rw [←HKL.out];exact hlt
   obtain ⟨g9,y9,z9,ea,hc,hob⟩:=hO.out.at k hkl;subst ea;obtain ⟨b,hb⟩:∃b,b=bl[k]:=⟨_,rfl⟩;rw [←hb] at hc hob;obtain ⟨m9,hm9⟩:∃m,m=b.length:=⟨_,rfl⟩;rw [←hm9] at hc hob;have HRb:=hide hob.rd
   have HE':=hide (show qce (ar:Int) bl y=if (qc0 ((ar:Int)+k) b yk).2≠0 then qc0 ((ar:Int)+k) b yk else qce ((ar:Int)+k+1) (bl.drop (k+1)) (qc0 ((ar:Int)+k) b yk).1 by
    rw [←hE.out,List.drop_eq_getElem_cons hkl,←hb,qfs])
   have hwr:=qaki HAR.out (show k≤1000000 by omega);clear hb hm9 hob hkl hE
   go_wp2_with fail
   refine (qly ((ar:Int)+k) y9 m9 z9 b p base o yk wr hS.out hp HRb.out).mono ?_
   rintro e w2 ⟨rfl,hs2,hg2⟩;have HS2:=hide (WayS.weak (o:=o) hs2);have HO2:=hide (hO.out.grown hg2 HPL.out);have HG2:=hide (hG.out.trans hg2);clear hs2 hg2 hS hO hG hc hwr;obtain ⟨z,hz⟩:∃z,z=(qc0 ((ar:Int)+k) b yk).2:=⟨_,rfl⟩;rw [←hz] at HE' ⊢
   by_cases g1:¬z=0
   ·rw [if_pos g1] at HE'
    have HZ:=hide hz;clear hz;go_wp2;go_ret;rw [HE.out,HE'.out];exact ⟨by rw [←HZ.out];rfl,HS2.out,HG2.out⟩
   ·rw [if_neg g1] at HE'
    rw [Decidable.not_not] at g1;subst g1;clear hz;go_wp2;go_roundw
    case rel=>exact ⟨k+1,_,by omega,rfl,hide (by rw [HE'.out];congr 1),HS2,HO2,HG2⟩
    case measure=>simp only [intOf];omega
  ·have hd:decide ((k:Int)<K)=false:=by simpa using (by omega:¬(k:Int)<K)
   have HE':=hide (show qce (ar:Int) bl y=(yk,0) by
    rw [←hE.out,List.drop_of_length_le (by rw [←HKL.out];omega)];rfl)
   clear hE;go_wp2;go_ret;rw [HE.out,HE'.out];exact ⟨rfl,hS.out,hG.out⟩
theorem qags (p base:Nat) (o:Bool) (y:Wy) (w:World) (h:WayS w p base o y) (hp:base≤p):
  Calls Tryz.prog 92 #[.pointer (some ⟨p,0,none⟩)] w fun e w'=>e=.returned (.int .i64 (qh2 y).2)∧WayS w' p base o (qh2 y).1∧w.grownBy w' (some p):=by
 have HS:=hide h;obtain ⟨x,ab,nb,cb,h1,h2,h3,h4⟩:=h;have HR:=hide (h4 w (World.grownBy.refl _ _)).1;have HW1:=hide h1;have HG:=hide h3.g;have HN:=hide h2;clear h1 h2 h3 h4;obtain ⟨S,hS9⟩:∃S,S=qam x.g (nb:Nat):=⟨_,rfl⟩;have HE:=hide (show qh2 y=if S.2≠0 then (y,S.2) else qc0 ((x.g % 2:Nat):Int) S.1 y by unfold qh2;rw [←HR.out.g,←HN.out,←hS9]);have HBL:=hide (fun (wx:World)=>qod x.g (nb:Nat) wx (by rw [HR.out.g];exact HG.out));rw [←hS9] at HBL;clear hS9
 have hK:Keeps (fun wx=>qjy wx p x y.2.1 ab nb cb∧Below w.heap.size w wx):=fun w1 w3 h hb=>⟨h.1.carry hb,h.2.trans (hb.mono h.2.size)⟩
 go_enter Tryz.func92,Tryz.ntmps92
 go_wp2_with fail
 refine qas hK (by kernel_rfl) ⟨HW1.out,Below.refl _ _⟩ ?_
 intro hS
 refine qae [0,1,2,3,4,5,6,7,8,9] (fuel:=6) (a':=?qaa1) (by kernel_rfl) (by kernel_rfl) (by kernel_rfl) ?qap1 hS ?qan1
 case qap1=>
  iterate 10 (apply Yl.cons rfl rfl;focus (rintro wx ⟨x1,x2⟩;obtain ⟨k0,k1,k2,k3,k4,k5,k6,k7⟩:=qap x1;go_simp;all_goals (with_reducible rfl));try simp only [Act.put,List.setIfInBounds_toArray,List.set_cons_zero,List.set_cons_succ])
  exact Yl.nil
 refine qbo (i:=10) (R:=fun v wx=>∃u,v=.tuple #[u,.int .i64 S.2]∧OwB wx w.heap.size u S.1∧Below w.heap.size w wx) rfl (by kernel_rfl) (by rfl) (by go_simp) ((HBL.out _).mono fun e wy ⟨v,h1,h2,h3⟩=>⟨_,h1,v,rfl,h2.mono hS.2.size,hS.2.trans (h3.mono hS.2.size)⟩) ?_
 rintro v18 w18 ⟨u18,rfl,ho18,hb18⟩;have hS18:=hK _ _ (⟨HW1.out,Below.refl _ _⟩:(fun wx=>qjy wx p x y.2.1 ab nb cb∧Below w.heap.size w wx) w) hb18;refine ⟨hS18, ?_⟩;clear hS;have hS:=hS18;clear hS18 hb18
 try simp only [Act.put,List.setIfInBounds_toArray,List.set_cons_zero,List.set_cons_succ]
 refine qae [11,12,13,14,15] (fuel:=0) (a':=?qaa2) (by kernel_rfl) (by kernel_rfl) (by kernel_rfl) ?qap2 hS ?qan2
 case qap2=>
  iterate 5 (apply Yl.cons rfl rfl;focus (rintro wx ⟨x1,x2⟩;obtain ⟨k0,k1,k2,k3,k4,k5,k6,k7⟩:=qap x1;go_simp;all_goals (with_reducible rfl));try simp only [Act.put,List.setIfInBounds_toArray,List.set_cons_zero,List.set_cons_succ])
  exact Yl.nil
 refine wpAnyH_done (by kernel_rfl) ?_ _
 refine NoPanic.normal ?_
 try simp only [Act.put,List.setIfInBounds_toArray,List.set_cons_zero,List.set_cons_succ]
 have HW2:=hide hS.1;have HB2:=hide hS.2;clear hS hK;obtain ⟨z,hz⟩:∃z,z=S.2:=⟨_,rfl⟩;rw [←hz] at HE ⊢
 by_cases g1:¬z=0
 ·rw [if_pos g1] at HE
  have HS2:=hide (HS.out.carry HB2.out);clear hz ho18;go_wp2;go_ret;rw [HE.out];exact ⟨rfl,HS2.out,qba p HB2.out⟩
 rw [if_neg g1] at HE;rw [Decidable.not_not] at g1;subst g1;clear hz;obtain ⟨nS,hnS⟩:∃n,n=S.1.length:=⟨_,rfl⟩
 obtain ⟨aS,cS,eS⟩:∃a c,u18=.slice a nS c:=by rw [hnS];exact ho18.form
 subst eS;have HO:=hide ho18.rd;obtain ⟨k0,k1,k2,k3,k4,k5,k6,k7⟩:=qap HW2.out;clear hnS ho18;obtain ⟨q,hq⟩:∃q,q=x.g % 2:=⟨_,rfl⟩;have hsw:=qgm x.g w18 (by rw [HR.out.g];exact HG.out);rw [←hq] at hsw HE;clear hq
 go_wp2_with fail
 refine hsw.mono ?_
 rintro e w19 ⟨rfl,ew19⟩;subst w19;clear hsw
 go_wp2_with fail
 refine (qly (q:Int) aS nS cS S.1 p base o y w18 (HS.out.carry HB2.out) hp HO.out).mono ?_
 rintro e w20 ⟨rfl,hs2,hg2⟩;have HS2:=hide (WayS.weak (o:=o) hs2);have HG2:=hide ((qba p HB2.out).trans hg2);clear hs2 hg2 k0 k1 k2 k3 k4 k5 k6 k7;go_wp2;go_ret;rw [HE.out];exact ⟨rfl,HS2.out,HG2.out⟩
end Go.Proofs.YtmeaiocohalphaaGreatDoor

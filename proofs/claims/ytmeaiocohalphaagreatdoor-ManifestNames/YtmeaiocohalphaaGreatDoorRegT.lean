/-
  Regions whose order is drawn where either of two operations may come up; a region cut off from what stands behind it. No program is named here.
-/
import Derived.Test.YtmeaiocohalphaaGreatDoorSNum
import Derived.Test.YtmeaiocohalphaaGreatDoorRead
import Derived.Test.YtmeaiocohalphaaGreatDoorFiCut5
import Derived.Test.YtmeaiocohalphaaGreatDoorFiFn5
import Derived.Test.YtmeaiocohalphaaGreatDoorDMay
set_option maxHeartbeats 1000000
set_option maxRecDepth 100000
namespace Go.Proofs.YtmeaiocohalphaaGreatDoor
open Go.RowKit
set_option linter.unusedVariables false
set_option linter.unusedSimpArgs false
structure FsV where
 a1 : Option Addr
 n1 : Nat
 c1 : Nat
 a2 : Option Addr
 n2 : Nat
 c2 : Nat
 a3 : Option Addr
 n3 : Nat
 c3 : Nat
 g : Nat
 a4 : Option Addr
 n4 : Nat
 c4 : Nat
 a5 : Option Addr
 n5 : Nat
 c5 : Nat
abbrev FsV.dv (x : FsV) : Value := .agg #[.slice x.a1 x.n1 x.c1, .slice x.a2 x.n2 x.c2, .slice x.a3 x.n3 x.c3]
abbrev FsV.val (x : FsV) : Value := .agg #[.slice x.a1 x.n1 x.c1, .slice x.a2 x.n2 x.c2, .slice x.a3 x.n3 x.c3, .int .u32 x.g, .slice x.a4 x.n4 x.c4, .slice x.a5 x.n5 x.c5]
abbrev FsV.cs (x : FsV) : Array Value := #[.slice x.a1 x.n1 x.c1, .slice x.a2 x.n2 x.c2, .slice x.a3 x.n3 x.c3, .int .u32 x.g, .slice x.a4 x.n4 x.c4, .slice x.a5 x.n5 x.c5]
structure RdX (w : World) (x : FsV) (f : Fsd) : Prop where
 d : RdD w x.dv f.1
 n1 : x.n1 = f.1.1.length
 n2 : x.n2 = f.1.2.1.length
 g : x.g = f.2.1
 fl : RdF w (.slice x.a4 x.n4 x.c4) f.2.2.1
 n4 : x.n4 = f.2.2.1.length
 kl : RdF w (.slice x.a5 x.n5 x.c5) f.2.2.2
 n5 : x.n5 = f.2.2.2.length
theorem RdX.carry {w w' : World} {x : FsV} {f : Fsd} (h : RdX w x f) (hb : Below w.heap.size w w') : RdX w' x f := ⟨h.d.carry hb, h.n1, h.n2, h.g, h.fl.carry hb, h.n4, h.kl.carry hb, h.n5⟩
structure WfX (f : Fsd) : Prop where
 g : f.2.1 < 4294967296
 fl : wfFs f.2.2.1
 kl : wfFs f.2.2.2
theorem RdD.mk3 {w : World} {x1 : Option Addr} {m1 d1 : Nat} {x2 : Option Addr} {m2 d2 : Nat} {x3 : Option Addr} {m3 d3 : Nat} {d : Dk} (h : RdD w (.agg #[.slice x1 m1 d1, .slice x2 m2 d2, .slice x3 m3 d3]) d) : m1 = d.1.length ∧ m2 = d.2.1.length := by
 obtain ⟨a1, c1, a2, c2, a3, c3, e, _⟩ := h.form
 injection e with e
 have e1 := congrArg (fun (z : Array Value) => z[0]!) e
 have e2 := congrArg (fun (z : Array Value) => z[1]!) e
 simp at e1 e2
 exact ⟨e1.2.1, e2.2.1⟩
def RdFs (w : World) (v : Value) (f : Fsd) : Prop := ∃ d1 d2 d3 x y, v = .agg #[d1, d2, d3, .int .u32 f.2.1, x, y] ∧ RdD w (.agg #[d1, d2, d3]) f.1 ∧ RdF w x f.2.2.1 ∧ RdF w y f.2.2.2
theorem RdFs.form {w : World} {v : Value} {f : Fsd} (h : RdFs w v f) : ∃ x : FsV, v = x.val ∧ RdX w x f := by
 obtain ⟨d1, d2, d3, y, z, rfl, h1, h2, h3⟩ := h
 obtain ⟨a1, c1, a2, c2, a3, c3, e, _⟩ := h1.form
 have e1 : d1 = _ := congrArg (fun v : Value => match v with | .agg z => z[0]! | _ => undef) e
 have e2 : d2 = _ := congrArg (fun v : Value => match v with | .agg z => z[1]! | _ => undef) e
 have e3 : d3 = _ := congrArg (fun v : Value => match v with | .agg z => z[2]! | _ => undef) e
 simp at e1 e2 e3
 subst e1 e2 e3
 obtain ⟨a4, c4, rfl⟩ := h2.form
 obtain ⟨a5, c5, rfl⟩ := h3.form
 exact ⟨⟨a1, _, c1, a2, _, c2, a3, _, c3, f.2.1, a4, _, c4, a5, _, c5⟩, rfl, h1, rfl, rfl, rfl, h2, rfl, h3, rfl⟩
def OwFs (w : World) (base : Nat) (v : Value) (f : Fsd) : Prop := ∃ d1 d2 d3 x y, v = .agg #[d1, d2, d3, .int .u32 f.2.1, x, y] ∧ OwD w base (.agg #[d1, d2, d3]) f.1 ∧ OwF w base x f.2.2.1 ∧ OwF w base y f.2.2.2
theorem OwFs.rd {w : World} {base : Nat} {v : Value} {f : Fsd} (h : OwFs w base v f) : RdFs w v f := by
 obtain ⟨d1, d2, d3, x, y, rfl, h1, h2, h3⟩ := h
 exact ⟨d1, d2, d3, x, y, rfl, h1.rd, h2.rd, h3.rd⟩
theorem OwFs.carry {w w' : World} {base : Nat} {v : Value} {f : Fsd} (h : OwFs w base v f) (hb : Below w.heap.size w w') : OwFs w' base v f := by
 obtain ⟨d1, d2, d3, x, y, rfl, h1, h2, h3⟩ := h
 exact ⟨d1, d2, d3, x, y, rfl, h1.carry hb, h2.carry hb, h3.carry hb⟩
theorem OwFs.mono {w : World} {base base' : Nat} {v : Value} {f : Fsd} (h : OwFs w base v f) (hb : base' ≤ base) : OwFs w base' v f := by
 obtain ⟨d1, d2, d3, x, y, rfl, h1, h2, h3⟩ := h
 exact ⟨d1, d2, d3, x, y, rfl, h1.mono hb, h2.mono hb, h3.mono hb⟩
/-! ### variables -/
def Bq (w : World) (p : Nat) (t : TypeId) (cs : Array Value) : Prop := w.heap[p]? = some (.cells cs t (0, 0))
theorem Bq.lt {w : World} {p : Nat} {t : TypeId} {cs : Array Value} (h : Bq w p t cs) : p < w.heap.size := (Array.getElem?_eq_some_iff.1 h).1
theorem Bq.carry {w w' : World} {p : Nat} {t : TypeId} {cs : Array Value} (h : Bq w p t cs) (hb : Below w.heap.size w w') : Bq w' p t cs := (hb.block _ h.lt).trans h
theorem Bq.grown {w w' : World} {p q : Nat} {t : TypeId} {cs : Array Value} (h : Bq w p t cs) (hb : w.grownBy w' (some q)) (hne : p ≠ q) : Bq w' p t cs := (hb.block _ h.lt (by intro e; cases e; exact hne rfl)).trans h
theorem Bq.cell {w : World} {p : Nat} {t : TypeId} {cs : Array Value} (h : Bq w p t cs) (j : Nat) : w.cell? ⟨p, j, none⟩ = cs[j]? := cell_of_row w p j cs t (0, 0) h
theorem Bq.fz {w : World} {p : Nat} {t : TypeId} {cs : Array Value} (h : Bq w p t cs) (j : Nat) : w.frozen? ⟨p, j, none⟩ = false := frozen_of_row w p j _ _ h
theorem Bq.new (w : World) (t : TypeId) (cs : Array Value) : Bq (w.alloc (.cells cs t)) w.heap.size t cs := heap_alloc_new w _
theorem Bq.put {w : World} {p : Nat} {t : TypeId} {cs : Array Value} (h : Bq w p t cs) (j : Nat) (v : Value) : Bq (w.setCell ⟨p, j, none⟩ v) p t (cs.setIfInBounds j v) := heap_setCell_same w p j cs t v h
abbrev FsAt (w : World) (p : Nat) (x : FsV) : Prop := Bq w p 33 x.cs
theorem fs_cells {w : World} {p : Nat} {x : FsV} (h : FsAt w p x) : w.cell? ⟨p, 0, none⟩ = some (.slice x.a1 x.n1 x.c1) ∧ w.cell? ⟨p, 1, none⟩ = some (.slice x.a2 x.n2 x.c2) ∧ w.cell? ⟨p, 2, none⟩ = some (.slice x.a3 x.n3 x.c3) ∧ w.cell? ⟨p, 3, none⟩ = some (.int .u32 x.g) ∧ w.cell? ⟨p, 4, none⟩ = some (.slice x.a4 x.n4 x.c4) ∧ w.cell? ⟨p, 5, none⟩ = some (.slice x.a5 x.n5 x.c5) :=
 ⟨h.cell 0, h.cell 1, h.cell 2, h.cell 3, h.cell 4, h.cell 5⟩
theorem many_fs (x : FsV) (f : Fsd) (w : World) (h : RdX w x f) :
  Calls Tryz.prog 165 #[x.val] w fun e w' => e = .returned (.int .i64 (mnyFs f)) ∧ Below w.heap.size w w' := by
 obtain ⟨w1, ew⟩ : ∃ w1, w.alloc (.cells x.cs 33) = w1 := ⟨_, rfl⟩
 have hb1 : Below w.heap.size w w1 := by rw [← ew]; exact (Below.refl _ _).alloc (Nat.le_refl _) _
 have HF_w1 := hide (show FsAt w1 w.heap.size x by rw [← ew]; exact Bq.new _ _ _)
 obtain ⟨k0, k1, k2, k3, k4, k5⟩ := fs_cells HF_w1.out
 have HX := hide h
 have HB_w1 := hide hb1
 clear h hb1
 unfold FsV.val
 unfold FsV.cs at ew
 go_enter Tryz.func165, Tryz.ntmps165
 go_wp2_with fail
 refine (many_any (d := f.1) w1 (HX.out.d.carry HB_w1.out)).mono ?_
 rintro e w2 ⟨rfl, hb2⟩
 have HB_w2 := hide (show Below w.heap.size w w2 from HB_w1.out.trans (hb2.mono HB_w1.out.size))
 clear k0 k1 k2 k3 k4 k5 ew hb2
 go_wp2
 go_ret
 exact ⟨rfl, HB_w2.out⟩
theorem usedL_len (fs : List Fl) : (usedL fs).length ≤ 4096 := by
 unfold usedL
 by_cases h : chkF fs 4096 = 0
 ·rw [if_pos h]
  have h1 := (chkF_may h).2.2.2.1.1
  exact (chkX_rng h1).1
 ·rw [if_neg h]; simp
theorem usedL_wf (fs : List Fl) : ∀ x ∈ usedL fs, wfX x := by
 unfold usedL
 by_cases h : chkF fs 4096 = 0
 ·rw [if_pos h]
  intro x hx
  have h1 := (chkF_may h).2.2.2.1.1
  have := (chkX_rng h1).2 x hx
  unfold wfX
  omega
 ·rw [if_neg h]; simp
theorem usedFs_wf (f : Fsd) : ∀ x ∈ usedFs f, wfX x := by
 intro x hx
 rcases List.mem_append.1 hx with h | h
 ·exact usedL_wf _ x h
 ·exact usedL_wf _ x h
theorem used_fs (x : FsV) (f : Fsd) (w : World) (h : RdX w x f) (hw : WfX f) :
  Calls Tryz.prog 177 #[x.val] w fun e w' => ∃ v, e = .returned v ∧ OwE w' w.heap.size v (usedFs f) ∧ Below w.heap.size w w' := by
 obtain ⟨w1, ew⟩ : ∃ w1, w.alloc (.cells x.cs 33) = w1 := ⟨_, rfl⟩
 have hb1 : Below w.heap.size w w1 := by rw [← ew]; exact (Below.refl _ _).alloc (Nat.le_refl _) _
 have HF_w1 := hide (show FsAt w1 w.heap.size x by rw [← ew]; exact Bq.new _ _ _)
 obtain ⟨k0, k1, k2, k3, k4, k5⟩ := fs_cells HF_w1.out
 have HX := hide h
 have HB_w1 := hide hb1
 clear h hb1
 unfold FsV.val
 unfold FsV.cs at ew
 go_enter Tryz.func177, Tryz.ntmps177
 go_wp2_with fail
 refine (used_any _ _ _ f.2.2.1 w1 (HX.out.fl.carry HB_w1.out) HX.out.n4 hw.fl).mono ?_
 rintro e w2 ⟨v2, rfl, ho2, hb2⟩
 have HF_w2 := hide (HF_w1.out.carry hb2)
 have HB_w2 := hide (show Below w.heap.size w w2 from HB_w1.out.trans (hb2.mono HB_w1.out.size))
 obtain ⟨m2, hm2⟩ : ∃ m2, m2 = (usedL f.2.2.1).length := ⟨_, rfl⟩
 obtain ⟨y2, z2, e2⟩ : ∃ a c, v2 = .slice a m2 c := by rw [hm2]; exact ho2.form
 subst e2
 have HO2 := hide (ho2.mono HB_w1.out.size)
 have HM2 := hide hm2
 clear k0 k1 k2 k3 k4 k5 ew hb2 ho2 hm2
 obtain ⟨k0, k1, k2, k3, k4, k5⟩ := fs_cells HF_w2.out
 go_wp2_with fail
 refine (used_any _ _ _ f.2.2.2 w2 (HX.out.kl.carry HB_w2.out) HX.out.n5 hw.kl).mono ?_
 rintro e w3 ⟨v3, rfl, ho3, hb3⟩
 have HF_w3 := hide (HF_w2.out.carry hb3)
 have HB_w3 := hide (show Below w.heap.size w w3 from HB_w2.out.trans (hb3.mono HB_w2.out.size))
 obtain ⟨m3, hm3⟩ : ∃ m3, m3 = (usedL f.2.2.2).length := ⟨_, rfl⟩
 obtain ⟨y3, z3, e3⟩ : ∃ a c, v3 = .slice a m3 c := by rw [hm3]; exact ho3.form
 subst e3
 have HO3 := hide (ho3.mono HB_w2.out.size)
 have HO2' := hide (HO2.out.carry hb3)
 have HM3 := hide hm3
 clear k0 k1 k2 k3 k4 k5 hb3 ho3 hm3 HO2 hw
 have hbx : Below w3.heap.size w3 (w3.alloc (.cells #[.slice y2 m2 z2, .slice y3 m3 z3] 96)) := (Below.refl _ _).alloc (Nat.le_refl _) _
 have hct := concat_two w3.heap.size y2 m2 z2 y3 m3 z3 (usedL f.2.2.1) (usedL f.2.2.2) (w3.alloc (.cells #[.slice y2 m2 z2, .slice y3 m3 z3] 96)) (heap_alloc_new w3 _) (HO2'.out.rd.carry hbx) HM2.out (HO3.out.rd.carry hbx) HM3.out (by have := usedL_len f.2.2.1; have := usedL_len f.2.2.2; omega)
 have HBX := hide hbx
 clear hbx
 go_wp2_with fail
 refine hct.mono ?_
 rintro e w4 ⟨v4, rfl, ho4, hb4⟩
 have hbx := HBX.out.trans (hb4.mono (HBX.out.size))
 have HB4 := hide (show Below w.heap.size w w4 from HB_w3.out.trans (hbx.mono HB_w3.out.size))
 have HO4 := hide (ho4.mono (Nat.le_trans HB_w3.out.size HBX.out.size))
 clear hct hbx HBX hb4 ho4
 go_wp2
 go_ret
 exact ⟨_, rfl, HO4.out, HB4.out⟩
theorem any34 (l : List Pu) (k : Nat) (hk : k < l.length) : (l.take (k + 1)).any (fun p => decide (p.1 < 34)) = ((l.take k).any (fun p => decide (p.1 < 34)) || decide ((l[k]).1 < 34)) := by
 rw [List.take_succ_eq_append_getElem hk, List.any_append]
 simp
theorem belowFirst_any (N : Int) (u : Value) (w : World) (hu : u.oneCell' = true) :
  Calls Tryz.prog 171 #[.agg #[.int .i64 N, u]] w fun e w' => e = .returned (.bool (decide (N < 34))) ∧ Below w.heap.size w w' := by
 have hb0 : ∀ o, Below w.heap.size w (w.alloc o) := fun o => (Below.refl _ _).alloc (Nat.le_refl _) _
 go_enter Tryz.func171, Tryz.ntmps171
 go_wp2
 go_ret
 exact ⟨rfl, hb0 _⟩
theorem indexPut_any (a : Option Addr) (n c : Nat) (l : List Pu) (w : World) (hrd : RdW w (.slice a n c) l) (hn : n = l.length) :
  Calls Tryz.prog 152 #[.slice a n c, .func (.func 171) #[] #[]] w fun e w' => ∃ i : Int, e = .returned (.int .i64 i) ∧ decide (0 ≤ i) = l.any (fun p => decide (p.1 < 34)) ∧ Below w.heap.size w w' := by
 have hm : n ≤ maxLen := hn ▸ hrd.len_le
 unfold maxLen at hm
 have HR := hide hrd
 have HN := hide hn
 clear hrd hn
 go_enter Tryz.func152, Tryz.ntmps152
 go_wp2
 go_loopw [8] (fun i wr => ∃ k : Nat, k ≤ n ∧ i = .int .i64 k ∧ Hid ((l.take k).any (fun p => decide (p.1 < 34)) = false) ∧ Below w.heap.size w wr) (fun i _ => n - (intOf i).toNat)
 case atStart => exact ⟨0, Nat.zero_le _, rfl, hide (by simp), Below.refl _ _⟩
 case round =>
  obtain ⟨k, hk, rfl, hall, hbel⟩ := hrel
  by_cases hlt : k < n
  ·have hlt' : (k : Int) < n := by omega
   have hkl : k < l.length := by have := HN.out; omega
   obtain ⟨b, off, rfl, q0, x9, m9, d9, q1, q2, q3⟩ := (HR.out.carry hbel).at k hkl
   obtain ⟨N, hN⟩ : ∃ N, N = (l[k]).1 := ⟨_, rfl⟩
   rw [← hN] at q0
   have HN2 := hide hN
   clear q2 q3 hN
   go_wp2_with fail
   refine (belowFirst_any N _ _ rfl).mono ?_
   rintro e w1 ⟨rfl, hb1⟩
   have hb1' : Below w.heap.size w w1 := hbel.trans (hb1.mono hbel.size)
   clear hb1 q0 q1
   by_cases hq : N < 34
   ·have HM := hide (show l.any (fun p => decide (p.1 < 34)) = true by
     rw [List.any_eq_true]
     exact ⟨l[k], List.getElem_mem hkl, by rw [← HN2.out]; simpa using hq⟩)
    have hq' : decide (N < 34) = true := by simpa using hq
    clear hq
    go_wp2
    go_ret
    exact ⟨_, rfl, by rw [HM.out]; simp, hb1'⟩
   ·have HM := hide (show (l.take (k + 1)).any (fun p => decide (p.1 < 34)) = false by
     rw [any34 l k hkl, hall.out, ← HN2.out]; simpa using hq)
    have hq' : decide (N < 34) = false := by simpa using hq
    clear hq
    go_wp2
    go_roundw
    case rel => exact ⟨k + 1, by omega, rfl, HM, hb1'⟩
    case measure => simp only [intOf]; omega
  ·have hd : decide ((k : Int) < n) = false := by simpa using (by omega : ¬ (k : Int) < n)
   have HM := hide (show l.any (fun p => decide (p.1 < 34)) = false by
    have := hall.out
    rwa [List.take_of_length_le (by have := HN.out; omega)] at this)
   go_wp2
   go_ret
   exact ⟨_, rfl, by rw [HM.out]; rfl, hbel⟩
theorem containsPut_any (a : Option Addr) (n c : Nat) (l : List Pu) (w : World) (hrd : RdW w (.slice a n c) l) (hn : n = l.length) :
  Calls Tryz.prog 77 #[.slice a n c, .func (.func 171) #[] #[]] w fun e w' => e = .returned (.bool (l.any (fun p => decide (p.1 < 34)))) ∧ Below w.heap.size w w' := by
 have hix := indexPut_any a n c l w hrd hn
 clear hrd hn
 go_enter Tryz.func77, Tryz.ntmps77
 go_wp2_with fail
 refine hix.mono ?_
 rintro e w1 ⟨i, rfl, hi, hb1⟩
 have HI := hide hi
 clear hi
 go_wp2
 go_ret
 exact ⟨by rw [← HI.out]; rfl, hb1⟩
section
variable {P : Program} {md : Region.Mode} {ops : Array Oper} {Q : Exit → Act → World → Prop}
theorem reg_two {S : World → Prop} {i j : Nat} {fuel : Nat} {listed : Array Bool} {a : Act} {w : World} (hr : Region.ready md ops listed = [i, j])
  (h1 : wpOp P ops (NoPanic Q) i (fun a' w' => S w' ∧ wpAnyH P md ops (NoPanic Q) S fuel (listed.setIfInBounds i true) a' w') a w)
  (h2 : wpOp P ops (NoPanic Q) j (fun a' w' => S w' ∧ wpAnyH P md ops (NoPanic Q) S fuel (listed.setIfInBounds j true) a' w') a w) : wpAnyH P md ops (NoPanic Q) S (fuel + 1) listed a w := by
 refine wpAnyH_all (rs := [i, j]) hr (by simp) ?_
 intro k hk
 rcases List.mem_cons.1 hk with rfl | hk
 ·exact h1
 ·obtain rfl := List.mem_singleton.1 hk
  exact h2
theorem wop_run {K : Act → World → Prop} {i : Nat} {dst : Option Tmp} {op : Op} {ty : TypeId} {pos : String} {aft : Array Edge} {gd : Option (Nat × Bool)} {a : Act} {w w' : World} {v : Value} (hi : ops[i]? = some { dst := dst, op := op, type := ty, pos := pos, after := aft, guard := gd }) (hw : Region.wanted { dst := dst, op := op, type := ty, pos := pos, after := aft, guard := gd } (yielded ops a.tmps) = true)
  (hrun : (execOp a.eval { dst := dst, op := op, type := ty, pos := pos, after := aft, guard := gd }).run P w = .ok (.value v) w') (h : K (a.put dst v) w') : wpOp P ops Q i K a w := by
 unfold wpOp
 simp only [hi, hw, if_true]
 refine .inl ?_
 unfold Oper.wp
 rw [hrun]
 exact h
theorem wop_callg {K : Act → World → Prop} {i : Nat} {dst : Option Tmp} {op : Op} {ty : TypeId} {pos : String} {aft : Array Edge} {gd : Option (Nat × Bool)} {a : Act} {w : World} {f : FuncId} {args : Array Value} {R : Value → World → Prop} (hi : ops[i]? = some { dst := dst, op := op, type := ty, pos := pos, after := aft, guard := gd }) (hw : Region.wanted { dst := dst, op := op, type := ty, pos := pos, after := aft, guard := gd } (yielded ops a.tmps) = true)
  (hrun : (execOp a.eval { dst := dst, op := op, type := ty, pos := pos, after := aft, guard := gd }).run P w = .ok (.enter f args) w) (hc : Calls P f args w fun e w' => ∃ v, e = .returned v ∧ R v w') (h : ∀ v w', R v w' → K (a.put dst v) w') : wpOp P ops (NoPanic Q) i K a w := by
 unfold wpOp
 simp only [hi, hw, if_true]
 refine .inl ?_
 unfold Oper.wp
 rw [hrun]
 exact hc.mono fun e w' ⟨v, he, hv⟩ => by subst he; exact h v w' hv
end
theorem region_cut {P : Program} {id : Nat} {ops : Array Oper} {Q : Exit → Act → World → Prop} {a : Act} {w : World} {α : Type} (F : α → Act → Act) (R : α → World → Prop) (h : (Code.region id ops true).wp P (fun e a' w' => e = .normal ∧ ∃ x, a' = F x a ∧ R x w') a w) (k : ∀ x w', R x w' → Q .normal (F x a) w') : (Code.region id ops true).wp P Q a w :=
 Code.wp_mono (fun e a' w' ⟨h1, x, h2, h3⟩ => by subst h1 h2; exact k x w' h3) h
end Go.Proofs.YtmeaiocohalphaaGreatDoor

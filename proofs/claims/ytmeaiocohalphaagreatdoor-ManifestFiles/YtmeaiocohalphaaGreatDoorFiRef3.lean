/-
  Of the document's side of layer 5: Bytes, Check.
-/
import Derived.Test.YtmeaiocohalphaaGreatDoorMathFs
import Derived.Test.YtmeaiocohalphaaGreatDoorSLat
import Derived.Test.YtmeaiocohalphaaGreatDoorRead
import Derived.Test.YtmeaiocohalphaaGreatDoorFiCut5
import Derived.Test.YtmeaiocohalphaaGreatDoorFiRef1
import Derived.Test.YtmeaiocohalphaaGreatDoorMathFi3
import Derived.Test.YtmeaiocohalphaaGreatDoorFiCut3
set_option maxHeartbeats 4000000
set_option maxRecDepth 100000
namespace Go.Proofs.YtmeaiocohalphaaGreatDoor
open Go.RowKit
set_option linter.unusedVariables false
set_option linter.unusedSimpArgs false
structure FsV where
 a1 : Option Addr
 n1 : Nat
 c1 : Nat
 a2 : Option Addr
 n2 : Nat
 c2 : Nat
 a3 : Option Addr
 n3 : Nat
 c3 : Nat
 g : Nat
 a4 : Option Addr
 n4 : Nat
 c4 : Nat
 a5 : Option Addr
 n5 : Nat
 c5 : Nat
abbrev FsV.dv (x : FsV) : Value := .agg #[.slice x.a1 x.n1 x.c1, .slice x.a2 x.n2 x.c2, .slice x.a3 x.n3 x.c3]
abbrev FsV.val (x : FsV) : Value := .agg #[.slice x.a1 x.n1 x.c1, .slice x.a2 x.n2 x.c2, .slice x.a3 x.n3 x.c3, .int .u32 x.g, .slice x.a4 x.n4 x.c4, .slice x.a5 x.n5 x.c5]
abbrev FsV.cs (x : FsV) : Array Value := #[.slice x.a1 x.n1 x.c1, .slice x.a2 x.n2 x.c2, .slice x.a3 x.n3 x.c3, .int .u32 x.g, .slice x.a4 x.n4 x.c4, .slice x.a5 x.n5 x.c5]
structure RdX (w : World) (x : FsV) (f : Fsd) : Prop where
 d : RdD w x.dv f.1
 n1 : x.n1 = f.1.1.length
 n2 : x.n2 = f.1.2.1.length
 g : x.g = f.2.1
 fl : RdF w (.slice x.a4 x.n4 x.c4) f.2.2.1
 n4 : x.n4 = f.2.2.1.length
 kl : RdF w (.slice x.a5 x.n5 x.c5) f.2.2.2
 n5 : x.n5 = f.2.2.2.length
theorem RdX.carry {w w' : World} {x : FsV} {f : Fsd} (h : RdX w x f) (hb : Below w.heap.size w w') : RdX w' x f := ⟨h.d.carry hb, h.n1, h.n2, h.g, h.fl.carry hb, h.n4, h.kl.carry hb, h.n5⟩
structure WfX (f : Fsd) : Prop where
 g : f.2.1 < 4294967296
 fl : wfFs f.2.2.1
 kl : wfFs f.2.2.2
theorem RdD.mk3 {w : World} {x1 : Option Addr} {m1 d1 : Nat} {x2 : Option Addr} {m2 d2 : Nat} {x3 : Option Addr} {m3 d3 : Nat} {d : Dk} (h : RdD w (.agg #[.slice x1 m1 d1, .slice x2 m2 d2, .slice x3 m3 d3]) d) : m1 = d.1.length ∧ m2 = d.2.1.length := by
 obtain ⟨a1, c1, a2, c2, a3, c3, e, _⟩ := h.form
 injection e with e
 have e1 := congrArg (fun (z : Array Value) => z[0]!) e
 have e2 := congrArg (fun (z : Array Value) => z[1]!) e
 simp at e1 e2
 exact ⟨e1.2.1, e2.2.1⟩
def RdFs (w : World) (v : Value) (f : Fsd) : Prop := ∃ d1 d2 d3 x y, v = .agg #[d1, d2, d3, .int .u32 f.2.1, x, y] ∧ RdD w (.agg #[d1, d2, d3]) f.1 ∧ RdF w x f.2.2.1 ∧ RdF w y f.2.2.2
theorem RdFs.form {w : World} {v : Value} {f : Fsd} (h : RdFs w v f) : ∃ x : FsV, v = x.val ∧ RdX w x f := by
 obtain ⟨d1, d2, d3, y, z, rfl, h1, h2, h3⟩ := h
 obtain ⟨a1, c1, a2, c2, a3, c3, e, _⟩ := h1.form
 have e1 : d1 = _ := congrArg (fun v : Value => match v with | .agg z => z[0]! | _ => undef) e
 have e2 : d2 = _ := congrArg (fun v : Value => match v with | .agg z => z[1]! | _ => undef) e
 have e3 : d3 = _ := congrArg (fun v : Value => match v with | .agg z => z[2]! | _ => undef) e
 simp at e1 e2 e3
 subst e1 e2 e3
 obtain ⟨a4, c4, rfl⟩ := h2.form
 obtain ⟨a5, c5, rfl⟩ := h3.form
 exact ⟨⟨a1, _, c1, a2, _, c2, a3, _, c3, f.2.1, a4, _, c4, a5, _, c5⟩, rfl, h1, rfl, rfl, rfl, h2, rfl, h3, rfl⟩
def OwFs (w : World) (base : Nat) (v : Value) (f : Fsd) : Prop := ∃ d1 d2 d3 x y, v = .agg #[d1, d2, d3, .int .u32 f.2.1, x, y] ∧ OwD w base (.agg #[d1, d2, d3]) f.1 ∧ OwF w base x f.2.2.1 ∧ OwF w base y f.2.2.2
theorem OwFs.rd {w : World} {base : Nat} {v : Value} {f : Fsd} (h : OwFs w base v f) : RdFs w v f := by
 obtain ⟨d1, d2, d3, x, y, rfl, h1, h2, h3⟩ := h
 exact ⟨d1, d2, d3, x, y, rfl, h1.rd, h2.rd, h3.rd⟩
theorem OwFs.carry {w w' : World} {base : Nat} {v : Value} {f : Fsd} (h : OwFs w base v f) (hb : Below w.heap.size w w') : OwFs w' base v f := by
 obtain ⟨d1, d2, d3, x, y, rfl, h1, h2, h3⟩ := h
 exact ⟨d1, d2, d3, x, y, rfl, h1.carry hb, h2.carry hb, h3.carry hb⟩
theorem OwFs.mono {w : World} {base base' : Nat} {v : Value} {f : Fsd} (h : OwFs w base v f) (hb : base' ≤ base) : OwFs w base' v f := by
 obtain ⟨d1, d2, d3, x, y, rfl, h1, h2, h3⟩ := h
 exact ⟨d1, d2, d3, x, y, rfl, h1.mono hb, h2.mono hb, h3.mono hb⟩
/-! ### variables -/
def Bq (w : World) (p : Nat) (t : TypeId) (cs : Array Value) : Prop := w.heap[p]? = some (.cells cs t (0, 0))
theorem Bq.lt {w : World} {p : Nat} {t : TypeId} {cs : Array Value} (h : Bq w p t cs) : p < w.heap.size := (Array.getElem?_eq_some_iff.1 h).1
theorem Bq.carry {w w' : World} {p : Nat} {t : TypeId} {cs : Array Value} (h : Bq w p t cs) (hb : Below w.heap.size w w') : Bq w' p t cs := (hb.block _ h.lt).trans h
theorem Bq.below {w w' : World} {p B : Nat} {t : TypeId} {cs : Array Value} (h : Bq w p t cs) (hp : p < B) (hb : Below B w w') : Bq w' p t cs := (hb.block _ hp).trans h
theorem Bq.grown {w w' : World} {p q : Nat} {t : TypeId} {cs : Array Value} (h : Bq w p t cs) (hb : w.grownBy w' (some q)) (hne : p ≠ q) : Bq w' p t cs := (hb.block _ h.lt (by intro e; cases e; exact hne rfl)).trans h
theorem Bq.cell {w : World} {p : Nat} {t : TypeId} {cs : Array Value} (h : Bq w p t cs) (j : Nat) : w.cell? ⟨p, j, none⟩ = cs[j]? := cell_of_row w p j cs t (0, 0) h
theorem Bq.fz {w : World} {p : Nat} {t : TypeId} {cs : Array Value} (h : Bq w p t cs) (j : Nat) : w.frozen? ⟨p, j, none⟩ = false := frozen_of_row w p j _ _ h
theorem Bq.new (w : World) (t : TypeId) (cs : Array Value) : Bq (w.alloc (.cells cs t)) w.heap.size t cs := heap_alloc_new w _
theorem Bq.put {w : World} {p : Nat} {t : TypeId} {cs : Array Value} (h : Bq w p t cs) (j : Nat) (v : Value) : Bq (w.setCell ⟨p, j, none⟩ v) p t (cs.setIfInBounds j v) := heap_setCell_same w p j cs t v h
abbrev FsAt (w : World) (p : Nat) (x : FsV) : Prop := Bq w p 33 x.cs
theorem fs_cells {w : World} {p : Nat} {x : FsV} (h : FsAt w p x) : w.cell? ⟨p, 0, none⟩ = some (.slice x.a1 x.n1 x.c1) ∧ w.cell? ⟨p, 1, none⟩ = some (.slice x.a2 x.n2 x.c2) ∧ w.cell? ⟨p, 2, none⟩ = some (.slice x.a3 x.n3 x.c3) ∧ w.cell? ⟨p, 3, none⟩ = some (.int .u32 x.g) ∧ w.cell? ⟨p, 4, none⟩ = some (.slice x.a4 x.n4 x.c4) ∧ w.cell? ⟨p, 5, none⟩ = some (.slice x.a5 x.n5 x.c5) :=
 ⟨h.cell 0, h.cell 1, h.cell 2, h.cell 3, h.cell 4, h.cell 5⟩
theorem many_fs (x : FsV) (f : Fsd) (w : World) (h : RdX w x f) :
  Calls Tryz.prog 165 #[x.val] w fun e w' => e = .returned (.int .i64 (mnyFs f)) ∧ Below w.heap.size w w' := by
 obtain ⟨w1, ew⟩ : ∃ w1, w.alloc (.cells x.cs 33) = w1 := ⟨_, rfl⟩
 have hb1 : Below w.heap.size w w1 := by rw [← ew]; exact (Below.refl _ _).alloc (Nat.le_refl _) _
 have HF_w1 := hide (show FsAt w1 w.heap.size x by rw [← ew]; exact Bq.new _ _ _)
 obtain ⟨k0, k1, k2, k3, k4, k5⟩ := fs_cells HF_w1.out
 have HX := hide h
 have HB_w1 := hide hb1
 clear h hb1
 unfold FsV.val
 unfold FsV.cs at ew
 go_enter Tryz.func165, Tryz.ntmps165
 go_wp2_with fail
 refine (many_any (d := f.1) w1 (HX.out.d.carry HB_w1.out)).mono ?_
 rintro e w2 ⟨rfl, hb2⟩
 have HB_w2 := hide (show Below w.heap.size w w2 from HB_w1.out.trans (hb2.mono HB_w1.out.size))
 clear k0 k1 k2 k3 k4 k5 ew hb2
 go_wp2
 go_ret
 exact ⟨rfl, HB_w2.out⟩
theorem usedL_len (fs : List Fl) : (usedL fs).length ≤ 4096 := by
 unfold usedL
 by_cases h : chkF fs 4096 = 0
 ·rw [if_pos h]
  have h1 := (chkF_may h).2.2.2.1.1
  exact (chkX_rng h1).1
 ·rw [if_neg h]; simp
theorem usedL_wf (fs : List Fl) : ∀ x ∈ usedL fs, wfX x := by
 unfold usedL
 by_cases h : chkF fs 4096 = 0
 ·rw [if_pos h]
  intro x hx
  have h1 := (chkF_may h).2.2.2.1.1
  have := (chkX_rng h1).2 x hx
  unfold wfX
  omega
 ·rw [if_neg h]; simp
theorem usedFs_wf (f : Fsd) : ∀ x ∈ usedFs f, wfX x := by
 intro x hx
 rcases List.mem_append.1 hx with h | h
 ·exact usedL_wf _ x h
 ·exact usedL_wf _ x h
theorem used_fs (x : FsV) (f : Fsd) (w : World) (h : RdX w x f) (hw : WfX f) :
  Calls Tryz.prog 177 #[x.val] w fun e w' => ∃ v, e = .returned v ∧ OwE w' w.heap.size v (usedFs f) ∧ Below w.heap.size w w' := by
 obtain ⟨w1, ew⟩ : ∃ w1, w.alloc (.cells x.cs 33) = w1 := ⟨_, rfl⟩
 have hb1 : Below w.heap.size w w1 := by rw [← ew]; exact (Below.refl _ _).alloc (Nat.le_refl _) _
 have HF_w1 := hide (show FsAt w1 w.heap.size x by rw [← ew]; exact Bq.new _ _ _)
 obtain ⟨k0, k1, k2, k3, k4, k5⟩ := fs_cells HF_w1.out
 have HX := hide h
 have HB_w1 := hide hb1
 clear h hb1
 unfold FsV.val
 unfold FsV.cs at ew
 go_enter Tryz.func177, Tryz.ntmps177
 go_wp2_with fail
 refine (used_any _ _ _ f.2.2.1 w1 (HX.out.fl.carry HB_w1.out) HX.out.n4 hw.fl).mono ?_
 rintro e w2 ⟨v2, rfl, ho2, hb2⟩
 have HF_w2 := hide (HF_w1.out.carry hb2)
 have HB_w2 := hide (show Below w.heap.size w w2 from HB_w1.out.trans (hb2.mono HB_w1.out.size))
 obtain ⟨m2, hm2⟩ : ∃ m2, m2 = (usedL f.2.2.1).length := ⟨_, rfl⟩
 obtain ⟨y2, z2, e2⟩ : ∃ a c, v2 = .slice a m2 c := by rw [hm2]; exact ho2.form
 subst e2
 have HO2 := hide (ho2.mono HB_w1.out.size)
 have HM2 := hide hm2
 clear k0 k1 k2 k3 k4 k5 ew hb2 ho2 hm2
 obtain ⟨k0, k1, k2, k3, k4, k5⟩ := fs_cells HF_w2.out
 go_wp2_with fail
 refine (used_any _ _ _ f.2.2.2 w2 (HX.out.kl.carry HB_w2.out) HX.out.n5 hw.kl).mono ?_
 rintro e w3 ⟨v3, rfl, ho3, hb3⟩
 have HF_w3 := hide (HF_w2.out.carry hb3)
 have HB_w3 := hide (show Below w.heap.size w w3 from HB_w2.out.trans (hb3.mono HB_w2.out.size))
 obtain ⟨m3, hm3⟩ : ∃ m3, m3 = (usedL f.2.2.2).length := ⟨_, rfl⟩
 obtain ⟨y3, z3, e3⟩ : ∃ a c, v3 = .slice a m3 c := by rw [hm3]; exact ho3.form
 subst e3
 have HO3 := hide (ho3.mono HB_w2.out.size)
 have HO2' := hide (HO2.out.carry hb3)
 have HM3 := hide hm3
 clear k0 k1 k2 k3 k4 k5 hb3 ho3 hm3 HO2 hw
 have hbx : Below w3.heap.size w3 (w3.alloc (.cells #[.slice y2 m2 z2, .slice y3 m3 z3] 96)) := (Below.refl _ _).alloc (Nat.le_refl _) _
 have hct := concat_two w3.heap.size y2 m2 z2 y3 m3 z3 (usedL f.2.2.1) (usedL f.2.2.2) (w3.alloc (.cells #[.slice y2 m2 z2, .slice y3 m3 z3] 96)) (heap_alloc_new w3 _) (HO2'.out.rd.carry hbx) HM2.out (HO3.out.rd.carry hbx) HM3.out (by have := usedL_len f.2.2.1; have := usedL_len f.2.2.2; omega)
 have HBX := hide hbx
 clear hbx
 go_wp2_with fail
 refine hct.mono ?_
 rintro e w4 ⟨v4, rfl, ho4, hb4⟩
 have hbx := HBX.out.trans (hb4.mono (HBX.out.size))
 have HB4 := hide (show Below w.heap.size w w4 from HB_w3.out.trans (hbx.mono HB_w3.out.size))
 have HO4 := hide (ho4.mono (Nat.le_trans HB_w3.out.size HBX.out.size))
 clear hct hbx HBX hb4 ho4
 go_wp2
 go_ret
 exact ⟨_, rfl, HO4.out, HB4.out⟩
theorem any34 (l : List Pu) (k : Nat) (hk : k < l.length) : (l.take (k + 1)).any (fun p => decide (p.1 < 34)) = ((l.take k).any (fun p => decide (p.1 < 34)) || decide ((l[k]).1 < 34)) := by
 rw [List.take_succ_eq_append_getElem hk, List.any_append]
 simp
theorem belowFirst_any (N : Int) (u : Value) (w : World) (hu : u.oneCell' = true) :
  Calls Tryz.prog 171 #[.agg #[.int .i64 N, u]] w fun e w' => e = .returned (.bool (decide (N < 34))) ∧ Below w.heap.size w w' := by
 have hb0 : ∀ o, Below w.heap.size w (w.alloc o) := fun o => (Below.refl _ _).alloc (Nat.le_refl _) _
 go_enter Tryz.func171, Tryz.ntmps171
 go_wp2
 go_ret
 exact ⟨rfl, hb0 _⟩
theorem indexPut_any (a : Option Addr) (n c : Nat) (l : List Pu) (w : World) (hrd : RdW w (.slice a n c) l) (hn : n = l.length) :
  Calls Tryz.prog 152 #[.slice a n c, .func (.func 171) #[] #[]] w fun e w' => ∃ i : Int, e = .returned (.int .i64 i) ∧ decide (0 ≤ i) = l.any (fun p => decide (p.1 < 34)) ∧ Below w.heap.size w w' := by
 have hm : n ≤ maxLen := hn ▸ hrd.len_le
 unfold maxLen at hm
 have HR := hide hrd
 have HN := hide hn
 clear hrd hn
 go_enter Tryz.func152, Tryz.ntmps152
 go_wp2
 go_loopw [8] (fun i wr => ∃ k : Nat, k ≤ n ∧ i = .int .i64 k ∧ Hid ((l.take k).any (fun p => decide (p.1 < 34)) = false) ∧ Below w.heap.size w wr) (fun i _ => n - (intOf i).toNat)
 case atStart => exact ⟨0, Nat.zero_le _, rfl, hide (by simp), Below.refl _ _⟩
 case round =>
  obtain ⟨k, hk, rfl, hall, hbel⟩ := hrel
  by_cases hlt : k < n
  ·have hlt' : (k : Int) < n := by omega
   have hkl : k < l.length := by have := HN.out; omega
   obtain ⟨b, off, rfl, q0, x9, m9, d9, q1, q2, q3⟩ := (HR.out.carry hbel).at k hkl
   obtain ⟨N, hN⟩ : ∃ N, N = (l[k]).1 := ⟨_, rfl⟩
   rw [← hN] at q0
   have HN2 := hide hN
   clear q2 q3 hN
   go_wp2_with fail
   refine (belowFirst_any N _ _ rfl).mono ?_
   rintro e w1 ⟨rfl, hb1⟩
   have hb1' : Below w.heap.size w w1 := hbel.trans (hb1.mono hbel.size)
   clear hb1 q0 q1
   by_cases hq : N < 34
   ·have HM := hide (show l.any (fun p => decide (p.1 < 34)) = true by
     rw [List.any_eq_true]
     exact ⟨l[k], List.getElem_mem hkl, by rw [← HN2.out]; simpa using hq⟩)
    have hq' : decide (N < 34) = true := by simpa using hq
    clear hq
    go_wp2
    go_ret
    exact ⟨_, rfl, by rw [HM.out]; simp, hb1'⟩
   ·have HM := hide (show (l.take (k + 1)).any (fun p => decide (p.1 < 34)) = false by
     rw [any34 l k hkl, hall.out, ← HN2.out]; simpa using hq)
    have hq' : decide (N < 34) = false := by simpa using hq
    clear hq
    go_wp2
    go_roundw
    case rel => exact ⟨k + 1, by omega, rfl, HM, hb1'⟩
    case measure => simp only [intOf]; omega
  ·have hd : decide ((k : Int) < n) = false := by simpa using (by omega : ¬ (k : Int) < n)
   have HM := hide (show l.any (fun p => decide (p.1 < 34)) = false by
    have := hall.out
    rwa [List.take_of_length_le (by have := HN.out; omega)] at this)
   go_wp2
   go_ret
   exact ⟨_, rfl, by rw [HM.out]; rfl, hbel⟩
theorem containsPut_any (a : Option Addr) (n c : Nat) (l : List Pu) (w : World) (hrd : RdW w (.slice a n c) l) (hn : n = l.length) :
  Calls Tryz.prog 77 #[.slice a n c, .func (.func 171) #[] #[]] w fun e w' => e = .returned (.bool (l.any (fun p => decide (p.1 < 34)))) ∧ Below w.heap.size w w' := by
 have hix := indexPut_any a n c l w hrd hn
 clear hrd hn
 go_enter Tryz.func77, Tryz.ntmps77
 go_wp2_with fail
 refine hix.mono ?_
 rintro e w1 ⟨i, rfl, hi, hb1⟩
 have HI := hide hi
 clear hi
 go_wp2
 go_ret
 exact ⟨by rw [← HI.out]; rfl, hb1⟩
theorem chk_meet {l : List Ex} {k j : Nat} (hk : k < l.length) (hj : j < k) (hl : l.length ≤ 4096) (h : meetX l[k] (l[j]'(by omega)) = true) : chkX l = 8 := by
 by_cases ha : allX l = 0
 ·refine chkX_apart (k := k + 1) hk ha ?_
  rw [take_snoc l k hk, apX_snoc, Bool.and_eq_false_iff]
  right
  rw [List.all_eq_false]
  refine ⟨l[j]'(by omega), ?_, by rw [h]; simp⟩
  rw [List.mem_take_iff_getElem]
  exact ⟨j, by omega, rfl⟩
 ·rw [chkX_all ha]
  rcases allX_cases l with ⟨_, h1⟩ | ⟨h1, _⟩ | ⟨h1, _⟩
  ·omega
  ·exact h1
  ·exact absurd h1 ha
theorem chk_bad {l : List Ex} {k : Nat} (hk : k < l.length) (hl : l.length ≤ 4096) (h : mayX l[k] = false) : chkX l = 8 := by
 have := allX_bad hk hl h
 rw [chkX_all (by rw [this]; decide), this]
theorem chk_long {l : List Ex} (h : 4096 < l.length) : chkX l = 4 := by
 have : allX l = 4 := by unfold allX; rw [if_pos h]
 rw [chkX_all (by rw [this]; decide), this]
theorem rCheck_ext (a : Option Addr) (n c : Nat) (l : List Ex) (w : World) (hrd : RdE w (.slice a n c) l) (hn : n = l.length) (hwf : ∀ x ∈ l, wfX x) :
  Calls Tryz.prog 240 #[.slice a n c] w fun e w' => e = .returned (.int .i64 (chkX l)) ∧ Below w.heap.size w w' := by
 have hm : n ≤ maxLen := hn ▸ hrd.len_le
 unfold maxLen at hm
 have HR := hide hrd
 have HN := hide hn
 have HW := hide hwf
 clear hrd hn hwf
 by_cases g1 : n > 4096
 ·have HM := hide (chk_long (l := l) (by have := HN.out; omega))
  have g1' : (4096 : Int) < n := by omega
  go_enter Tryz.func240, Tryz.ntmps240
  go_wp2
  go_ret
  exact ⟨by rw [HM.out]; rfl, Below.refl _ _⟩
 have g1' : decide ((4096 : Int) < n) = false := by simpa using (by omega : ¬ (4096 : Int) < n)
 clear hm
 go_enter Tryz.func240, Tryz.ntmps240
 go_wp2
 go_loopw [3] (fun i wr => ∃ k : Nat, k ≤ n ∧ i = .int .i64 k ∧ Hid (∀ x ∈ l.take k, mayX x = true) ∧ Hid (apX (l.take k) = true) ∧ Below w.heap.size w wr) (fun i _ => n - (intOf i).toNat)
 case atStart => exact ⟨0, Nat.zero_le _, rfl, hide (by simp), hide (by simp [apX]), Below.refl _ _⟩
 case round =>
  obtain ⟨k, hk, rfl, hall, hap, hbel⟩ := hrel
  by_cases hlt : k < n
  ·have hlt' : (k : Int) < n := by omega
   have hkl : k < l.length := by have := HN.out; omega
   have hw1 : wrap64 ((k : Int) + 1) = (k : Int) + 1 := wrapS (by omega)
   obtain ⟨b, off, e, q0, q1⟩ := (HR.out.carry hbel).at k hkl
   subst e
   go_wp2_with fail
   refine (rMay_any (l[k]) (HW.out _ (List.getElem_mem hkl)) _).mono ?_
   rintro e wc ⟨rfl, hbc⟩
   have hbc' : Below w.heap.size w wc := hbel.trans (hbc.mono hbel.size)
   clear hbc
   cases hp : mayX l[k] with
   | false =>
    have HM := hide (chk_bad hkl (by have := HN.out; omega) hp)
    clear hp
    go_wp2
    go_ret
    exact ⟨by rw [HM.out]; rfl, hbc'⟩
   | true =>
    have HP := hide hp
    have HA := hide (show ∀ x ∈ l.take (k + 1), mayX x = true by
     intro x hx
     rw [take_snoc l k hkl] at hx
     rcases List.mem_append.1 hx with hx | hx
     ·exact hall.out x hx
     ·rw [List.mem_singleton.1 hx]; exact hp)
    clear hp q0 q1 hbel
    go_wp2
    go_loopw [4] (fun i wr => ∃ j : Nat, j ≤ k ∧ i = .int .i64 j ∧ Hid (∀ y ∈ l.take j, meetX l[k] y = false) ∧ Below w.heap.size w wr) (fun i _ => k - (intOf i).toNat)
    case atStart => exact ⟨0, Nat.zero_le _, rfl, hide (by simp), hbc'⟩
    case round =>
     obtain ⟨j, hj, rfl, hno, hbel⟩ := hrel
     by_cases hjk : j < k
     ·have hjk' : (j : Int) < k := by omega
      have hjl : j < l.length := by omega
      have hjn : j < n := by omega
      have hw2 : wrap64 ((j : Int) + 1) = (j : Int) + 1 := wrapS (by omega)
      obtain ⟨b, off, e, q0, q1⟩ := (HR.out.carry hbel).at k hkl
      cases e
      obtain ⟨b, off, e, q2, q3⟩ := (HR.out.carry hbel).at j hjl
      cases e
      have HPj := hide (HA.out (l[j]) (by rw [List.mem_take_iff_getElem]; exact ⟨j, by omega, rfl⟩))
      obtain ⟨S, eS⟩ : ∃ S : World → Prop, S = fun wx => (wx.cell? ⟨b, off + k * 2, none⟩ = some (.int .i64 (l[k]).1) ∧ wx.cell? ⟨b, off + k * 2 + 1, none⟩ = some (.int .i64 (l[k]).2)) ∧ (wx.cell? ⟨b, off + j * 2, none⟩ = some (.int .i64 (l[j]).1) ∧ wx.cell? ⟨b, off + j * 2 + 1, none⟩ = some (.int .i64 (l[j]).2)) ∧ Below wr.heap.size wr wx := ⟨_, rfl⟩
      have hK : Keeps S := by rw [eS]; exact ((keeps_cell _ _).and (keeps_cell _ _)).and (((keeps_cell _ _).and (keeps_cell _ _)).and (keeps_below wr))
      have hS0 : S wr := by rw [eS]; exact ⟨⟨q0, q1⟩, ⟨q2, q3⟩, Below.refl _ _⟩
      go_wp2
      rw [eS] at hK hS0
      refine reg_begin hK (by kernel_rfl) hS0 ?_
      intro hS
      refine reg_plan [0, 1, 2, 3, 4, 5, 6, 7] (fuel := 1) (a' := ?qa1) (by kernel_rfl) (by kernel_rfl) (by kernel_rfl) ?qp1 hS ?qn1
      case qp1 =>
       iterate 8 (apply Yl.cons rfl rfl; focus (rintro wx ⟨⟨x1, x2⟩, ⟨x3, x4⟩, x5⟩; go_simp; all_goals (with_reducible rfl)); try simp only [Act.put, List.setIfInBounds_toArray, List.set_cons_zero, List.set_cons_succ])
       exact Yl.nil
      refine reg_callv hK (i := 8) (v := .bool (meetX l[k] l[j])) rfl (by kernel_rfl) (by rfl) (by go_simp) hS (rmeet_any (l[k]) (l[j]) HP.out HPj.out _) ?_
      clear hS
      intro w33 hS
      try simp only [Act.put, List.setIfInBounds_toArray, List.set_cons_zero, List.set_cons_succ]
      refine wpAnyH_done (by kernel_rfl) ?_ _
      refine NoPanic.normal ?_
      cases hmt : meetX l[k] l[j] with
      | true =>
       have HM := hide (chk_meet hkl hjk (by have := HN.out; omega) hmt)
       have hbz := hbel.trans (hS.2.2.mono hbel.size)
       clear hmt
       go_wp2
       go_ret
       exact ⟨by rw [HM.out]; rfl, hbz⟩
      | false =>
       have HNO := hide (show ∀ y ∈ l.take (j + 1), meetX l[k] y = false by
        intro y hy
        rw [take_snoc l j hjl] at hy
        rcases List.mem_append.1 hy with hy | hy
        ·exact hno.out y hy
        ·rw [List.mem_singleton.1 hy]; exact hmt)
       have hbz := hbel.trans (hS.2.2.mono hbel.size)
       clear hmt
       go_wp2
       go_roundw
       case rel => exact ⟨j + 1, by omega, rfl, HNO, hbz⟩
       case measure => simp only [intOf]; omega
     ·have hd : decide ((j : Int) < k) = false := by simpa using (by omega : ¬ (j : Int) < k)
      have HAP := hide (show apX (l.take (k + 1)) = true by
       rw [take_snoc l k hkl, apX_snoc, hap.out, Bool.true_and, List.all_eq_true]
       intro y hy
       rw [show k = j by omega] at hy
       rw [hno.out y hy]; rfl)
      go_wp2
      go_roundw
      case rel => exact ⟨k + 1, by omega, rfl, HA, HAP, hbel⟩
      case measure => simp only [intOf]; omega
  ·have hd : decide ((k : Int) < n) = false := by simpa using (by omega : ¬ (k : Int) < n)
   have e : k = l.length := by have := HN.out; omega
   have HM := hide (show chkX l = 0 from chkX_good (allX_good (by omega) (by rw [← e]; exact hall.out)) (by have := hap.out; rwa [e, List.take_length] at this))
   clear e
   go_wp2
   go_ret
   exact ⟨by rw [HM.out]; rfl, hbel⟩
theorem rBlocks_ext (a : Option Addr) (n c : Nat) (l : List Ex) (w : World) (hrd : RdE w (.slice a n c) l) (hn : n = l.length) (hwf : ∀ x ∈ l, wfX x) :
  Calls Tryz.prog 198 #[.slice a n c] w fun e w' => ∃ v, e = .returned (.tuple #[v, .int .i64 (chkX l)]) ∧ OwI w' w.heap.size v (blocksR l) ∧ Below w.heap.size w w' := by
 have HR := hide hrd
 have HN := hide hn
 have HA := hide (rCheck_ext a n c l w hrd hn hwf)
 clear hrd hn hwf
 go_enter Tryz.func198, Tryz.ntmps198
 go_wp2_with fail
 refine HA.out.mono ?_
 rintro e wa ⟨rfl, hba⟩
 by_cases hz : chkX l = 0
 ·have HZ := hide (chkX_ok hz).1
  have HM := hide (show blocksR l = blocksX l by unfold blocksR; rw [if_pos hz])
  rw [hz]
  have HC := hide hz
  have hn4 : n ≤ 4096 := by have := (allX_ok HZ.out).1; have := HN.out; omega
  clear hz
  go_wp2
  go_loopw [5, 6] (fun s i wr => ∃ k : Nat, k ≤ n ∧ i = .int .i64 k ∧ Hid (OwI wr w.heap.size s (blocksX (l.take k))) ∧ Below w.heap.size w wr) (fun _ i _ => n - (intOf i).toNat)
  case atStart => exact ⟨0, Nat.zero_le _, rfl, hide (OwI.nil _ _), hba⟩
  case round =>
   obtain ⟨k, hk, rfl, ho, hbel⟩ := hrel
   by_cases hlt : k < n
   ·have hlt' : (k : Int) < n := by omega
    have hkl : k < l.length := by have := HN.out; omega
    have hw0 : wrap64 ((k : Int) + 1) = (k : Int) + 1 := wrapS (by omega)
    obtain ⟨b, off, e, q0, q1⟩ := (HR.out.carry hbel).at k hkl
    subst e
    have HQ := hide (fun wx (hb : Below w.heap.size w wx) => (HR.out.carry hb).at k hkl)
    have HE := hide (show blocksX (l.take (k + 1)) = blocksX (l.take k) ++ blkX l[k] (l[k]).2.toNat by rw [take_snoc l k hkl, blocksX_snoc])
    have hx := (allX_ok HZ.out).2 _ (List.getElem_mem hkl)
    have HL := hide (fun m hm => blocksX_le (m := m) HZ.out hkl hm)
    generalize hX : l[k] = X at *
    obtain ⟨P, R⟩ := X
    simp only at hx HE q0 q1 HL HQ
    obtain ⟨r, rfl⟩ : ∃ r : Nat, R = r := ⟨R.toNat, by omega⟩
    have hPr : wrap64 (P + (r : Int)) = P + (r : Int) := by unfold wrap64; omega
    have hPi : IntKind.i64.wrap (P + (r : Int)) = P + (r : Int) := by rw [IntKind.wrap_i64]; omega
    clear hX
    go_wp2
    go_loopw [5, 7] (fun s i wr => ∃ j : Nat, j ≤ r ∧ i = .int .i64 (P + (j : Int)) ∧ Hid (OwI wr w.heap.size s (blocksX (l.take k) ++ blkX (P, (r : Int)) j)) ∧ Below w.heap.size w wr) (fun _ i _ => (P + r - intOf i).toNat)
    case atStart => exact ⟨0, Nat.zero_le _, by simp, hide (by simpa [blkX] using ho.out), hbel⟩
    case round =>
     obtain ⟨j, hj, rfl, ho2, hbel2⟩ := hrel
     obtain ⟨b', off', e, p0, p1⟩ := HQ.out wr hbel2
     cases e
     by_cases hjt : j < r
     ·have hjt' : P + (j : Int) < P + (r : Int) := by omega
      have hlen := HL.out j (by omega)
      have HRUN := hide (fun nq : Nat => app_int (w := wr.drewN nq) ho2.out hbel2.size (by omega) (P + j))
      have hw1 : wrap64 (P + (j : Int) + 1) = P + (j : Int) + 1 := by unfold wrap64; omega
      go_wp2
      go_quiet (fail)
      obtain ⟨g9, c9, w9, hrun, hown9, hbel9, -⟩ := HRUN.out nq
      have HO := hide (show OwI w9 w.heap.size (.slice (some ⟨g9, 0, none⟩) ((blocksX (l.take k) ++ blkX (P, (r : Int)) j).length + 1) c9) (blocksX (l.take k) ++ blkX (P, (r : Int)) (j + 1)) by
       rw [blkX_succ, ← List.append_assoc]; exact hown9)
      have hb9 : Below w.heap.size w w9 := hbel2.trans ⟨hbel9.os, hbel9.tape, hbel9.output, hbel9.size, hbel9.block⟩
      clear hown9 hbel9
      go_wp2_with (at_builtin; refine wpList_runappE rfl (.tmp 39) (.tmp 41) 93 rfl rfl rfl rfl hrun ?_)
      go_roundw
      case rel => exact ⟨j + 1, by omega, congrArg (Value.int .i64) (by omega), by rw [← List.length_append]; exact HO, hb9⟩
      case measure => simp only [intOf]; omega
     ·have hd : decide (P + (j : Int) < P + (r : Int)) = false := by simpa using (by omega : ¬ P + (j : Int) < P + (r : Int))
      have hd2 : decide ((j : Int) < (r : Int)) = false := by simpa using (by omega : ¬ (j : Int) < (r : Int))
      have HO := hide (show OwI wr w.heap.size _ (blocksX (l.take (k + 1))) by
       rw [HE.out, Int.toNat_natCast]
       have e : j = r := by omega
       rw [← e]; rw [← e] at ho2; exact ho2.out)
      go_wp2
      go_quiet (fail)
      go_wp2
      go_roundw
      case rel => exact ⟨k + 1, by omega, rfl, HO, below_drewN hbel2 _⟩
      case measure => simp only [intOf]; omega
   ·have hd : decide ((k : Int) < n) = false := by simpa using (by omega : ¬ (k : Int) < n)
    have HE := hide (show blocksX (l.take k) = blocksR l by rw [HM.out, List.take_of_length_le (by have := HN.out; omega)])
    go_wp2
    go_ret2
    exact ⟨_, by rw [HC.out]; rfl, by rw [← HE.out]; exact ho.out, hbel⟩
 ·have HM := hide (show blocksR l = [] by unfold blocksR; rw [if_neg hz])
  generalize hE : chkX l = E at *
  have hz' : (E == 0) = false := by simpa using hz
  go_wp2
  go_ret2
  exact ⟨_, by rw [hE]; rfl, by rw [HM.out]; exact OwI.nil _ _, hba⟩
theorem rname_any (s : List UInt8) (w : World) : Calls Tryz.prog 188 #[.string (bs s)] w fun e w' => e = .returned (.bool (nameF s)) ∧ Below w.heap.size w w' := by
 have hbs := bs_size s
 have HE := hide (show nameF s = (decide ((1 : Int) ≤ s.length) && decide ((s.length : Int) ≤ 16)) by
  unfold nameF
  congr 1 <;> exact decide_eq_decide.2 (by omega))
 generalize s.length = n at *
 by_cases h1 : 1 ≤ n
 ·have h1' : (1 : Int) ≤ n := by omega
  by_cases h2 : n ≤ 16
  ·have h2' : (n : Int) ≤ 16 := by omega
   go_enter Tryz.func188, Tryz.ntmps188
   go_wp2
   go_ret
   exact ⟨by rw [HE.out]; simp [h1', h2'], Below.refl _ _⟩
  ·have h2' : decide ((n : Int) ≤ 16) = false := by simpa using (by omega : ¬ (n : Int) ≤ 16)
   go_enter Tryz.func188, Tryz.ntmps188
   go_wp2
   go_ret
   exact ⟨by rw [HE.out, h2']; simp, Below.refl _ _⟩
 ·have h1' : decide ((1 : Int) ≤ n) = false := by simpa using (by omega : ¬ (1 : Int) ≤ n)
  go_enter Tryz.func188, Tryz.ntmps188
  go_wp2
  go_ret
  exact ⟨by rw [HE.out, h1']; simp, Below.refl _ _⟩
theorem rblocked_any (B : Int) (w : World) : Calls Tryz.prog 187 #[.int .i64 B] w fun e w' => e = .returned (.bool (decide (blkP B))) ∧ Below w.heap.size w w' := by
 have HE := hide (show decide (blkP B) = (decide (34 < B) && decide (B ≤ 4096)) by unfold blkP; exact Bool.decide_and ..)
 by_cases h1 : 34 < B
 ·by_cases h2 : B ≤ 4096
  ·go_enter Tryz.func187, Tryz.ntmps187
   go_wp2
   go_ret
   exact ⟨by rw [HE.out]; simp [h1, h2], Below.refl _ _⟩
  ·have h2' : decide (B ≤ 4096) = false := by simpa using h2
   go_enter Tryz.func187, Tryz.ntmps187
   go_wp2
   go_ret
   exact ⟨by rw [HE.out, h2']; simp, Below.refl _ _⟩
 ·have h1' : decide (34 < B) = false := by simpa using h1
  go_enter Tryz.func187, Tryz.ntmps187
  go_wp2
  go_ret
  exact ⟨by rw [HE.out, h1']; simp, Below.refl _ _⟩
theorem rfind_any (a : Option Addr) (n c : Nat) (fs : List Fl) (s : List UInt8) (w : World) (hrd : RdF w (.slice a n c) fs) (hn : n = fs.length) (hnl : n ≤ 1000) :
  Calls Tryz.prog 194 #[.agg #[.slice a n c], .string (bs s)] w fun e w' => ((e = .returned (.int .i64 (-1)) ∧ isF fs s = false) ∨ ∃ t, ∃ h : t < fs.length, e = .returned (.int .i64 t) ∧ (fs[t]).1 = s ∧ isF fs s = true) ∧ Below w.heap.size w w' := by
 have HR := hide hrd
 have HN := hide hn
 obtain ⟨W0, hW0⟩ : ∃ W0, W0 = w.alloc (.cells #[.slice a n c] 31) := ⟨_, rfl⟩
 have hb0 : Below w.heap.size w W0 := by rw [hW0]; exact (Below.refl _ _).alloc (Nat.le_refl _) _
 have HD0 := hide (show DirAt W0 w.heap.size (.slice a n c) by rw [hW0]; exact DirAt.new w _)
 have HB0 := hide hb0
 clear hrd hn hb0
 go_enter Tryz.func194, Tryz.ntmps194
 go_wp2
 rw [← hW0]
 clear hW0
 go_loopw [5] (fun i wr => ∃ k : Nat, k ≤ n ∧ i = .int .i64 k ∧ Hid (∀ f ∈ fs.take k, f.1 ≠ s) ∧ Below W0.heap.size W0 wr) (fun i _ => n - (intOf i).toNat)
 case atStart => exact ⟨0, Nat.zero_le _, rfl, hide (by simp), Below.refl _ _⟩
 case round =>
  obtain ⟨k, hk, rfl, hno, hbel⟩ := hrel
  have hda := (HD0.out.carry hbel).cell
  have hbw : Below w.heap.size w wr := HB0.out.trans (hbel.mono HB0.out.size)
  by_cases hlt : k < n
  ·have hlt' : (k : Int) < n := by omega
   have hkl : k < fs.length := by have := HN.out; omega
   have HT := hide (take_snocF fs k hkl)
   have hw1 : wrap64 ((k : Int) + 1) = (k : Int) + 1 := wrapS (by omega)
   obtain ⟨b, off, a2, c2, rfl, q0, q1, q2⟩ := HR.out.atB hbw k hkl
   clear q1 q2
   obtain ⟨f, hf⟩ : ∃ f, f = fs[k] := ⟨_, rfl⟩
   rw [← hf] at q0 HT
   have HF := hide hf
   clear hf
   obtain ⟨x, l⟩ := f
   simp only at q0
   by_cases g1 : x = s
   ·have g1' : ((bs x).toList == (bs s).toList) = true := by rw [eq_ofN, g1]; simp
    have HG := hide g1
    clear g1
    go_wp2
    go_ret
    refine ⟨.inr ⟨k, hkl, rfl, by rw [← HF.out]; exact HG.out, ?_⟩, hbw⟩
    exact (isF_iff fs s).2 ⟨l, by rw [← HG.out, HF.out]; exact List.getElem_mem hkl⟩
   have g1' : ((bs x).toList == (bs s).toList) = false := by rw [eq_ofN]; simpa using g1
   have HE := hide (show ∀ f ∈ fs.take (k + 1), f.1 ≠ s by
    rw [HT.out]
    intro f hf
    rcases List.mem_append.1 hf with hf | hf
    ·exact hno.out f hf
    ·obtain rfl : f = (x, l) := by simpa using hf
     exact g1)
   clear g1
   go_wp2
   go_roundw
   case rel => exact ⟨k + 1, by omega, rfl, HE, hbel⟩
   case measure => simp only [intOf]; omega
  ·have hd : decide ((k : Int) < n) = false := by simpa using (by omega : ¬ (k : Int) < n)
   have e : k = fs.length := by have := HN.out; omega
   rw [e, List.take_length] at hno
   clear e
   go_wp2
   go_ret
   refine ⟨.inl ⟨rfl, ?_⟩, hbw⟩
   cases hq : isF fs s with
   | false => rfl
   | true =>
    obtain ⟨l, hl⟩ := (isF_iff fs s).1 hq
    exact absurd rfl (hno.out _ hl)
theorem rused_any (a : Option Addr) (n c : Nat) (fs : List Fl) (w : World) (hrd : RdF w (.slice a n c) fs) (hn : n = fs.length) (hnl : n ≤ 1000) (hu : (usedF fs).length ≤ 1000000) :
  Calls Tryz.prog 190 #[.agg #[.slice a n c]] w fun e w' => ∃ v, e = .returned v ∧ OwE w' w.heap.size v (usedF fs) ∧ Below w.heap.size w w' := by
 have HR := hide hrd
 have HN := hide hn
 have HU := hide hu
 obtain ⟨W0, hW0⟩ : ∃ W0, W0 = w.alloc (.cells #[.slice a n c] 31) := ⟨_, rfl⟩
 have hb0 : Below w.heap.size w W0 := by rw [hW0]; exact (Below.refl _ _).alloc (Nat.le_refl _) _
 have HD0 := hide (show DirAt W0 w.heap.size (.slice a n c) by rw [hW0]; exact DirAt.new w _)
 have HB0 := hide hb0
 clear hrd hn hb0 hu
 go_enter Tryz.func190, Tryz.ntmps190
 go_wp2
 rw [← hW0]
 clear hW0
 go_loopw [3, 4] (fun v i wr => ∃ k : Nat, k ≤ n ∧ i = .int .i64 k ∧ Hid (OwE wr W0.heap.size v (usedF (fs.take k))) ∧ Below W0.heap.size W0 wr) (fun _ i _ => n - (intOf i).toNat)
 case atStart => exact ⟨0, Nat.zero_le _, rfl, hide (by simpa [usedF] using OwE.nil _ _), Below.refl _ _⟩
 case round =>
  obtain ⟨k, hk, rfl, hown, hbel⟩ := hrel
  have hda := (HD0.out.carry hbel).cell
  have hbw : Below w.heap.size w wr := HB0.out.trans (hbel.mono HB0.out.size)
  by_cases hlt : k < n
  ·have hlt' : (k : Int) < n := by omega
   have hkl : k < fs.length := by have := HN.out; omega
   have HT := hide (usedF_take fs k hkl)
   have HUL := hide (show (usedF (fs.take k)).length + (fs[k]).2.length ≤ 1000000 by
    have h1 := HU.out
    have h2 := (used_sub (List.take_sublist (k + 1) fs)).length_le
    rw [usedF_take fs k hkl, List.length_append] at h2
    omega)
   have hw1 : wrap64 ((k : Int) + 1) = (k : Int) + 1 := wrapS (by omega)
   obtain ⟨b, off, a2, c2, rfl, q0, q1, q2⟩ := HR.out.atB hbw k hkl
   clear q0
   obtain ⟨f, hf⟩ : ∃ f, f = fs[k] := ⟨_, rfl⟩
   rw [← hf] at q1 q2 HT HUL
   clear hf
   obtain ⟨x, l⟩ := f
   simp only at q1 q2 HT HUL
   obtain ⟨p, hp⟩ : ∃ p, p = l.length := ⟨_, rfl⟩
   rw [← hp] at q1 q2
   obtain ⟨g, cc, w9, hrun, ho9, hb9⟩ := app_exN hown.out hbel.size (q2.carry hbw) hp (by have := HUL.out; omega)
   have HO9 := hide ho9
   have HB9 := hide (hbel.trans hb9)
   obtain ⟨av, cv, rfl⟩ := hown.out.form
   clear ho9 hb9 hown HUL hp q2
   rw [← HT.out] at hrun HO9
   clear HT
   generalize (usedF (fs.take k)).length = fl at *
   generalize (usedF (fs.take (k + 1))).length = gl at *
   go_wp2_with (at_builtin; refine wpList_runappE rfl (.tmp 12) (.tmp 18) 96 rfl rfl rfl rfl hrun ?_)
   go_roundw
   case rel => exact ⟨k + 1, by omega, rfl, HO9, HB9.out⟩
   case measure => simp only [intOf]; omega
  ·have hd : decide ((k : Int) < n) = false := by simpa using (by omega : ¬ (k : Int) < n)
   have e : k = fs.length := by have := HN.out; omega
   rw [e, List.take_length] at hown
   clear e
   go_wp2
   go_ret
   exact ⟨_, rfl, hown.out.mono HB0.out.size, hbw⟩
theorem rwithin_any (a : Option Addr) (n c : Nat) (l : List Ex) (B : Int) (w : World) (hrd : RdE w (.slice a n c) l) (hn : n = l.length) (hwf : ∀ x ∈ l, wfX x) :
  Calls Tryz.prog 189 #[.slice a n c, .int .i64 B] w fun e w' => e = .returned (.bool (decide (extP l B))) ∧ Below w.heap.size w w' := by
 have hck := rCheck_ext a n c l w hrd hn hwf
 by_cases g1 : chkX l = 0
 case neg =>
  have HE := hide (show decide (extP l B) = false by simpa using fun h : extP l B => absurd h.1 g1)
  obtain ⟨z, hz⟩ : ∃ z, z = chkX l := ⟨_, rfl⟩
  rw [← hz] at hck g1
  have g1' : (z == 0) = false := by simpa using g1
  clear hz hrd hn hwf
  go_enter Tryz.func189, Tryz.ntmps189
  go_wp2_with fail
  refine hck.mono ?_
  rintro e w1 ⟨rfl, hb1⟩
  go_wp2
  go_ret
  exact ⟨by rw [HE.out]; rfl, hb1⟩
 have HA := hide (chkX_ok g1).1
 have HC := hide g1
 rw [g1] at hck
 have hnl : n ≤ 4096 := hn ▸ (allX_ok HA.out).1
 have HR := hide hrd
 have HN := hide hn
 clear hrd hn hwf g1
 go_enter Tryz.func189, Tryz.ntmps189
 go_wp2_with fail
 refine hck.mono ?_
 rintro e w1 ⟨rfl, hb1⟩
 clear hck
 go_wp2
 go_loopw [5] (fun i wr => ∃ k : Nat, k ≤ n ∧ i = .int .i64 k ∧ Hid (∀ x ∈ l.take k, 34 ≤ x.1 ∧ x.1 + x.2 ≤ B) ∧ Below w.heap.size w wr) (fun i _ => n - (intOf i).toNat)
 case atStart => exact ⟨0, Nat.zero_le _, rfl, hide (by simp), hb1⟩
 case round =>
  obtain ⟨k, hk, rfl, hyes, hbel⟩ := hrel
  clear hb1
  by_cases hlt : k < n
  ·have hlt' : (k : Int) < n := by omega
   have hkl : k < l.length := by have := HN.out; omega
   have HT := hide (take_snocF l k hkl)
   have hw1 : wrap64 ((k : Int) + 1) = (k : Int) + 1 := wrapS (by omega)
   obtain ⟨b, off, rfl, q0, q1⟩ := (HR.out.carry hbel).at k hkl
   obtain ⟨z1, z2, z3⟩ := (allX_ok HA.out).2 _ (List.getElem_mem hkl)
   have HIN := hide (List.getElem_mem hkl)
   obtain ⟨x, hx⟩ : ∃ x, x = l[k] := ⟨_, rfl⟩
   rw [← hx] at q0 q1 HT z1 z2 z3 HIN
   clear hx
   obtain ⟨x, y⟩ := x
   simp only at q0 q1 z1 z2 z3
   have hwi : IntKind.i64.wrap (x + y) = x + y := by rw [IntKind.wrap_i64]; omega
   by_cases g1 : x < 34
   ·have HE := hide (show decide (extP l B) = false by
     simp only [decide_eq_false_iff_not]
     intro h
     have := (h.2 _ HIN.out).1
     simp only at this; omega)
    go_wp2
    go_quiet (fail)
    go_wp2
    go_ret
    exact ⟨by rw [HE.out]; rfl, below_drewN hbel _⟩
   have g1' : decide (x < 34) = false := by simpa using g1
   by_cases g2 : B < x + y
   ·have HE := hide (show decide (extP l B) = false by
     simp only [decide_eq_false_iff_not]
     intro h
     have := (h.2 _ HIN.out).2
     simp only at this; omega)
    go_wp2
    go_quiet (fail)
    go_wp2
    go_ret
    exact ⟨by rw [HE.out]; rfl, below_drewN hbel _⟩
   have g2' : decide (B < x + y) = false := by simpa using g2
   have HE := hide (show ∀ x ∈ l.take (k + 1), 34 ≤ x.1 ∧ x.1 + x.2 ≤ B by
    rw [HT.out]
    intro f hf
    rcases List.mem_append.1 hf with hf | hf
    ·exact hyes.out f hf
    ·obtain rfl : f = (x, y) := by simpa using hf
     simp only
     omega)
   go_wp2
   go_quiet (fail)
   go_wp2
   go_roundw
   case rel => exact ⟨k + 1, by omega, rfl, HE, below_drewN hbel _⟩
   case measure => simp only [intOf]; omega
  ·have hd : decide ((k : Int) < n) = false := by simpa using (by omega : ¬ (k : Int) < n)
   have e : k = l.length := by have := HN.out; omega
   rw [e, List.take_length] at hyes
   clear e
   have HE := hide (show decide (extP l B) = true from decide_eq_true (⟨HC.out, hyes.out⟩ : extP l B))
   go_wp2
   go_ret
   exact ⟨by rw [HE.out]; rfl, hbel⟩
theorem rsmall_by (n : Nat) (w : World) (hn : n < 18446744073709551616) : Calls Tryz.prog 133 #[.int .u64 n] w fun e w' => ∃ v, e = .returned v ∧ OwBy w' w.heap.size v (sm n) ∧ Below w.heap.size w w' := rsmall_any n w hn
theorem rtext_by (s : List UInt8) (w : World) (hs : s.length ≤ 1000000) : Calls Tryz.prog 63 #[.string (bs s)] w fun e w' => ∃ v, e = .returned v ∧ OwBy w' w.heap.size v (tx s) ∧ Below w.heap.size w w' := by
 have := rtext_any (bs s) w (by rw [bs_size]; omega)
 rwa [bs_toList] at this
theorem rname_same (s : List UInt8) (w : World) : Calls Tryz.prog 188 #[.string (bs s)] w fun e w' => e = .returned (.bool (nameF s)) ∧ w' = w := by
 have hbs := bs_size s
 have HE := hide (show nameF s = (decide ((1 : Int) ≤ s.length) && decide ((s.length : Int) ≤ 16)) by
  unfold nameF
  congr 1 <;> exact decide_eq_decide.2 (by omega))
 generalize s.length = n at *
 by_cases h1 : 1 ≤ n
 ·have h1' : (1 : Int) ≤ n := by omega
  by_cases h2 : n ≤ 16
  ·have h2' : (n : Int) ≤ 16 := by omega
   go_enter Tryz.func188, Tryz.ntmps188
   go_wp2
   go_ret
   exact ⟨by rw [HE.out]; simp [h1', h2'], rfl⟩
  ·have h2' : decide ((n : Int) ≤ 16) = false := by simpa using (by omega : ¬ (n : Int) ≤ 16)
   go_enter Tryz.func188, Tryz.ntmps188
   go_wp2
   go_ret
   exact ⟨by rw [HE.out, h2']; simp, rfl⟩
 ·have h1' : decide ((1 : Int) ≤ n) = false := by simpa using (by omega : ¬ (1 : Int) ≤ n)
  go_enter Tryz.func188, Tryz.ntmps188
  go_wp2
  go_ret
  exact ⟨by rw [HE.out, h1']; simp, rfl⟩
theorem rbytes_any (a : Option Addr) (n c : Nat) (fs : List Fl) (w : World) (hrd : RdF w (.slice a n c) fs) (hn : n = fs.length) (hok : okB fs) :
  Calls Tryz.prog 191 #[.agg #[.slice a n c]] w fun e w' => ∃ v, e = .returned v ∧ OwBy w' w.heap.size v (bytF fs) ∧ Below w.heap.size w w' := by
 have hm : n ≤ 1000 := hn ▸ hok.1
 obtain ⟨W0, hW0⟩ : ∃ W0, W0 = w.alloc (.cells #[.slice a n c] 31) := ⟨_, rfl⟩
 have hb0 : Below w.heap.size w W0 := by rw [hW0]; exact (Below.refl _ _).alloc (Nat.le_refl _) _
 have HD0 := hide (show DirAt W0 w.heap.size (.slice a n c) by rw [hW0]; exact DirAt.new w _)
 have hd0 := HD0.out.cell
 rw [hW0] at hd0
 have HB0 := hide hb0
 have HR := hide (hrd.carry hb0)
 have HN := hide hn
 have HK := hide hok
 clear hrd hn hok hb0
 go_enter Tryz.func191, Tryz.ntmps191
 go_wp2_with fail
 rw [← hW0]
 clear hW0 hd0
 refine (rsmall_by n W0 (by omega)).mono ?_
 rintro e w1 ⟨v1, rfl, ho1, hb1⟩
 have hd1 := (HD0.out.carry hb1).cell
 go_wp2
 clear hd1
 go_loopw [4, 3] (fun i v wr => ∃ k : Nat, k ≤ n ∧ i = .int .i64 k ∧ Hid (OwBy wr W0.heap.size v (sm n ++ (fs.take k).flatMap bytFl)) ∧ Below W0.heap.size W0 wr) (fun i _ _ => n - (intOf i).toNat)
 case atStart => exact ⟨0, Nat.zero_le _, rfl, hide (by simpa using ho1), hb1⟩
 case round =>
  obtain ⟨k, hk, rfl, hown, hbel⟩ := hrel
  have hda := (HD0.out.carry hbel).cell
  clear ho1 hb1
  by_cases hlt : k < n
  ·have hlt' : (k : Int) < n := by omega
   have hkl : k < fs.length := by have := HN.out; omega
   have HU := hide (bytF_take fs k hkl)
   have HLL := hide (okB_take HK.out k)
   have hw1 : wrap64 ((k : Int) + 1) = (k : Int) + 1 := wrapS (by omega)
   obtain ⟨b, off, a2, c2, rfl, q0, q1, q2⟩ := HR.out.atB hbel k hkl
   have HQ := hide q2
   clear q2
   have HFK := hide (HK.out.2 _ (List.getElem_mem hkl))
   obtain ⟨f, hf⟩ : ∃ f, f = fs[k] := ⟨_, rfl⟩
   rw [← hf] at q0 q1 HQ HU HFK
   clear hf
   obtain ⟨L, hL⟩ : ∃ L, L = (fs.take k).flatMap bytFl := ⟨_, rfl⟩
   rw [← hL] at hown HU HLL
   clear hL
   obtain ⟨m, hm2⟩ : ∃ m, m = f.2.length := ⟨_, rfl⟩
   rw [← hm2] at q1 HQ
   have hmm : m ≤ 1000 := by rw [hm2]; exact HFK.out.2.1
   have HM2 := hide hm2
   clear hm2
   have HSM := hide (sm_len_le10 (n := n) (by omega))
   have HSM2 := hide (sm_len_le10 (n := m) (by omega))
   have HTX := hide (show (tx f.1).length ≤ 1010 by
    have h1 := HFK.out.1
    have := sm_len_le10 (n := f.1.length) (by omega)
    simp only [tx, List.length_append]; omega)
   -- the file's copy, its name
   obtain ⟨w2, hw2⟩ : ∃ w2, w2 = wr.alloc (.cells #[.string (bs f.1), .slice a2 m c2] 98) := ⟨_, rfl⟩
   obtain ⟨F, hF⟩ : ∃ F, F = wr.heap.size := ⟨_, rfl⟩
   have hblk : FileAt w2 F (bs f.1) (.slice a2 m c2) := by rw [hw2, hF]; exact FileAt.new wr _ _
   have hb2 : Below wr.heap.size wr w2 := by rw [hw2]; exact (Below.refl _ _).alloc (Nat.le_refl _) _
   have hbel2 : Below W0.heap.size W0 w2 := hbel.trans (hb2.mono hbel.size)
   have HO2 := hide (hown.out.carry hb2)
   have s0 := hblk.cell0
   rw [hw2] at s0
   go_wp2_with fail
   rw [← hw2]
   rw [← hF]
   clear hown s0
   refine (rtext_by f.1 _ (by have := HFK.out.1; omega)).mono ?_
   rintro e w3 ⟨v3, rfl, ho3, hb3⟩
   have hbel3 : Below W0.heap.size W0 w3 := hbel2.trans (hb3.mono hbel2.size)
   obtain ⟨v4, w4, hrun4, ho4, hb4, hk4⟩ := app_by (HO2.out.carry hb3) hbel3.size (own_rd ho3) (by
    have h1 := HSM.out
    have h2 := HLL.out
    have h3 := HTX.out
    rw [List.length_append]; omega)
   have hbel4 : Below W0.heap.size W0 w4 := hbel3.trans hb4
   have hblk4 : FileAt w4 F (bs f.1) (.slice a2 m c2) := hk4 _ _ _ _ (by decide) (KeepB.of_below hb3 _ _ _ _ (by decide) hblk)
   have r4 := hblk4.cell1
   have HO4 := hide ho4
   have HB4 := hide hbel4
   have HK4 := hide hblk4
   clear ho4 hbel4 hb4 hk4 ho3 hb3 hbel3 hblk hb2 hw2 hbel2 HO2 hblk4 hbel q0 q1 hda hF
   go_wp2_with (first | (at_builtin; refine wpList_runappE rfl (.tmp 24) (.tmp 27) 23 rfl rfl rfl rfl hrun4 ?_) | fail)
   refine (rsmall_by m _ (by omega)).mono ?_
   rintro e w5 ⟨v5, rfl, ho5, hb5⟩
   have hbel5 : Below W0.heap.size W0 w5 := HB4.out.trans (hb5.mono HB4.out.size)
   obtain ⟨v6, w6, hrun6, ho6, hb6, hk6⟩ := app_by (HO4.out.carry hb5) hbel5.size (own_rd ho5) (by
    have h1 := HSM.out
    have h2 := HLL.out
    have h3 := HTX.out
    have h4 := HSM2.out
    simp only [List.length_append]; omega)
   have hbel6 : Below W0.heap.size W0 w6 := hbel5.trans hb6
   have hblk6 : FileAt w6 F (bs f.1) (.slice a2 m c2) := hk6 _ _ _ _ (by decide) (KeepB.of_below hb5 _ _ _ _ (by decide) HK4.out)
   have r6 := hblk6.cell1
   have HO6 := hide ho6
   have HB6 := hide hbel6
   have HK6 := hide hblk6
   clear ho6 hbel6 hb6 hk6 ho5 hb5 hbel5 hblk6 HO4 HB4 HK4 r4 hrun4
   go_wp2_with (at_builtin; refine wpList_runappE rfl (.tmp 29) (.tmp 34) 23 rfl rfl rfl rfl hrun6 ?_)
   go_loopw [6, 3] (fun i v wx => ∃ j : Nat, j ≤ m ∧ i = .int .i64 j ∧ Hid (OwBy wx W0.heap.size v (sm n ++ L ++ tx f.1 ++ sm m ++ bytE (f.2.take j))) ∧ Hid (FileAt wx F (bs f.1) (.slice a2 m c2)) ∧ Below W0.heap.size W0 wx) (fun i _ _ => m - (intOf i).toNat)
   case atStart => exact ⟨0, Nat.zero_le _, rfl, hide (by simpa [bytE] using HO6.out), HK6, HB6.out⟩
   case round =>
    obtain ⟨j, hj, rfl, hown, hfat, hbel⟩ := hrel
    have HLT := hide hlt
    clear HO6 HB6 r6 hrun6 hlt' hlt HK6
    have s1 := hfat.out.cell1
    by_cases hjm : j < m
    ·have hjm' : (j : Int) < m := by omega
     have hwj : wrap64 ((j : Int) + 1) = (j : Int) + 1 := wrapS (by omega)
     have hjl : j < f.2.length := by have := HM2.out; omega
     have HE := hide (bytE_take f.2 j hjl)
     obtain ⟨bx, ox, rfl, p0, p1⟩ := (HQ.out.carry hbel).at j hjl
     have HX := hide (HFK.out.2.2 _ (List.getElem_mem hjl))
     have HBE := hide (show (bytE (f.2.take j)).length ≤ 20000 by
      have := bytE_len (f.2.take j) (fun x hx => HFK.out.2.2 x (List.mem_of_mem_take hx))
      have h2 := HFK.out.2.1
      rw [List.length_take] at this; omega)
     have HP := hide (fun (wz : World) (hz : Below W0.heap.size W0 wz) => (HQ.out.carry hz).at j hjl)
     obtain ⟨x, hx⟩ : ∃ x, x = f.2[j] := ⟨_, rfl⟩
     rw [← hx] at p0 p1 HE HX HP
     clear hx
     obtain ⟨x, y⟩ := x
     obtain ⟨x, rfl⟩ : ∃ p : Nat, x = p := ⟨x.toNat, by have := HX.out.1; simp only at this; omega⟩
     obtain ⟨y, rfl⟩ : ∃ p : Nat, y = p := ⟨y.toNat, by have := HX.out.2.2.1; simp only at this; omega⟩
     have hx1 : x ≤ 4096 := by have := HX.out.2.1; simp only at this; omega
     have hy1 : y ≤ 4096 := by have := HX.out.2.2.2; simp only at this; omega
     simp only at p0 p1
     have HE2 := hide (show bytE (f.2.take (j + 1)) = bytE (f.2.take j) ++ (sm x ++ sm y) by have := HE.out; simpa [bytX] using this)
     clear HE HX
     obtain ⟨M, hM⟩ : ∃ M, M = sm n ++ L ++ tx f.1 ++ sm m ++ bytE (f.2.take j) := ⟨_, rfl⟩
     have HML := hide (show M.length ≤ 100000000 by
      have h1 := HSM.out
      have h2 := HLL.out
      have h3 := HTX.out
      have h4 := HSM2.out
      have h5 := HBE.out
      rw [hM]
      simp only [List.length_append]; omega)
     rw [← hM] at hown
     have HM := hide hM
     clear hM
     have HSX := hide (sm_len_le10 (n := x) (by omega))
     have HSY := hide (sm_len_le10 (n := y) (by omega))
     go_wp2_with fail
     refine (rsmall_by x _ (by omega)).mono ?_
     rintro e w3 ⟨v3, rfl, ho3, hb3⟩
     have hbel3 : Below W0.heap.size W0 w3 := hbel.trans (hb3.mono hbel.size)
     obtain ⟨v4, w4, hrun4, ho4, hb4, hk4⟩ := app_by (hown.out.carry hb3) hbel3.size (own_rd ho3) (by
      have h1 := HML.out
      have h2 := HSX.out
      omega)
     have hbel4 : Below W0.heap.size W0 w4 := hbel3.trans hb4
     have hblk4 : FileAt w4 F (bs f.1) (.slice (some ⟨bx, ox, none⟩) m c2) := hk4 _ _ _ _ (by decide) (KeepB.of_below hb3 _ _ _ _ (by decide) hfat.out)
     have r4 := hblk4.cell1
     obtain ⟨bx', ox', e4, p2, p3⟩ := HP.out w4 hbel4
     cases e4
     have HO4 := hide ho4
     have HB4 := hide hbel4
     have HK4 := hide hblk4
     clear ho4 hbel4 hb4 hk4 ho3 hb3 hbel3 hblk4 hbel p0 p1 hown hfat s1 p2
     go_wp2_with (first | (at_builtin; refine wpList_runappE rfl (.tmp 43) (.tmp 51) 23 rfl rfl rfl rfl hrun4 ?_) | fail)
     refine (rsmall_by y _ (by omega)).mono ?_
     rintro e w5 ⟨v5, rfl, ho5, hb5⟩
     have hbel5 : Below W0.heap.size W0 w5 := HB4.out.trans (hb5.mono HB4.out.size)
     obtain ⟨v6, w6, hrun6, ho6, hb6, hk6⟩ := app_by (HO4.out.carry hb5) hbel5.size (own_rd ho5) (by
      have h1 := HML.out
      have h2 := HSX.out
      have h3 := HSY.out
      simp only [List.length_append]; omega)
     have HO6 := hide ho6
     have HB6 := hide (hbel5.trans hb6)
     have HK6 := hide (show FileAt w6 F (bs f.1) (.slice (some ⟨bx, ox, none⟩) m c2) from hk6 _ _ _ _ (by decide) (KeepB.of_below hb5 _ _ _ _ (by decide) HK4.out))
     clear ho6 hb6 hk6 ho5 hb5 hbel5 HO4 HB4 r4 hrun4 HK4 p3 HP
     go_wp2_with (at_builtin; refine wpList_runappE rfl (.tmp 53) (.tmp 61) 23 rfl rfl rfl rfl hrun6 ?_)
     go_roundw
     case rel => exact ⟨j + 1, by omega, rfl, hide (by
      rw [HE2.out]
      have := HO6.out
      rw [HM.out] at this
      simpa using this), HK6, HB6.out⟩
     case measure => simp only [intOf]; omega
    ·have hd2 : decide ((j : Int) < m) = false := by simpa using (by omega : ¬ (j : Int) < m)
     have e : j = f.2.length := by have := HM2.out; omega
     rw [e, List.take_length] at hown
     have HO := hide (hown.out)
     clear e hown
     go_wp2
     go_roundw
     case rel => exact ⟨k + 1, HLT.out, rfl, hide (by
      rw [HU.out]
      have := HO.out
      rw [HM2.out] at this
      simpa [bytFl] using this), hbel⟩
     case measure => have := HLT.out; simp only [intOf]; omega
  ·have hd : decide ((k : Int) < n) = false := by simpa using (by omega : ¬ (k : Int) < n)
   have e : k = fs.length := by have := HN.out; omega
   rw [e, List.take_length] at hown
   clear e
   go_wp2
   go_ret
   refine ⟨_, rfl, ?_, HB0.out.trans (hbel.mono HB0.out.size)⟩
   have := own_monoE hown.out HB0.out.size
   unfold bytF
   rw [← HN.out]
   exact this
end Go.Proofs.YtmeaiocohalphaaGreatDoor

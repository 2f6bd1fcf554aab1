/-
  What the library's Clone, mem.with and mem.Check do.
-/
import Derived.Test.YtoedfbceapfimaaMm3
import Derived.Lib.SliceRun
namespace Go.Proofs.Ytoedfbceapfimaa
open Go.RowKit
set_option linter.unusedVariables false
set_option linter.unusedSimpArgs false

def MemAt (w : World) (A : Nat) (v : Value) : Prop := w.heap[A]? = some (.cells #[v] 24 (0, 0))
theorem MemAt.carry {w w' : World} {A : Nat} {v : Value} (h : MemAt w A v) (hb : Below w.heap.size w w') : MemAt w' A v := (hb.block _ (Array.getElem?_eq_some_iff.1 h).1).trans h
theorem MemAt.new (w : World) (v : Value) : MemAt (w.alloc (.cells #[v] 24)) w.heap.size v := heap_alloc_new w _
theorem MemAt.cell {w : World} {A : Nat} {v : Value} (h : MemAt w A v) : w.cell? ⟨A, 0, none⟩ = some v := by rw [cell_of_row w _ 0 _ _ (0, 0) h]; rfl
theorem MemAt.fz {w : World} {A : Nat} {v : Value} (h : MemAt w A v) : w.frozen? ⟨A, 0, none⟩ = false := frozen_of_row w A 0 _ _ h
theorem MemAt.lt {w : World} {A : Nat} {v : Value} (h : MemAt w A v) : A < w.heap.size := (Array.getElem?_eq_some_iff.1 h).1
theorem MemAt.put {w : World} {A : Nat} {v : Value} (h : MemAt w A v) (u : Value) : MemAt (w.setCell ⟨A, 0, none⟩ u) A u := by
  have := heap_setCell_same w A 0 #[v] 24 u h
  unfold MemAt
  rw [this]; rfl
theorem grown_setCellN (w : World) (a : Addr) (u : Value) : w.grownBy (w.setCell a u) (some a.block) :=
  ⟨rfl, rfl, rfl, by simp, fun k _ hk => heap_setCell_other w a k u (fun e => hk (by simp [e]))⟩
theorem OwN.box {w : World} {base A : Nat} {v u y : Value} {l : List Ent} (h : OwN w base v l) (hA : MemAt w A y) : OwN (w.setCell ⟨A, 0, none⟩ u) base v l := by
  refine World.ownsRow.kept h (grown_setCellN w ⟨A, 0, none⟩ u) (.inr ?_)
  intro e
  rcases h.2 with ⟨rfl, hn⟩ | ⟨g, cap, cur, rfl, _, hg2, _⟩
  · cases e
  · cases e
    unfold MemAt at hA
    rw [hA] at hg2
    cases hg2
theorem OwN.lt {w : World} {base : Nat} {v : Value} {l : List Ent} (h : OwN w base v l) {k : Nat} (hk : v.ownBlock = some k) : base ≤ k ∧ k < w.heap.size := World.ownsRow.lt h k hk

theorem app_ents {w : World} {base : Nat} {v : Value} {l : List Ent} (h : OwN w base v l) (hb : base ≤ w.heap.size) {a : Option Addr} {n c : Nat} {m : List Ent} (hm : RdN w (.slice a n c) m) (hl : l.length + m.length ≤ 1000000) :
    ∃ b c' w', (Builtin.append_ #[22, 22] 22 #[v, .slice a n c]).run Try.prog w = .ok (.slice b (l ++ m).length c') w' ∧ OwN w' base (.slice b (l ++ m).length c') (l ++ m) ∧ Below base w w' ∧ KeepG 33 w w' :=
  app_allG ecN_len (by decide) ecN_one Try.underlying22 Try.infoEn rfl h hb hm (by omega) (by unfold maxLen; omega)

set_option maxHeartbeats 1000000 in
set_option maxRecDepth 100000 in
theorem clone_mm (a : Option Addr) (n c : Nat) (l : List Ent) (w : World) (hrd : RdN w (.slice a n c) l) (hl : l.length ≤ 100000) :
    Calls Try.prog 36 #[.slice a n c] w fun e w' => ∃ v, e = .returned v ∧ OwN w' w.heap.size v l ∧ Below w.heap.size w w' := by
  have hq := fun wx => Lib.run_eql_slice_nil (P := Try.prog) wx 22 33 a n c 0 0 Try.underlying22
  cases a with
  | none =>
    have h0 : l = [] ∧ n = 0 ∧ c = 0 := by
      rcases hrd with ⟨rfl, e | ⟨x, d, e⟩⟩ | ⟨b, off, c', e, _⟩
      · cases e; exact ⟨rfl, rfl, rfl⟩
      · cases e
      · cases e
    obtain ⟨rfl, rfl, rfl⟩ := h0
    simp only [Option.isNone] at hq
    go_enter Try.func36, Try.ntmps36
    go_wp2
    go_ret
    exact ⟨_, rfl, OwG.nil _ _, Below.refl _ _⟩
  | some ad =>
    simp only [Option.isNone] at hq
    obtain ⟨w1, hw1⟩ : ∃ w1, w1 = w.alloc (.cells #[] 33) := ⟨_, rfl⟩
    have hb1 : Below w.heap.size w w1 := by rw [hw1]; exact (Below.refl _ _).alloc (Nat.le_refl _) _
    have ho1 : OwN w1 w.heap.size (.slice (some ⟨w.heap.size, 0, none⟩) 0 0) [] := ⟨rfl, .inr ⟨w.heap.size, 0, #[], rfl, Nat.le_refl _, by rw [hw1]; exact heap_alloc_new w _, Nat.le_refl _, by unfold maxLen; omega, rfl, rfl⟩⟩
    obtain ⟨b, c', w2, hrun, ho2, hb2, _⟩ := app_ents ho1 hb1.size (hrd.carry hb1) (by simpa using (by omega : l.length ≤ 1000000))
    rw [List.nil_append] at ho2 hrun
    have HO := hide ho2
    have HB := hide (show Below w.heap.size w w2 from hb1.trans hb2)
    clear ho1 ho2 hb1 hb2 hrd
    generalize l.length = m at hrun HO
    go_enter Try.func36, Try.ntmps36
    go_wp2_with (at_builtin; refine wpList_runappY rfl (.tmp 5) (.tmp 6) 22 rfl rfl rfl rfl (by rw [← hw1]; exact hrun) ?_)
    go_ret
    exact ⟨_, rfl, HO.out, HB.out⟩

def FitM (l m : List Ent) : Prop := ∀ k, (h : k < m.length) → (putsM l (m.take k)).Pairwise (fun a b => ahdM a b = true) ∧ ∀ e ∈ putsM l (m.take k), e.1 = (m[k]).1 → e.2.1 ≠ (m[k]).2.1
theorem putsM_snoc (l m : List Ent) (k : Nat) (hk : k < m.length) : putsM l (m.take (k + 1)) = putM (putsM l (m.take k)) m[k] := by
  unfold putsM
  rw [List.take_succ_eq_append_getElem hk, List.foldl_append]; rfl
theorem entG_tk : ∀ (ops : List Opn) (s : Int) (k : Nat), (entG s ops).take k = entG s (ops.take k)
  | [], s, k => by simp [entG]
  | o :: ops, s, 0 => rfl
  | o :: ops, s, k + 1 => by
    simp only [entG, List.take_succ_cons]
    rw [entG_tk ops (s + 1) k]
theorem entG_at : ∀ (ops : List Opn) (s : Int) (k : Nat) (h : k < (entG s ops).length), ((entG s ops)[k]).2.1 = s + k
  | o :: ops, s, 0, h => by simp [entG]
  | o :: ops, s, k + 1, h => by
    have := entG_at ops (s + 1) k (by rw [entG_len] at h ⊢; simpa using h)
    simp only [entG, List.getElem_cons_succ]
    rw [this]; omega
theorem fit_apl {l : List Ent} {s : Int} {ops : List Opn} (h1 : okM l) (h2 : ∀ e ∈ l, e.2.1 < s) (h3 : askO s ops = 0) : FitM l (entG s ops) := by
  intro k hk
  rw [entG_tk]
  have hk' : k < ops.length := by rwa [entG_len] at hk
  have h4 : ∀ e ∈ entG s (ops.take k), entOk e = true := fun e he => ask_ents h3 e (by rw [← entG_tk] at he; exact List.mem_of_mem_take he)
  obtain ⟨p1, _⟩ := puts_all (ops.take k) s l h1 h2 h4
  refine ⟨p1.2, fun e he _ q => ?_⟩
  rw [entG_at] at q
  rcases putsM_mem.1 he with he | he
  · have := h2 e he; omega
  · have := (entG_seq _ _ e he).2
    rw [List.length_take] at this
    omega

set_option maxHeartbeats 2000000 in
set_option maxRecDepth 100000 in
theorem with_mm (a : Option Addr) (n c : Nat) (l : List Ent) (a2 : Option Addr) (n2 c2 : Nat) (m : List Ent) (w : World) (hrd : RdN w (.slice a n c) l) (hrm : RdN w (.slice a2 n2 c2) m) (hl : l.length + m.length ≤ 1000) (hf : FitM l m) :
    Calls Try.prog 25 #[.slice a n c, .slice a2 n2 c2] w fun e w' => ∃ av nv cv, e = .returned (.slice av nv cv) ∧ OwN w' w.heap.size (.slice av nv cv) (putsM l m) ∧ Below w.heap.size w w' := by
  have HR := hide hrm
  have HN := hide hrm.len
  have HF := hide hf
  have HL := hide hl
  have hn2 : n2 ≤ 1000 := by have := HN.out; omega
  have hcl := clone_mm a n c l w hrd (by omega)
  clear hrd hrm hf hl
  go_enter Try.func25, Try.ntmps25
  go_wp2_with fail
  refine hcl.mono ?_
  rintro e w1 ⟨v1, rfl, o1, b1⟩
  have HO1 := hide o1
  obtain ⟨av, cv, e1⟩ := o1.form
  subst e1
  clear hcl o1
  go_wp2
  go_loopw [12, 5] (fun i v wr => ∃ k : Nat, k ≤ n2 ∧ i = .int .i64 k ∧ ∃ av nv cv, v = .slice av nv cv ∧ Hid (OwN wr w.heap.size (.slice av nv cv) (putsM l (m.take k))) ∧ Below w.heap.size w wr) (fun i _ _ => n2 - (intOf i).toNat)
  case atStart => exact ⟨0, Nat.zero_le _, rfl, _, _, _, rfl, HO1, b1⟩
  case round =>
    obtain ⟨k, hk, rfl, av, nv, cv, rfl, hown, hbel⟩ := hrel
    clear HO1 b1
    by_cases hlt : k < n2
    · have hlt' : (k : Int) < n2 := by omega
      have hkl : k < m.length := by have := HN.out; omega
      obtain ⟨b, off, rfl, q0, q1, q2, q3⟩ := RdN.cells HR.out hbel k hkl
      have HU := hide (putsM_snoc l m k hkl)
      have HFK := hide (HF.out k hkl)
      have HLL := hide (show (putsM l (m.take k)).length ≤ 1000 by rw [putsM_len, List.length_take]; have := HL.out; omega)
      obtain ⟨x, hx⟩ : ∃ x, x = m[k] := ⟨_, rfl⟩
      rw [← hx] at q0 q1 q2 q3 HU HFK
      clear hx
      obtain ⟨L, hL⟩ : ∃ L, L = putsM l (m.take k) := ⟨_, rfl⟩
      rw [← hL] at hown HU HFK HLL
      clear hL
      have HIP := hide (insN_put HFK.out.2)
      have HNL := hide ((OwG.rd ecN_len hown.out).len)
      obtain ⟨w2, hw2⟩ : ∃ w2, w2 = wr.alloc (.cells #[.string (bs x.1), .int .i64 x.2.1, .bool x.2.2.1, .string (bs x.2.2.2)] 33) := ⟨_, rfl⟩
      have hb2 : Below wr.heap.size wr w2 := by rw [hw2]; exact (Below.refl _ _).alloc (Nat.le_refl _) _
      have HA2 := hide (show EntAt w2 wr.heap.size x by rw [hw2]; exact EntAt.new wr x)
      have HO2 := hide (hown.out.carry hb2)
      have HB2 := hide (show Below w.heap.size w w2 from hbel.trans (hb2.mono hbel.size))
      have HNE := hide (show (Value.slice av nv cv).ownBlock ≠ some wr.heap.size from fun e => by have := (OwN.lt hown.out e).2; omega)
      obtain ⟨A, hA⟩ : ∃ A, A = wr.heap.size := ⟨_, rfl⟩
      rw [← hA] at HA2 HNE
      have hAw : wr.heap.size = A := hA.symm
      have hAl : w.heap.size ≤ A := by rw [hA]; exact hbel.size
      clear hA hb2 hown hbel
      obtain ⟨K, S, D, V⟩ := x
      simp only at q0 q1 q2 q3 hw2
      go_wp2_with fail
      rw [← hw2]
      try rw [hAw]
      clear hw2 q0 q1 q2 q3 hAw
      have hK : Keeps (fun wx => EntAt wx A (K, S, D, V) ∧ Below w.heap.size w wx) := fun w1 w2 h hb => ⟨h.1.carry hb, h.2.trans (hb.mono h.2.size)⟩
      have hS0 : EntAt w2 A (K, S, D, V) ∧ Below w.heap.size w w2 := ⟨HA2.out, HB2.out⟩
      have hnv : nv ≤ 1000 := by rw [HNL.out]; exact HLL.out
      have HPL := hide (fun wx (ho : OwN wx w.heap.size (.slice av nv cv) L) => place_mm av nv cv L K S wx (OwG.rd ecN_len ho) HFK.out.1 (by omega))
      rw [show posM L (K, S, false, []) = posM L (K, S, D, V) from rfl] at HPL
      have HPP := hide (posM_le L (K, S, D, V))
      obtain ⟨p, hp⟩ : ∃ p, p = posM L (K, S, D, V) := ⟨_, rfl⟩
      rw [← hp] at HPL HIP HPP
      clear hp
      refine region_cut (α := Option Addr × Nat × Nat × Nat) (F := fun bx a => (((((((((((a.put (some 16) (.slice av nv cv)).put (some 17) (.slice av nv cv)).put (some 18) (.pointer (some ⟨A, 0, none⟩))).put (some 19) (.string (bs K))).put (some 20) (.pointer (some ⟨A, 1, none⟩))).put (some 21) (.int .i64 S)).put (some 22) (.int .i64 p)).put (some 23) (.agg #[.string (bs K), .int .i64 S, .bool D, .string (bs V)])).put (some 24) (.slice (some ⟨bx.2.2.2, 0, none⟩) 1 1)).put (some 25) (.slice bx.1 bx.2.1 bx.2.2.1)).put (some 5) (.slice bx.1 bx.2.1 bx.2.2.1))) (R := fun bx wz => OwN wz w.heap.size (.slice bx.1 bx.2.1 bx.2.2.1) (putM L (K, S, D, V)) ∧ Below w.heap.size w wz) ?regw ?impw
      case regw =>
        refine reg_begin hK (by kernel_rfl) hS0 ?_
        intro hS
        have HOd := hide (show OwN w2.drew w.heap.size (.slice av nv cv) L from HO2.out)
        clear hS0 HA2 HO2 HB2
        generalize w2.drew = wd at *
        refine reg_plan [0, 1, 2, 3, 4, 5, 7] (fuel := 4) (a' := ?qa1) (by kernel_rfl) (by kernel_rfl) (by kernel_rfl) ?qp1 hS ?qn1
        case qp1 =>
          iterate 7 (apply Yl.cons rfl (by kernel_rfl); focus (rintro wx ⟨hx1, hx2⟩; obtain ⟨k0, k1, k2, k3⟩ := hx1.cells; dsimp only at k0 k1 k2 k3; clear hx1 hx2; go_simp; all_goals (with_reducible rfl)); try simp only [Act.put, List.setIfInBounds_toArray, List.set_cons_zero, List.set_cons_succ])
          exact Yl.nil
        try simp only [Act.put, List.setIfInBounds_toArray, List.set_cons_zero, List.set_cons_succ]
        refine reg_two (i := 6) (j := 8) (by kernel_rfl) ?_ ?_
        · skip
          refine wop_callg (R := fun v wy => v = .int .i64 p ∧ Below wd.heap.size wd wy) rfl (by kernel_rfl) (by go_simp; try rfl) ((HPL.out wd HOd.out).mono fun e wy h => ⟨_, h.1, rfl, h.2⟩) ?_
          rintro v9 w6 ⟨rfl, hbb⟩
          have hSN := hK _ _ hS hbb
          refine ⟨hSN, ?_⟩
          have HO6 := HOd.out.carry hbb
          clear hS hbb
          have hS := hSN
          clear hSN
          try simp only [Act.put, List.setIfInBounds_toArray, List.set_cons_zero, List.set_cons_succ]
          obtain ⟨w8, e8⟩ : ∃ wN, w6.alloc (.cells #[.string (bs K), .int .i64 S, .bool D, .string (bs V)] 33) = wN := ⟨_, rfl⟩
          have hbb : Below w6.heap.size w6 w8 := by rw [← e8]; exact (Below.refl _ _).alloc (Nat.le_refl _) _
          have hSN := hK _ _ hS hbb
          have HO8 := HO6.carry hbb
          have hBne : (Value.slice av nv cv).ownBlock ≠ some w6.heap.size := fun e => by have := (OwN.lt HO6 e).2; omega
          obtain ⟨B, hB⟩ : ∃ B, B = w6.heap.size := ⟨_, rfl⟩
          have HE8 : EntAt w8 B (K, S, D, V) := by rw [← e8, hB]; exact heap_alloc_new _ _
          rw [← hB] at hBne
          refine reg_run (i := 8) (v := .slice (some ⟨B, 0, none⟩) 1 1) (w' := w8) rfl (by kernel_rfl) (by kernel_rfl) (by rw [← e8, hB]; go_simp) hSN ?_
          clear hS hbb e8 hB
          have hS := hSN
          clear hSN
          try simp only [Act.put, List.setIfInBounds_toArray, List.set_cons_zero, List.set_cons_succ]
          have hins := insert_anyN w.heap.size av nv cv p L (K, S, D, V) B w8 HE8 HO8 hBne HNL.out hnv hS.2.size (by rw [HNL.out]; exact HPP.out)
          refine reg_callg (i := 9) (R := fun v wy => (∃ ax nx cx, v = .slice ax nx cx ∧ OwN wy w.heap.size (.slice ax nx cx) (putM L (K, S, D, V))) ∧ Below w.heap.size w8 wy ∧ OnlyB (.slice av nv cv) w8 wy) rfl (by kernel_rfl) (by kernel_rfl) (by go_simp; try rfl) (hins.mono fun e wy ⟨v, h1, h2, h3, h4⟩ => by rw [HIP.out] at h2; obtain ⟨ax, cx, rfl⟩ := OwG.form h2; exact ⟨_, h1, ⟨_, _, _, rfl, h2⟩, h3, h4⟩) ?_
          rintro v9 w9 ⟨⟨ax, nx, cx, rfl, ho9⟩, hb9, hk9⟩
          have hSN : EntAt w9 A (K, S, D, V) ∧ Below w.heap.size w w9 := ⟨(hk9 A (Array.getElem?_eq_some_iff.1 hS.1).1 HNE.out).trans hS.1, hS.2.trans hb9⟩
          refine ⟨hSN, ?_⟩
          clear hS hins hk9 hb9
          have hS := hSN
          clear hSN
          try simp only [Act.put, List.setIfInBounds_toArray, List.set_cons_zero, List.set_cons_succ]
          refine reg_plan [10] (fuel := 0) (a' := ?qa7) (by kernel_rfl) (by kernel_rfl) (by kernel_rfl) ?qp7 hS ?qn7
          case qp7 =>
            iterate 1 (apply Yl.cons rfl (by kernel_rfl); focus (rintro wx ⟨hx1, hx2⟩; clear hx1 hx2; go_simp; all_goals (with_reducible rfl)); try simp only [Act.put, List.setIfInBounds_toArray, List.set_cons_zero, List.set_cons_succ])
            exact Yl.nil
          try simp only [Act.put, List.setIfInBounds_toArray, List.set_cons_zero, List.set_cons_succ]
          refine wpAnyH_done (by kernel_rfl) ?_ _
          refine NoPanic.normal ?_
          exact ⟨rfl, ((ax, nx, cx, B) : Option Addr × Nat × Nat × Nat), rfl, ho9, hS.2⟩
        · skip
          obtain ⟨w8, e8⟩ : ∃ wN, wd.alloc (.cells #[.string (bs K), .int .i64 S, .bool D, .string (bs V)] 33) = wN := ⟨_, rfl⟩
          have hbb : Below wd.heap.size wd w8 := by rw [← e8]; exact (Below.refl _ _).alloc (Nat.le_refl _) _
          have hSN := hK _ _ hS hbb
          have HO8 := HOd.out.carry hbb
          have hBne : (Value.slice av nv cv).ownBlock ≠ some wd.heap.size := fun e => by have := (OwN.lt HOd.out e).2; omega
          obtain ⟨B, hB⟩ : ∃ B, B = wd.heap.size := ⟨_, rfl⟩
          have HE8 : EntAt w8 B (K, S, D, V) := by rw [← e8, hB]; exact heap_alloc_new _ _
          rw [← hB] at hBne
          refine wop_run (v := .slice (some ⟨B, 0, none⟩) 1 1) (w' := w8) rfl (by kernel_rfl) (by rw [← e8, hB]; go_simp) ⟨hSN, ?_⟩
          clear hS hbb e8 hB
          have hS := hSN
          clear hSN
          try simp only [Act.put, List.setIfInBounds_toArray, List.set_cons_zero, List.set_cons_succ]
          refine reg_callg (i := 6) (R := fun v wy => v = .int .i64 p ∧ Below w8.heap.size w8 wy) rfl (by kernel_rfl) (by kernel_rfl) (by go_simp; try rfl) ((HPL.out w8 HO8).mono fun e wy h => ⟨_, h.1, rfl, h.2⟩) ?_
          rintro v9 w6 ⟨rfl, hbb⟩
          have hSN := hK _ _ hS hbb
          refine ⟨hSN, ?_⟩
          have HO6 := HO8.carry hbb
          have HB6 := HE8.carry hbb
          clear hS hbb
          have hS := hSN
          clear hSN
          try simp only [Act.put, List.setIfInBounds_toArray, List.set_cons_zero, List.set_cons_succ]
          have hins := insert_anyN w.heap.size av nv cv p L (K, S, D, V) B w6 HB6 HO6 hBne HNL.out hnv hS.2.size (by rw [HNL.out]; exact HPP.out)
          refine reg_callg (i := 9) (R := fun v wy => (∃ ax nx cx, v = .slice ax nx cx ∧ OwN wy w.heap.size (.slice ax nx cx) (putM L (K, S, D, V))) ∧ Below w.heap.size w6 wy ∧ OnlyB (.slice av nv cv) w6 wy) rfl (by kernel_rfl) (by kernel_rfl) (by go_simp; try rfl) (hins.mono fun e wy ⟨v, h1, h2, h3, h4⟩ => by rw [HIP.out] at h2; obtain ⟨ax, cx, rfl⟩ := OwG.form h2; exact ⟨_, h1, ⟨_, _, _, rfl, h2⟩, h3, h4⟩) ?_
          rintro v9 w9 ⟨⟨ax, nx, cx, rfl, ho9⟩, hb9, hk9⟩
          have hSN : EntAt w9 A (K, S, D, V) ∧ Below w.heap.size w w9 := ⟨(hk9 A (Array.getElem?_eq_some_iff.1 hS.1).1 HNE.out).trans hS.1, hS.2.trans hb9⟩
          refine ⟨hSN, ?_⟩
          clear hS hins hk9 hb9
          have hS := hSN
          clear hSN
          try simp only [Act.put, List.setIfInBounds_toArray, List.set_cons_zero, List.set_cons_succ]
          refine reg_plan [10] (fuel := 0) (a' := ?qa8) (by kernel_rfl) (by kernel_rfl) (by kernel_rfl) ?qp8 hS ?qn8
          case qp8 =>
            iterate 1 (apply Yl.cons rfl (by kernel_rfl); focus (rintro wx ⟨hx1, hx2⟩; clear hx1 hx2; go_simp; all_goals (with_reducible rfl)); try simp only [Act.put, List.setIfInBounds_toArray, List.set_cons_zero, List.set_cons_succ])
            exact Yl.nil
          try simp only [Act.put, List.setIfInBounds_toArray, List.set_cons_zero, List.set_cons_succ]
          refine wpAnyH_done (by kernel_rfl) ?_ _
          refine NoPanic.normal ?_
          exact ⟨rfl, ((ax, nx, cx, B) : Option Addr × Nat × Nat × Nat), rfl, ho9, hS.2⟩
      case impw =>
      rintro ⟨ax, nx, cx, bx⟩ wz ⟨hz, hbz⟩
      dsimp only at hz
      have HZ := hide hz
      clear hz hK hS0 HA2 HO2 HB2
      go_wp2
      go_roundw
      case rel => exact ⟨k + 1, by omega, by go_num, _, _, _, rfl, hide (by rw [HU.out]; exact HZ.out), hbz⟩
      case measure => simp only [intOf]; omega
    · have hd : decide ((k : Int) < n2) = false := by simpa using (by omega : ¬ (k : Int) < n2)
      have HO := hide (show OwN wr w.heap.size (.slice av nv cv) (putsM l m) by
        have := hown.out
        rwa [List.take_of_length_le (by have := HN.out; omega)] at this)
      clear hown
      go_wp2
      go_ret
      exact ⟨_, _, _, rfl, HO.out, hbel⟩
end Go.Proofs.Ytoedfbceapfimaa

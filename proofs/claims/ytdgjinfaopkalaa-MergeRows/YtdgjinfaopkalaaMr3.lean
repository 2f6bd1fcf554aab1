/-
  What the document's Put, Seen and Part do.
-/
import Derived.Test.YtdgjinfaopkalaaMr2
namespace Go.Proofs.Ytdgjinfaopkalaa
open Go.RowKit
set_option linter.unusedVariables false
set_option linter.unusedSimpArgs false

theorem putM_none : ∀ {l : List Ent} (m : List Ent) {x : Ent}, (∀ e ∈ l, ahdM x e = false) → putM (l ++ m) x = l ++ putM m x
  | [], m, x, _ => rfl
  | e :: l, m, x, h => by
    have h0 := h e List.mem_cons_self
    rw [List.cons_append]
    conv => lhs; unfold putM
    rw [h0, putM_none m (fun a ha => h a (List.mem_cons_of_mem _ ha))]; rfl
theorem putM_some : ∀ {l : List Ent} (m : List Ent) {x : Ent}, (∃ e ∈ l, ahdM x e = true) → putM (l ++ m) x = putM l x ++ m
  | [], m, x, h => by obtain ⟨e, he, _⟩ := h; cases he
  | a :: l, m, x, h => by
    rw [List.cons_append]
    cases h0 : ahdM x a with
    | true =>
      conv => lhs; unfold putM
      conv => rhs; unfold putM
      rw [h0]; rfl
    | false =>
      have h1 : ∃ e ∈ l, ahdM x e = true := by
        obtain ⟨e, he, k⟩ := h
        rcases List.mem_cons.1 he with rfl | he
        · rw [h0] at k; cases k
        · exact ⟨e, he, k⟩
      conv => lhs; unfold putM
      conv => rhs; unfold putM
      rw [h0, putM_some m h1]; rfl
def PutI (l : List Ent) (x : Ent) (k : Nat) (p : Bool) (o : List Ent) : Prop := (p = false → o = l.take k ∧ ∀ e ∈ l.take k, ahdM x e = false) ∧ (p = true → o = putM (l.take k) x ∧ ∃ e ∈ l.take k, ahdM x e = true)
theorem PutI.hit {l : List Ent} {x : Ent} {k : Nat} {o : List Ent} (h : PutI l x k false o) (hk : k < l.length) (ha : ahdM x l[k] = true) : PutI l x (k + 1) true (o ++ [x] ++ [l[k]]) := by
  obtain ⟨h1, h2⟩ := h.1 rfl
  refine ⟨(fun q => by cases q), fun _ => ⟨?_, ?_⟩⟩
  · rw [List.take_succ_eq_append_getElem hk, putM_none _ h2, h1]
    unfold putM
    rw [ha]; simp
  · exact ⟨l[k], by rw [List.take_succ_eq_append_getElem hk]; exact List.mem_append_right _ List.mem_cons_self, ha⟩
theorem PutI.miss {l : List Ent} {x : Ent} {k : Nat} {o : List Ent} (h : PutI l x k false o) (hk : k < l.length) (ha : ahdM x l[k] = false) : PutI l x (k + 1) false (o ++ [l[k]]) := by
  obtain ⟨h1, h2⟩ := h.1 rfl
  refine ⟨fun _ => ⟨?_, ?_⟩, fun q => by cases q⟩
  · rw [List.take_succ_eq_append_getElem hk, h1]
  · rw [List.take_succ_eq_append_getElem hk]
    intro e he
    rcases List.mem_append.1 he with he | he
    · exact h2 e he
    · obtain rfl := List.mem_singleton.1 he; exact ha
theorem PutI.past {l : List Ent} {x : Ent} {k : Nat} {o : List Ent} (h : PutI l x k true o) (hk : k < l.length) : PutI l x (k + 1) true (o ++ [l[k]]) := by
  obtain ⟨h1, h2⟩ := h.2 rfl
  refine ⟨(fun q => by cases q), fun _ => ⟨?_, ?_⟩⟩
  · rw [List.take_succ_eq_append_getElem hk, putM_some _ h2, h1]
  · obtain ⟨e, he, k1⟩ := h2
    exact ⟨e, by rw [List.take_succ_eq_append_getElem hk]; exact List.mem_append_left _ he, k1⟩
theorem PutI.len {l : List Ent} {x : Ent} {k : Nat} {p : Bool} {o : List Ent} (h : PutI l x k p o) : o.length ≤ k + 1 := by
  cases p with
  | false => rw [(h.1 rfl).1, List.length_take]; omega
  | true => rw [(h.2 rfl).1, putM_len, List.length_take]; omega
theorem PutI.end {l : List Ent} {x : Ent} {k : Nat} {p : Bool} {o : List Ent} (h : PutI l x k p o) (hk : l.length ≤ k) : (p = false → putM l x = o ++ [x]) ∧ (p = true → putM l x = o) := by
  have e : l.take k = l := List.take_of_length_le hk
  unfold PutI at h
  rw [e] at h
  refine ⟨fun q => ?_, fun q => (h.2 q).1.symm⟩
  have := putM_none [] (h.1 q).2
  rw [List.append_nil] at this
  rw [this, (h.1 q).1]; rfl

theorem app_entA {w : World} {base : Nat} {v : Value} {l : List Ent} (h : OwN w base v l) (hb : base ≤ w.heap.size) (hl : l.length ≤ 2000000) (x : Ent) :
    ∃ g c w', (Builtin.append_ #[22, 22] 22 #[v, .slice (some ⟨w.heap.size, 0, none⟩) 1 1]).run Try.prog (w.alloc (.cells #[.string (bs x.1), .int .i64 x.2.1, .bool x.2.2.1, .string (bs x.2.2.2)] 30)) = .ok (.slice (some ⟨g, 0, none⟩) (l.length + 1) c) w' ∧
      OwN w' base (.slice (some ⟨g, 0, none⟩) (l.length + 1) c) (l ++ [x]) ∧ Below base w w' ∧ KeepG 30 w w' :=
  app_oneG ecN_len (by decide) ecN_one Try.underlying22 Try.infoEn rfl h hb (by omega) (by unfold maxLen; omega) x _ rfl

set_option maxHeartbeats 2000000 in
set_option maxRecDepth 100000 in
theorem rput_mm (a : Option Addr) (n c : Nat) (l : List Ent) (x : Ent) (w : World) (hrd : RdN w (.slice a n c) l) (hl : n ≤ 100000) :
    Calls Try.prog 29 #[.slice a n c, .agg #[.string (bs x.1), .int .i64 x.2.1, .bool x.2.2.1, .string (bs x.2.2.2)]] w fun e w' => ∃ av nv cv, e = .returned (.slice av nv cv) ∧ OwN w' w.heap.size (.slice av nv cv) (putM l x) ∧ Below w.heap.size w w' := by
  have HN := hide hrd.len
  obtain ⟨w1, hw1⟩ : ∃ w1, w1 = w.alloc (.cells #[.string (bs x.1), .int .i64 x.2.1, .bool x.2.2.1, .string (bs x.2.2.2)] 30) := ⟨_, rfl⟩
  have hb1 : Below w.heap.size w w1 := by rw [hw1]; exact (Below.refl _ _).alloc (Nat.le_refl _) _
  have HX1 := hide (show EntAt w1 w.heap.size x by rw [hw1]; exact EntAt.new w x)
  have HR1 := hide (hrd.carry hb1)
  have HB1 := hide hb1
  clear hrd hb1
  obtain ⟨K, S, D, V⟩ := x
  simp only at hw1
  obtain ⟨A, hA⟩ : ∃ A, A = w.heap.size := ⟨_, rfl⟩
  have HA := hide hA
  rw [← hA] at HX1
  have hA' := hA.symm
  clear hA
  simp only
  go_enter Try.func29, Try.ntmps29
  go_wp2
  rw [← hw1]
  try rw [hA']
  clear hw1
  go_loopw [7, 5, 6] (fun i v p wr => ∃ k : Nat, k ≤ n ∧ i = .int .i64 k ∧ ∃ av nv cv, v = .slice av nv cv ∧ ∃ b : Bool, p = .bool b ∧ ∃ o, Hid (PutI l (K, S, D, V) k b o) ∧ Hid (OwN wr w1.heap.size (.slice av nv cv) o) ∧ Hid (Below w1.heap.size w1 wr)) (fun i _ _ _ => n - (intOf i).toNat)
  case atStart => exact ⟨0, Nat.zero_le _, rfl, _, _, _, rfl, false, rfl, [], hide ⟨fun _ => ⟨rfl, fun e he => by simp at he⟩, fun q => by cases q⟩, hide (OwG.nil _ _), hide (Below.refl _ _)⟩
  case round =>
    obtain ⟨k, hk, rfl, av, nv, cv, rfl, b, rfl, o, hI, hown, hbel⟩ := hrel
    by_cases hlt : k < n
    · have hlt' : (k : Int) < n := by omega
      have hkl : k < l.length := by have := HN.out; omega
      obtain ⟨b1, off, rfl, q0, q1, q2, q3⟩ := RdN.cells HR1.out hbel.out k hkl
      have HOL := hide (show o.length ≤ 1000000 by have := hI.out.len; omega)
      obtain ⟨y, hy⟩ : ∃ y, y = l[k] := ⟨_, rfl⟩
      have HY := hide hy
      have HYY := hide hy
      rw [← hy] at q0 q1 q2 q3
      clear hy
      obtain ⟨YK, YS, YD, YV⟩ := y
      have HQ := hide (show CellsN wr b1 (off + k * 4) (YK, YS, YD, YV) from ⟨q0, q1, q2, q3⟩)
      have HXr := hide (HX1.out.carry hbel.out)
      clear q0 q1 q2 q3
      cases b with
      | true =>
        have HNX := hide (hI.out.past hkl)
        rw [← HY.out] at HNX
        have hK : Keeps (fun wx => CellsN wx b1 (off + k * 4) (YK, YS, YD, YV) ∧ OwN wx w1.heap.size (.slice av nv cv) o ∧ Below w1.heap.size w1 wx) := fun w1 w2 h hb => ⟨h.1.carry hb, h.2.1.carry hb, h.2.2.trans (hb.mono h.2.2.size)⟩
        have hS0 : CellsN wr b1 (off + k * 4) (YK, YS, YD, YV) ∧ OwN wr w1.heap.size (.slice av nv cv) o ∧ Below w1.heap.size w1 wr := ⟨HQ.out, hown.out, hbel.out⟩
        clear hI hown hbel HY
        go_wp2_with fail
        refine reg_begin hK (by kernel_rfl) hS0 ?_
        intro hS
        clear hS0 HQ HXr
        generalize wr.drew = wd at *
        refine reg_plan [0, 1, 2, 3, 4, 5, 6, 7, 8, 9] (fuel := 0) (a' := ?qaa1) (by kernel_rfl) (by kernel_rfl) (by kernel_rfl) ?qap1 hS ?qan1
        case qap1 =>
          iterate 3 (apply Yl.cons rfl (by kernel_rfl); focus (rintro wx ⟨hx1, _⟩; go_simp; all_goals (with_reducible rfl)); try simp only [Act.put, List.setIfInBounds_toArray, List.set_cons_zero, List.set_cons_succ])
          iterate 6 (apply Yl.skip rfl (by kernel_rfl); try simp only [Act.put, List.setIfInBounds_toArray, List.set_cons_zero, List.set_cons_succ])
          iterate 1 (apply Yl.cons rfl (by kernel_rfl); focus (rintro wx ⟨hx1, _⟩; go_simp; all_goals (with_reducible rfl)); try simp only [Act.put, List.setIfInBounds_toArray, List.set_cons_zero, List.set_cons_succ])
          exact Yl.nil
        refine wpAnyH_done (by kernel_rfl) ?_ _
        refine NoPanic.normal ?_
        obtain ⟨hq, ho, hb⟩ := hS
        clear hK
        obtain ⟨g9, c9, w9, hr9, o9, b9, _⟩ := app_entA ho hb.size (by have := HOL.out; omega) (YK, YS, YD, YV)
        simp only at hr9
        have HB9 := hide (show Below w1.heap.size w1 w9 from hb.trans b9)
        have HO9 := hide o9
        obtain ⟨n9, hn9⟩ : ∃ n9, n9 = o.length + 1 := ⟨_, rfl⟩
        rw [← hn9] at hr9 HO9
        obtain ⟨y0, y1, y2, y3⟩ := hq
        dsimp only at y0 y1 y2 y3
        clear ho hb o9 b9 hn9
        go_wp2_with (at_builtin; refine wpList_runappY rfl (.tmp 28) (.tmp 33) 22 rfl rfl rfl rfl hr9 ?_)
        go_roundw
        case rel => exact ⟨k + 1, by omega, by go_num, _, _, _, rfl, true, rfl, _, HNX, HO9, HB9⟩
        case measure => simp only [intOf]; omega
      | false =>
        have HAH := hide (fun wx => rahead_mm (K, S, D, V) (YK, YS, YD, YV) wx)
        have hK : Keeps (fun wx => (CellsN wx b1 (off + k * 4) (YK, YS, YD, YV) ∧ EntAt wx A (K, S, D, V)) ∧ OwN wx w1.heap.size (.slice av nv cv) o ∧ Below w1.heap.size w1 wx) := fun w1 w2 h hb => ⟨⟨h.1.1.carry hb, h.1.2.carry hb⟩, h.2.1.carry hb, h.2.2.trans (hb.mono h.2.2.size)⟩
        have hS0 : (CellsN wr b1 (off + k * 4) (YK, YS, YD, YV) ∧ EntAt wr A (K, S, D, V)) ∧ OwN wr w1.heap.size (.slice av nv cv) o ∧ Below w1.heap.size w1 wr := ⟨⟨HQ.out, HXr.out⟩, hown.out, hbel.out⟩
        clear hown hbel
        cases ha : ahdM (K, S, D, V) (YK, YS, YD, YV) with
        | false =>
          have HNX := hide (hI.out.miss hkl (by rw [← HY.out]; exact ha))
          rw [← HY.out] at HNX
          have HAA := hide (fun wx => ha ▸ HAH.out wx)
          simp only at HAA
          clear hI ha HAH HY
          go_wp2_with fail
          refine reg_begin hK (by kernel_rfl) hS0 ?_
          intro hS
          clear hS0 HQ HXr
          generalize wr.drew = wd at *
          refine reg_plan [0, 1, 2, 3, 4, 5, 6, 7] (fuel := 2) (a' := ?qba1) (by kernel_rfl) (by kernel_rfl) (by kernel_rfl) ?qbp1 hS ?qbn1
          case qbp1 =>
            iterate 8 (apply Yl.cons rfl (by kernel_rfl); focus (rintro wx ⟨⟨hx1, hx2⟩, _⟩; obtain ⟨k0, k1, k2, k3⟩ := hx1; obtain ⟨p0, p1, p2, p3⟩ := hx2.cells; dsimp only at k0 k1 k2 k3 p0 p1 p2 p3; clear hx2; go_simp; all_goals (with_reducible rfl)); try simp only [Act.put, List.setIfInBounds_toArray, List.set_cons_zero, List.set_cons_succ])
            exact Yl.nil
          refine reg_callv hK (i := 8) (v := .bool false) rfl (by kernel_rfl) (by kernel_rfl) (by go_simp) hS (HAA.out _) ?_
          clear hS
          intro w22 hS
          try simp only [Act.put, List.setIfInBounds_toArray, List.set_cons_zero, List.set_cons_succ]
          refine reg_plan [9] (fuel := 0) (a' := ?qba2) (by kernel_rfl) (by kernel_rfl) (by kernel_rfl) ?qbp2 hS ?qbn2
          case qbp2 =>
            iterate 1 (apply Yl.cons rfl (by kernel_rfl); focus (rintro wx ⟨⟨hx1, hx2⟩, _⟩; obtain ⟨k0, k1, k2, k3⟩ := hx1; obtain ⟨p0, p1, p2, p3⟩ := hx2.cells; dsimp only at k0 k1 k2 k3 p0 p1 p2 p3; clear hx2; go_simp; all_goals (with_reducible rfl)); try simp only [Act.put, List.setIfInBounds_toArray, List.set_cons_zero, List.set_cons_succ])
            exact Yl.nil
          refine wpAnyH_done (by kernel_rfl) ?_ _
          refine NoPanic.normal ?_
          obtain ⟨⟨hq, hx⟩, ho, hb⟩ := hS
          clear hK
          obtain ⟨g9, c9, w9, hr9, o9, b9, _⟩ := app_entA ho hb.size (by have := HOL.out; omega) (YK, YS, YD, YV)
          simp only at hr9
          have HB9 := hide (show Below w1.heap.size w1 w9 from hb.trans b9)
          have HO9 := hide o9
          obtain ⟨n9, hn9⟩ : ∃ n9, n9 = o.length + 1 := ⟨_, rfl⟩
          rw [← hn9] at hr9 HO9
          obtain ⟨y0, y1, y2, y3⟩ := hq
          dsimp only at y0 y1 y2 y3
          clear ho hb o9 b9 hn9
          go_wp2_with (at_builtin; refine wpList_runappY rfl (.tmp 28) (.tmp 33) 22 rfl rfl rfl rfl hr9 ?_)
          go_roundw
          case rel => exact ⟨k + 1, by omega, by go_num, _, _, _, rfl, false, rfl, _, HNX, HO9, HB9⟩
          case measure => simp only [intOf]; omega
        | true =>
          have HNX := hide (hI.out.hit hkl (by rw [← HY.out]; exact ha))
          rw [← HY.out] at HNX
          have HAA := hide (fun wx => ha ▸ HAH.out wx)
          simp only at HAA
          clear hI ha HAH HY
          go_wp2_with fail
          refine reg_begin hK (by kernel_rfl) hS0 ?_
          intro hS
          clear hS0 HQ HXr
          generalize wr.drew = wd at *
          refine reg_plan [0, 1, 2, 3, 4, 5, 6, 7] (fuel := 2) (a' := ?qca1) (by kernel_rfl) (by kernel_rfl) (by kernel_rfl) ?qcp1 hS ?qcn1
          case qcp1 =>
            iterate 8 (apply Yl.cons rfl (by kernel_rfl); focus (rintro wx ⟨⟨hx1, hx2⟩, _⟩; obtain ⟨k0, k1, k2, k3⟩ := hx1; obtain ⟨p0, p1, p2, p3⟩ := hx2.cells; dsimp only at k0 k1 k2 k3 p0 p1 p2 p3; clear hx2; go_simp; all_goals (with_reducible rfl)); try simp only [Act.put, List.setIfInBounds_toArray, List.set_cons_zero, List.set_cons_succ])
            exact Yl.nil
          refine reg_callv hK (i := 8) (v := .bool true) rfl (by kernel_rfl) (by kernel_rfl) (by go_simp) hS (HAA.out _) ?_
          clear hS
          intro w22 hS
          try simp only [Act.put, List.setIfInBounds_toArray, List.set_cons_zero, List.set_cons_succ]
          refine reg_plan [9] (fuel := 0) (a' := ?qca2) (by kernel_rfl) (by kernel_rfl) (by kernel_rfl) ?qcp2 hS ?qcn2
          case qcp2 =>
            iterate 1 (apply Yl.cons rfl (by kernel_rfl); focus (rintro wx ⟨⟨hx1, hx2⟩, _⟩; obtain ⟨k0, k1, k2, k3⟩ := hx1; obtain ⟨p0, p1, p2, p3⟩ := hx2.cells; dsimp only at k0 k1 k2 k3 p0 p1 p2 p3; clear hx2; go_simp; all_goals (with_reducible rfl)); try simp only [Act.put, List.setIfInBounds_toArray, List.set_cons_zero, List.set_cons_succ])
            exact Yl.nil
          refine wpAnyH_done (by kernel_rfl) ?_ _
          refine NoPanic.normal ?_
          obtain ⟨⟨hq, hx⟩, ho, hb⟩ := hS
          clear hK
          obtain ⟨g8, c8, w8, hr8, o8, b8, _⟩ := app_entA ho hb.size (by have := HOL.out; omega) (K, S, D, V)
          simp only at hr8
          have hb8 : Below w1.heap.size w1 w8 := hb.trans b8
          have hq8 : CellsN w8 b1 (off + k * 4) (YK, YS, YD, YV) := by
            obtain ⟨b', off', e', q0, q1, q2, q3⟩ := RdN.cells HR1.out hb8 k hkl
            cases e'
            have hy := HYY.out
            rw [← hy] at q0 q1 q2 q3
            exact ⟨q0, q1, q2, q3⟩
          obtain ⟨kx0, kx1, kx2, kx3⟩ := hx.cells
          obtain ⟨n8, hn8⟩ : ∃ n8, n8 = o.length + 1 := ⟨_, rfl⟩
          rw [← hn8] at hr8 o8
          obtain ⟨g9, c9, w9, hr9, o9, b9, _⟩ := app_entA o8 hb8.size (by rw [List.length_append]; have := HOL.out; simp; omega) (YK, YS, YD, YV)
          simp only at hr9
          have HB9 := hide (show Below w1.heap.size w1 w9 from hb8.trans b9)
          have HO9 := hide o9
          obtain ⟨n9, hn9⟩ : ∃ n9, n9 = (o ++ [(K, S, D, V)]).length + 1 := ⟨_, rfl⟩
          rw [← hn9] at hr9 HO9
          obtain ⟨y0, y1, y2, y3⟩ := hq8
          dsimp only at kx0 kx1 kx2 kx3 y0 y1 y2 y3
          clear ho hb hq hx o8 b8 hb8 o9 b9 hn8 hn9
          go_wp2_with (first | (at_builtin; refine wpList_runappY rfl (.tmp 24) (.tmp 26) 22 rfl rfl rfl rfl hr8 ?_) | (at_builtin; refine wpList_runappY rfl (.tmp 28) (.tmp 33) 22 rfl rfl rfl rfl hr9 ?_))
          go_roundw
          case rel => exact ⟨k + 1, by omega, by go_num, _, _, _, rfl, true, rfl, _, HNX, HO9, HB9⟩
          case measure => simp only [intOf]; omega
    · have hd : decide ((k : Int) < n) = false := by simpa using (by omega : ¬ (k : Int) < n)
      obtain ⟨e1, e2⟩ := hI.out.end (show l.length ≤ k by have := HN.out; omega)
      have hbB : Below w.heap.size w wr := HB1.out.trans (hbel.out.mono HB1.out.size)
      cases b with
      | true =>
        have HO := hide (show OwN wr w.heap.size (.slice av nv cv) (putM l (K, S, D, V)) by rw [e2 rfl]; exact hown.out.mono HB1.out.size)
        clear hI hown hbel e1 e2
        go_wp2
        go_ret
        exact ⟨_, _, _, rfl, HO.out, hbB⟩
      | false =>
        have HOL := hide (show o.length ≤ 1000000 by have := hI.out.len; omega)
        obtain ⟨g8, c8, w8, hr8, o8, b8, _⟩ := app_entA hown.out hbel.out.size (by have := HOL.out; omega) (K, S, D, V)
        simp only at hr8
        have HO := hide (show OwN w8 w.heap.size (.slice (some ⟨g8, 0, none⟩) (o.length + 1) c8) (putM l (K, S, D, V)) by rw [e1 rfl]; exact o8.mono HB1.out.size)
        have HB8 := hide (show Below w.heap.size w w8 from hbB.trans (b8.mono HB1.out.size))
        obtain ⟨kx0, kx1, kx2, kx3⟩ := (HX1.out.carry hbel.out).cells
        dsimp only at kx0 kx1 kx2 kx3
        obtain ⟨n8, hn8⟩ : ∃ n8, n8 = o.length + 1 := ⟨_, rfl⟩
        rw [← hn8] at hr8 HO
        clear hI hown hbel e1 e2 o8 b8 hn8 hbB
        go_wp2_with (at_builtin; refine wpList_runappY rfl (.tmp 37) (.tmp 39) 22 rfl rfl rfl rfl hr8 ?_)
        go_ret
        exact ⟨_, _, _, rfl, HO.out, HB8.out⟩
end Go.Proofs.Ytdgjinfaopkalaa

/-
  What the closure of batch.operations does: the next operation.
-/
import Derived.Test.YtihbidkonoikkaaSlK
namespace Go.Proofs.Ytihbidkonoikkaa
open Go.RowKit
set_option linter.unusedVariables false
set_option linter.unusedSimpArgs false

theorem OpAt.bx {w : World} {q : Nat} {o : Opn} (h : OpAt w q o) : Bx w q 34 #[.string (bs o.1), .bool o.2.1, .string (bs o.2.2)] := h
theorem OpAt.fz {w : World} {q : Nat} {o : Opn} (h : OpAt w q o) : w.frozen? ⟨q, 0, none⟩ = false ∧ w.frozen? ⟨q, 1, none⟩ = false ∧ w.frozen? ⟨q, 2, none⟩ = false := ⟨h.bx.fz 0, h.bx.fz 1, h.bx.fz 2⟩
theorem OpAt.put {w : World} {q : Nat} {p : Opn} (h : OpAt w q p) (o : Opn) : OpAt (((w.setCell ⟨q, 0, none⟩ (.string (bs o.1))).setCell ⟨q, 1, none⟩ (.bool o.2.1)).setCell ⟨q, 2, none⟩ (.string (bs o.2.2))) q o := ((h.bx.put 0 _).put 1 _).put 2 _
theorem OpAt.put0 {w : World} {q : Nat} {p : Opn} (h : OpAt w q p) (s : List UInt8) : OpAt (w.setCell ⟨q, 0, none⟩ (.string (bs s))) q (s, p.2.1, p.2.2) := h.bx.put 0 _
theorem OpAt.put2 {w : World} {q : Nat} {p : Opn} (h : OpAt w q p) (s : List UInt8) : OpAt (w.setCell ⟨q, 2, none⟩ (.string (bs s))) q (p.1, p.2.1, s) := h.bx.put 2 _
theorem OpAt.other {w : World} {q r : Nat} {p : Opn} (h : OpAt w q p) (hne : q ≠ r) (j : Nat) (v : Value) : OpAt (w.setCell ⟨r, j, none⟩ v) q p := Bx.other h hne j v
theorem keep_sets {w : World} {q t0 : Nat} {p : Opn} {W : World} (hk : KeepG t0 W w) (hq : W.heap.size ≤ q) (j : Nat) (v : Value) : KeepG t0 W (w.setCell ⟨q, j, none⟩ v) := by
  intro k cs t fr ht hk'
  have h1 := hk k cs t fr ht hk'
  have hlt := (Array.getElem?_eq_some_iff.1 hk').1
  exact (heap_setCell_other w ⟨q, j, none⟩ k v (fun e : k = q => by omega)).trans h1
theorem keep_box {w : World} {q t0 : Nat} {cs : Array Value} {W : World} (hk : KeepG t0 W w) (hq : Bx w q t0 cs) (j : Nat) (v : Value) : KeepG t0 W (w.setCell ⟨q, j, none⟩ v) := hk.trans (keepX_set hq j v)
theorem keep_below {t0 : TypeId} {W w w' : World} (hk : KeepG t0 W w) (hb : Below w.heap.size w w') : KeepG t0 W w' := hk.trans (KeepG.below hb)
theorem cutY_some (a : Option Addr) (n c : Nat) (l s r : List UInt8) (w : World) (hl : l.length ≤ 1000000) (hrd : Rd w (.slice a n c) l) (h : ct l = some (s, r)) :
    Calls Try.prog 41 #[.slice a n c] w fun e w' => ∃ a2 c2, e = .returned (.tuple #[.string (bs s), .slice a2 r.length c2, .int .i64 0]) ∧ OwY w' w.heap.size (.slice a2 r.length c2) r ∧ Below w.heap.size w w' := by
  refine (ccut_any w (by omega) hrd).mono ?_
  rintro e w' ⟨v, rfl, hv, hb⟩
  obtain ⟨x, rfl, ho⟩ := cutV_form hv
  have e1 : cutT l = bs s := by unfold cutT; rw [h]
  have e2 : cutEr l = 0 := by unfold cutEr; rw [h]
  have e3 : cutR l = r := by unfold cutR; rw [h]
  rw [e3] at ho
  rw [e1, e2]
  have ho' : OwY w' w.heap.size x r := ho
  obtain ⟨a2, c2, rfl⟩ := ho'.form
  exact ⟨a2, c2, rfl, ho, hb⟩
theorem cutY_none (a : Option Addr) (n c : Nat) (l : List UInt8) (w : World) (hl : l.length ≤ 1000000) (hrd : Rd w (.slice a n c) l) (h : ct l = none) :
    Calls Try.prog 41 #[.slice a n c] w fun e w' => ∃ a2 n2 c2, e = .returned (.tuple #[.string (bs []), .slice a2 n2 c2, .int .i64 8]) ∧ Below w.heap.size w w' := by
  refine (ccut_any w (by omega) hrd).mono ?_
  rintro e w' ⟨v, rfl, hv, hb⟩
  obtain ⟨x, rfl, ho⟩ := cutV_form hv
  have e1 : cutT l = bs [] := by unfold cutT; rw [h]; rfl
  have e2 : cutEr l = 8 := by unfold cutEr; rw [h]
  rw [e1, e2]
  have ho' : OwY w' w.heap.size x (cutR l) := ho
  obtain ⟨a2, c2, rfl⟩ := ho'.form
  exact ⟨a2, _, c2, rfl, hb⟩
def NextP (w0 w' : World) (pb : Nat) (l : List UInt8) (e : Ending) : Prop :=
  (∃ o r a' n' c', cutO l = some (o, r) ∧ e = .returned (.tuple #[.agg #[.string (bs o.1), .bool o.2.1, .string (bs o.2.2)], .bool (opOk o)]) ∧ Bx w' pb 28 #[.slice a' n' c'] ∧ n' = r.length ∧ RdY w0 w' (.slice a' n' c') r) ∨
  (cutO l = none ∧ ∃ o : Opn, e = .returned (.tuple #[.agg #[.string (bs o.1), .bool o.2.1, .string (bs o.2.2)], .bool false]))

set_option maxHeartbeats 4000000 in
set_option maxRecDepth 100000 in
theorem next_bt (w0 : World) (pb : Nat) (a : Option Addr) (n c : Nat) (l : List UInt8) (w : World) (hp : Bx w pb 28 #[.slice a n c]) (hn : n = l.length) (hy : RdY w0 w (.slice a n c) l) (hb : Below w0.heap.size w0 w) (h0 : w0.heap.size ≤ pb) (hl : l.length ≤ 1000000) :
    Calls Try.prog 40 #[.pointer (some ⟨pb, 0, none⟩)] w fun e w' => NextP w0 w' pb l e ∧ KeepG 28 w w' ∧ Below w0.heap.size w0 w' := by
  obtain ⟨W0, hW0⟩ : ∃ W0, w.alloc (.cells #[.string { data := #[] }, .bool false, .string { data := #[] }] 34) = W0 := ⟨_, rfl⟩
  obtain ⟨R, hR⟩ : ∃ R, w.heap.size = R := ⟨_, rfl⟩
  have hb0 : Below w.heap.size w W0 := by rw [← hW0]; exact (Below.refl _ _).alloc (Nat.le_refl _) _
  have HR_W0 := hide (show OpAt W0 R ([], false, []) by rw [← hW0, ← hR]; exact OpAt.new w ([], false, []))
  have HP_W0 := hide (hp.carry hb0)
  have HY_W0 := hide (hy.carry hb0)
  have HB_W0 := hide (show Below w0.heap.size w0 W0 from hb.trans (hb0.mono hb.size))
  have HK_W0 := hide (show KeepG 28 w W0 from KeepG.below hb0)
  have HRw := hide (show w.heap.size ≤ R from Nat.le_of_eq hR)
  have HR0 := hide (show w0.heap.size ≤ R by rw [← hR]; exact hb.size)
  have HPR := hide (show pb ≠ R by rw [← hR]; exact Nat.ne_of_lt hp.lt)
  have HN := hide hn
  have HL := hide hl
  have HP0 := hide h0
  clear hp hy hb hb0 hn hl h0
  go_enter Try.func40, Try.ntmps40
  by_cases hl0 : n = 0
  · have HCN := hide (show cutO l = none by
      have : l = [] := List.length_eq_zero_iff.1 (by have := HN.out; omega)
      rw [this]; rfl)
    subst hl0
    have HQ := hide (HR_W0.out.put ([], false, []))
    have HKz := hide (keep_sets (p := ([], false, [])) (keep_sets (p := ([], false, [])) (keep_sets (p := ([], false, [])) HK_W0.out HRw.out 0 (.string (bs []))) HRw.out 1 (.bool false)) HRw.out 2 (.string (bs [])))
    have HBz := hide (belowX_set (belowX_set (belowX_set HB_W0.out HR0.out 0 (.string (bs []))) HR0.out 1 (.bool false)) HR0.out 2 (.string (bs [])))
    obtain ⟨s0, s1, s2⟩ := HR_W0.out.cells
    obtain ⟨z0, z1, z2⟩ := HR_W0.out.fz
    simp only at s0 s1 s2
    have x0 : W0.cell? ⟨pb, 0, none⟩ = some (.slice a 0 c) := HP_W0.out.at 0 rfl
    go_wp2
    clear s0 s1 s2 z0 z1 z2 x0
    have hbe : ({ data := #[] } : ByteArray) = bs [] := rfl
    try rw [hbe]
    generalize ((W0.setCell ⟨R, 0, none⟩ (.string (bs []))).setCell ⟨R, 1, none⟩ (.bool false)).setCell ⟨R, 2, none⟩ (.string (bs [])) = w9 at *
    obtain ⟨y0, y1, y2⟩ := HQ.out.cells
    simp only at y0 y1 y2
    try simp only [Exit.inBlock, Exit.then]
    refine bodyPost_ret (v := .tuple #[.agg #[.string (bs []), .bool false, .string (bs [])], .bool false]) ?_ rfl ⟨.inr ⟨HCN.out, ([], false, []), rfl⟩, HKz.out, HBz.out⟩
    simp [results, Try.results40, go_sem, *]
  have hl0' : ((n : Int) == 0) = false := by simpa using hl0
  have hl1 : (0 : Int) < n := by omega
  have HN0 := hide hl0
  clear hl0
  obtain ⟨x, q, hq⟩ : ∃ x q, l = x :: q := by
    cases l with
    | nil => exact absurd HN.out HN0.out
    | cons x q => exact ⟨x, q, rfl⟩
  subst hq
  obtain ⟨g, off, ha, hx⟩ := rd_cellX (HY_W0.out.rd HB_W0.out) 0 (by simp)
  subst ha
  simp only [Nat.add_zero, List.getElem_cons_zero] at hx
  have HRD := hide (HY_W0.out.rd HB_W0.out)
  have hxl := x.toNat_lt
  by_cases hx1 : 1 < x.toNat
  · have HCN := hide (show cutO (x :: q) = none by simp [cutO, hx1])
    have hx2 : (1 : Int) < x.toNat := by omega
    have HQ := hide (HR_W0.out.put ([], false, []))
    have HKz := hide (keep_sets (p := ([], false, [])) (keep_sets (p := ([], false, [])) (keep_sets (p := ([], false, [])) HK_W0.out HRw.out 0 (.string (bs []))) HRw.out 1 (.bool false)) HRw.out 2 (.string (bs [])))
    have HBz := hide (belowX_set (belowX_set (belowX_set HB_W0.out HR0.out 0 (.string (bs []))) HR0.out 1 (.bool false)) HR0.out 2 (.string (bs [])))
    obtain ⟨s0, s1, s2⟩ := HR_W0.out.cells
    obtain ⟨z0, z1, z2⟩ := HR_W0.out.fz
    simp only at s0 s1 s2
    have x0 : W0.cell? ⟨pb, 0, none⟩ = some (.slice (some ⟨g, off, none⟩) n c) := HP_W0.out.at 0 rfl
    go_wp2
    clear s0 s1 s2 z0 z1 z2 x0
    have hbe : ({ data := #[] } : ByteArray) = bs [] := rfl
    try rw [hbe]
    generalize ((W0.setCell ⟨R, 0, none⟩ (.string (bs []))).setCell ⟨R, 1, none⟩ (.bool false)).setCell ⟨R, 2, none⟩ (.string (bs [])) = w9 at *
    obtain ⟨y0, y1, y2⟩ := HQ.out.cells
    simp only at y0 y1 y2
    try simp only [Exit.inBlock, Exit.then]
    refine bodyPost_ret (v := .tuple #[.agg #[.string (bs []), .bool false, .string (bs [])], .bool false]) ?_ rfl ⟨.inr ⟨HCN.out, ([], false, []), rfl⟩, HKz.out, HBz.out⟩
    simp [results, Try.results40, go_sem, *]
  · have hx2 : decide ((1 : Int) < x.toNat) = false := by simpa using (by omega : ¬ (1 : Int) < x.toNat)
    by_cases hx3 : x.toNat = 1
    · obtain rfl : x = 1 := UInt8.toNat_inj.1 (by rw [hx3]; rfl)
      have hx4 : ((1 : UInt8).toNat : Int) = 1 := rfl
      rw [hx4] at hx
      clear hx2 hx3 hx1 hxl hx4
      obtain ⟨W1, hW1⟩ : ∃ W1, W1 = W0.alloc (.cells #[.string { data := #[] }, .bool true, .string { data := #[] }] 34) := ⟨_, rfl⟩
      obtain ⟨F, hF⟩ : ∃ F, W0.heap.size = F := ⟨_, rfl⟩
      have hb1 : Below W0.heap.size W0 W1 := by rw [hW1]; exact (Below.refl _ _).alloc (Nat.le_refl _) _
      have HF_W1 := hide (show OpAt W1 F ([], true, []) by rw [hW1, ← hF]; exact OpAt.new W0 ([], true, []))
      have HFR := hide (show F ≠ R by rw [← hF]; exact (Nat.ne_of_lt HR_W0.out.lt).symm)
      have HPF := hide (show pb ≠ F by rw [← hF]; exact Nat.ne_of_lt HP_W0.out.lt)
      have HFw := hide (show w.heap.size ≤ F by rw [← hF]; exact Nat.le_trans HRw.out (Nat.le_of_lt HR_W0.out.lt))
      have HF0 := hide (show w0.heap.size ≤ F by rw [← hF]; exact Nat.le_trans HR0.out (Nat.le_of_lt HR_W0.out.lt))
      have x0 : W0.cell? ⟨pb, 0, none⟩ = some (.slice (some ⟨g, off, none⟩) n c) := HP_W0.out.at 0 rfl
      have x1 : W1.cell? ⟨pb, 0, none⟩ = some (.slice (some ⟨g, off, none⟩) n c) := (HP_W0.out.carry hb1).at 0 rfl
      obtain ⟨a2, c2, hsl, hsr⟩ := sliceY HRD.out 1 (by simp)
      have HRQ := hide (show Rd W1 (.slice a2 (n - 1) c2) q by simpa using hsr W1 (HRD.out.carry hb1))
      have HQL := hide (show q.length ≤ 1000000 by have := HL.out; simp only [List.length_cons] at this; omega)
      clear hsr
      have HR_W1 := hide (HR_W0.out.carry hb1)
      have HP_W1 := hide (HP_W0.out.carry hb1)
      have HY_W1 := hide (HY_W0.out.carry hb1)
      have HK_W1 := hide (keep_below HK_W0.out hb1)
      have HB_W1 := hide (show Below w0.heap.size w0 W1 from HB_W0.out.trans (hb1.mono HB_W0.out.size))
      clear HR_W0 HP_W0 HY_W0 HK_W0 HB_W0
      rw [hW1] at x1
      clear hb1 HRD
      cases hct : ct q with
      | none =>
        have HCN := hide (show cutO (1 :: q) = none by simp [cutO, hct])
        go_wp2_with (refine wpList_slY rfl (.tmp 21) (.const (.int .i64 1)) 28 (by kernel_rfl) rfl rfl rfl hsl ?_)
        rw [← hW1]
        refine (cutY_none a2 (n - 1) c2 q W1 HQL.out HRQ.out hct).mono ?_
        rintro e w2 ⟨a3, n3, c3, rfl, b2⟩
        have HF_w2 := hide (HF_W1.out.carry b2)
        have HR_w2 := hide (HR_W1.out.carry b2)
        have HP_w2 := hide (HP_W1.out.carry b2)
        have HY_w2 := hide (HY_W1.out.carry b2)
        have HK_w2 := hide (keep_below HK_W1.out b2)
        have HB_w2 := hide (show Below w0.heap.size w0 w2 from HB_W1.out.trans (b2.mono HB_W1.out.size))
        clear HF_W1 HR_W1 HP_W1 HY_W1 HK_W1 HB_W1
        clear b2 hW1 hF hsl x0 x1
        obtain ⟨s0, s1, s2⟩ := HF_w2.out.cells
        obtain ⟨z0, z1, z2⟩ := HF_w2.out.fz
        have x0 : w2.cell? ⟨pb, 0, none⟩ = some _ := HP_w2.out.at 0 rfl
        have z3 := HP_w2.out.fz 0
        have hPF := HPF.out
        have hFP : ¬ F = pb := fun e => hPF e.symm
        obtain ⟨w3, ew3⟩ : ∃ wq, (w2.setCell ⟨F, 0, none⟩ (.string (bs []))).setCell ⟨pb, 0, none⟩ (.slice a3 n3 c3) = wq := ⟨_, rfl⟩
        have HF_w3 := hide (show OpAt w3 F ([], true, []) by rw [← ew3]; exact (HF_w2.out.put0 []).other (Ne.symm HPF.out) 0 _)
        have HR_w3 := hide (show OpAt w3 R ([], false, []) by rw [← ew3]; exact (HR_w2.out.other (Ne.symm HFR.out) 0 _).other (Ne.symm HPR.out) 0 _)
        have HP_w3 := hide (show Bx w3 pb 28 #[.slice a3 n3 c3] by rw [← ew3]; exact (HP_w2.out.other HPF.out 0 _).put 0 _)
        have HK_w3 := hide (show KeepG 28 w w3 by rw [← ew3]; exact keep_box (keep_sets (p := ([], true, [])) HK_w2.out HFw.out 0 _) (HP_w2.out.other HPF.out 0 _) 0 _)
        have HB_w3 := hide (show Below w0.heap.size w0 w3 by rw [← ew3]; exact belowX_set (belowX_set HB_w2.out HF0.out 0 _) HP0.out 0 _)
        have hkt : KeepG 28 (w2.setCell ⟨F, 0, none⟩ (.string (bs []))) w3 := by rw [← ew3]; exact keepX_set (HP_w2.out.other HPF.out 0 _) 0 _
        have hkf : KeepG 34 w2 (w2.setCell ⟨F, 0, none⟩ (.string (bs []))) := keepX_set HF_w2.out.bx 0 _
        clear hkt hkf HY_w2
        have hK : Keeps (fun wx => OpAt wx F (([], true, []) : Opn)) := fun w1 w2 h hb => h.carry hb
        go_wp2_with fail
        clear s0 s1 s2 z0 z1 z2 z3 x0 hPF hFP ew3
        refine reg_begin hK (by kernel_rfl) HF_w3.out ?_
        intro hS
        have hbd : Below w3.heap.size w3 w3.drew := (Below.refl _ _).drew
        have HR_wd := hide (HR_w3.out.carry hbd)
        have HK_wd := hide (keep_below HK_w3.out hbd)
        have HB_wd := hide (show Below w0.heap.size w0 w3.drew from HB_w3.out.trans (hbd.mono HB_w3.out.size))
        clear hbd HR_w3 HK_w3 HB_w3 HF_w3
        generalize w3.drew = wd at *
        refine reg_plan [0, 1, 2, 3, 4, 5, 6] (fuel := 2) (a' := ?qata1) (by kernel_rfl) (by kernel_rfl) (by kernel_rfl) ?qatp1 hS ?qatn1
        case qatp1 =>
          iterate 4 (apply Yl.cons rfl (by kernel_rfl); focus (rintro wx x1; obtain ⟨k0, k1, k2⟩ := OpAt.cells x1; clear x1; go_simp; all_goals (with_reducible rfl)); try simp only [Act.put, List.setIfInBounds_toArray, List.set_cons_zero, List.set_cons_succ])
          iterate 2 (apply Yl.skip rfl (by kernel_rfl); try simp only [Act.put, List.setIfInBounds_toArray, List.set_cons_zero, List.set_cons_succ])
          iterate 1 (apply Yl.cons rfl (by kernel_rfl); focus (rintro wx x1; obtain ⟨k0, k1, k2⟩ := OpAt.cells x1; clear x1; go_simp; all_goals (with_reducible rfl)); try simp only [Act.put, List.setIfInBounds_toArray, List.set_cons_zero, List.set_cons_succ])
          exact Yl.nil
        obtain ⟨s0, s1, s2⟩ := HR_wd.out.cells
        obtain ⟨z0, z1, z2⟩ := HR_wd.out.fz
        have hS3 : OpAt (((wd.setCell ⟨R, 0, none⟩ (.string (bs (([], true, []) : Opn).1))).setCell ⟨R, 1, none⟩ (.bool (([], true, []) : Opn).2.1)).setCell ⟨R, 2, none⟩ (.string (bs (([], true, []) : Opn).2.2))) F (([], true, []) : Opn) := ((hS.other HFR.out _ _).other HFR.out _ _).other HFR.out _ _
        refine reg_unit (i := 7) (w' := ((wd.setCell ⟨R, 0, none⟩ (.string (bs (([], true, []) : Opn).1))).setCell ⟨R, 1, none⟩ (.bool (([], true, []) : Opn).2.1)).setCell ⟨R, 2, none⟩ (.string (bs (([], true, []) : Opn).2.2))) rfl (by kernel_rfl) (by kernel_rfl) (by go_simp) (hS3) ?_
        clear hS s0 s1 s2 z0 z1 z2
        have hS : OpAt (((wd.setCell ⟨R, 0, none⟩ (.string (bs (([], true, []) : Opn).1))).setCell ⟨R, 1, none⟩ (.bool (([], true, []) : Opn).2.1)).setCell ⟨R, 2, none⟩ (.string (bs (([], true, []) : Opn).2.2))) F (([], true, []) : Opn) := by
          assumption
        try simp only [Act.put, List.setIfInBounds_toArray, List.set_cons_zero, List.set_cons_succ]
        refine reg_plan [8] (fuel := 0) (a' := ?qata2) (by kernel_rfl) (by kernel_rfl) (by kernel_rfl) ?qatp2 hS ?qatn2
        case qatp2 =>
          iterate 1 (apply Yl.cons rfl (by kernel_rfl); focus (rintro wx x1; obtain ⟨k0, k1, k2⟩ := OpAt.cells x1; clear x1; go_simp; all_goals (with_reducible rfl)); try simp only [Act.put, List.setIfInBounds_toArray, List.set_cons_zero, List.set_cons_succ])
          exact Yl.nil
        refine wpAnyH_done (by kernel_rfl) ?_ _
        refine NoPanic.normal ?_
        have HQ := hide (HR_wd.out.put (([], true, []) : Opn))
        have HKz := hide (keep_sets (p := (([], true, []) : Opn)) (keep_sets (p := (([], true, []) : Opn)) (keep_sets (p := (([], true, []) : Opn)) HK_wd.out HRw.out 0 (.string (bs (([], true, []) : Opn).1))) HRw.out 1 (.bool (([], true, []) : Opn).2.1)) HRw.out 2 (.string (bs (([], true, []) : Opn).2.2)))
        have HBz := hide (belowX_set (belowX_set (belowX_set HB_wd.out HR0.out 0 (.string (bs (([], true, []) : Opn).1))) HR0.out 1 (.bool (([], true, []) : Opn).2.1)) HR0.out 2 (.string (bs (([], true, []) : Opn).2.2)))
        clear hS hS3 hK
        generalize ((wd.setCell ⟨R, 0, none⟩ (.string (bs (([], true, []) : Opn).1))).setCell ⟨R, 1, none⟩ (.bool (([], true, []) : Opn).2.1)).setCell ⟨R, 2, none⟩ (.string (bs (([], true, []) : Opn).2.2)) = w9 at *
        obtain ⟨y0, y1, y2⟩ := HQ.out.cells
        simp only at y0 y1 y2
        go_wp2
        try simp only [Exit.inBlock, Exit.then]
        refine bodyPost_ret (v := .tuple #[.agg #[.string (bs (([], true, []) : Opn).1), .bool (([], true, []) : Opn).2.1, .string (bs (([], true, []) : Opn).2.2)], .bool false]) ?_ rfl ⟨.inr ⟨HCN.out, ([], true, []), rfl⟩, HKz.out, HBz.out⟩
        simp [results, Try.results40, go_sem, *]
      | some p =>
        obtain ⟨K, r⟩ := p
        go_wp2_with (refine wpList_slY rfl (.tmp 21) (.const (.int .i64 1)) 28 (by kernel_rfl) rfl rfl rfl hsl ?_)
        rw [← hW1]
        refine (cutY_some a2 (n - 1) c2 q K r W1 HQL.out HRQ.out hct).mono ?_
        rintro e w2 ⟨a3, c3, rfl, o2, b2⟩
        obtain ⟨n3, hn3⟩ : ∃ n3, n3 = r.length := ⟨_, rfl⟩
        rw [← hn3] at o2 ⊢
        have HN3 := hide hn3
        clear hn3
        have HRL := hide (show r.length ≤ 1000000 by
          have h1 := ct_can hct
          have h2 := congrArg List.length h1
          have h3 := HQL.out
          rw [List.length_append] at h2
          omega)
        have HCT := hide hct
        clear hct
        have HO_w2 := hide (o2.mono (show w0.heap.size ≤ W1.heap.size from HB_W1.out.size))
        have HF_w2 := hide (HF_W1.out.carry b2)
        have HR_w2 := hide (HR_W1.out.carry b2)
        have HP_w2 := hide (HP_W1.out.carry b2)
        have HK_w2 := hide (keep_below HK_W1.out b2)
        have HB_w2 := hide (show Below w0.heap.size w0 w2 from HB_W1.out.trans (b2.mono HB_W1.out.size))
        clear HF_W1 HR_W1 HP_W1 HK_W1 HB_W1
        clear b2 o2 hW1 hF hsl x0 x1 HY_W1
        obtain ⟨s0, s1, s2⟩ := HF_w2.out.cells
        obtain ⟨z0, z1, z2⟩ := HF_w2.out.fz
        have x0 : w2.cell? ⟨pb, 0, none⟩ = some _ := HP_w2.out.at 0 rfl
        have z3 := HP_w2.out.fz 0
        have hPF := HPF.out
        have hFP : ¬ F = pb := fun e => hPF e.symm
        obtain ⟨w3, ew3⟩ : ∃ wq, (w2.setCell ⟨F, 0, none⟩ (.string (bs K))).setCell ⟨pb, 0, none⟩ (.slice a3 n3 c3) = wq := ⟨_, rfl⟩
        have HF_w3 := hide (show OpAt w3 F (K, true, []) by rw [← ew3]; exact (HF_w2.out.put0 K).other (Ne.symm HPF.out) 0 _)
        have HR_w3 := hide (show OpAt w3 R ([], false, []) by rw [← ew3]; exact (HR_w2.out.other (Ne.symm HFR.out) 0 _).other (Ne.symm HPR.out) 0 _)
        have HP_w3 := hide (show Bx w3 pb 28 #[.slice a3 n3 c3] by rw [← ew3]; exact (HP_w2.out.other HPF.out 0 _).put 0 _)
        have HK_w3 := hide (show KeepG 28 w w3 by rw [← ew3]; exact keep_box (keep_sets (p := (K, true, [])) HK_w2.out HFw.out 0 _) (HP_w2.out.other HPF.out 0 _) 0 _)
        have HB_w3 := hide (show Below w0.heap.size w0 w3 by rw [← ew3]; exact belowX_set (belowX_set HB_w2.out HF0.out 0 _) HP0.out 0 _)
        have hkt : KeepG 28 (w2.setCell ⟨F, 0, none⟩ (.string (bs K))) w3 := by rw [← ew3]; exact keepX_set (HP_w2.out.other HPF.out 0 _) 0 _
        have hkf : KeepG 34 w2 (w2.setCell ⟨F, 0, none⟩ (.string (bs K))) := keepX_set HF_w2.out.bx 0 _
        have HY_w3 := hide (show RdY w0 w3 (.slice a3 n3 c3) r from .inr ((HO_w2.out.keep hkf (by decide)).keep hkt (by decide)))
        clear hkt hkf HO_w2
        have HCS := hide (show cutO (1 :: q) = some ((K, true, []), r) by simp [cutO, HCT.out])
        have hK : Keeps (fun wx => OpAt wx F ((K, true, []) : Opn)) := fun w1 w2 h hb => h.carry hb
        obtain ⟨t0, t1, t2⟩ := HF_w3.out.cells
        simp only at t0 t1 t2
        go_wp2_with fail
        clear s0 s1 s2 z0 z1 z2 z3 x0 hPF hFP ew3 t0 t1 t2
        refine reg_begin hK (by kernel_rfl) HF_w3.out ?_
        intro hS
        have hbd : Below w3.heap.size w3 w3.drew := (Below.refl _ _).drew
        have HR_wd := hide (HR_w3.out.carry hbd)
        have HK_wd := hide (keep_below HK_w3.out hbd)
        have HB_wd := hide (show Below w0.heap.size w0 w3.drew from HB_w3.out.trans (hbd.mono HB_w3.out.size))
        have HP_wd := hide (HP_w3.out.carry hbd)
        have HY_wd := hide (HY_w3.out.carry hbd)
        clear hbd HR_w3 HK_w3 HB_w3 HF_w3 HP_w3 HY_w3
        generalize w3.drew = wd at *
        refine reg_plan [0, 1, 2, 3, 4] (fuel := 4) (a' := ?qba1) (by kernel_rfl) (by kernel_rfl) (by kernel_rfl) ?qbp1 hS ?qbn1
        case qbp1 =>
          iterate 5 (apply Yl.cons rfl (by kernel_rfl); focus (rintro wx x1; obtain ⟨k0, k1, k2⟩ := OpAt.cells x1; clear x1; go_simp; all_goals (with_reducible rfl)); try simp only [Act.put, List.setIfInBounds_toArray, List.set_cons_zero, List.set_cons_succ])
          exact Yl.nil
        refine reg_callg (i := 5) (R := fun v wx => v = .bool (opOk ((K, true, []) : Opn)) ∧ Below wd.heap.size wd wx) rfl (by kernel_rfl) (by kernel_rfl) (by go_simp) ((mayBe_bt ((K, true, []) : Opn) wd).mono fun e wy ⟨h1, h2⟩ => ⟨_, h1, rfl, h2⟩) ?_
        rintro v5 wx ⟨rfl, b5⟩
        refine ⟨hK _ _ hS b5, ?_⟩
        have hS5 := hK _ _ hS b5
        clear hS
        have hS := hS5
        have HR_wx := hide (HR_wd.out.carry b5)
        have HK_wx := hide (keep_below HK_wd.out b5)
        have HB_wx := hide (show Below w0.heap.size w0 wx from HB_wd.out.trans (b5.mono HB_wd.out.size))
        have HP_wx := hide (HP_wd.out.carry b5)
        have HY_wx := hide (HY_wd.out.carry b5)
        clear b5 hS5 HR_wd HK_wd HB_wd HP_wd HY_wd
        obtain ⟨okb, hokb⟩ : ∃ b, b = opOk ((K, true, []) : Opn) := ⟨_, rfl⟩
        rw [← hokb]
        have HOKB := hide hokb
        clear hokb
        try simp only [Act.put, List.setIfInBounds_toArray, List.set_cons_zero, List.set_cons_succ]
        refine reg_plan [6] (fuel := 2) (a' := ?qba2) (by kernel_rfl) (by kernel_rfl) (by kernel_rfl) ?qbp2 hS ?qbn2
        case qbp2 =>
          iterate 1 (apply Yl.cons rfl (by kernel_rfl); focus (rintro wx x1; obtain ⟨k0, k1, k2⟩ := OpAt.cells x1; clear x1; go_simp; all_goals (with_reducible rfl)); try simp only [Act.put, List.setIfInBounds_toArray, List.set_cons_zero, List.set_cons_succ])
          exact Yl.nil
        obtain ⟨s0, s1, s2⟩ := HR_wx.out.cells
        obtain ⟨z0, z1, z2⟩ := HR_wx.out.fz
        have hS3 : OpAt (((wx.setCell ⟨R, 0, none⟩ (.string (bs ((K, true, []) : Opn).1))).setCell ⟨R, 1, none⟩ (.bool ((K, true, []) : Opn).2.1)).setCell ⟨R, 2, none⟩ (.string (bs ((K, true, []) : Opn).2.2))) F ((K, true, []) : Opn) := ((hS.other HFR.out _ _).other HFR.out _ _).other HFR.out _ _
        refine reg_unit (i := 7) (w' := ((wx.setCell ⟨R, 0, none⟩ (.string (bs ((K, true, []) : Opn).1))).setCell ⟨R, 1, none⟩ (.bool ((K, true, []) : Opn).2.1)).setCell ⟨R, 2, none⟩ (.string (bs ((K, true, []) : Opn).2.2))) rfl (by kernel_rfl) (by kernel_rfl) (by go_simp) (hS3) ?_
        clear hS s0 s1 s2 z0 z1 z2
        have hS : OpAt (((wx.setCell ⟨R, 0, none⟩ (.string (bs ((K, true, []) : Opn).1))).setCell ⟨R, 1, none⟩ (.bool ((K, true, []) : Opn).2.1)).setCell ⟨R, 2, none⟩ (.string (bs ((K, true, []) : Opn).2.2))) F ((K, true, []) : Opn) := by
          assumption
        try simp only [Act.put, List.setIfInBounds_toArray, List.set_cons_zero, List.set_cons_succ]
        refine reg_plan [8] (fuel := 0) (a' := ?qba3) (by kernel_rfl) (by kernel_rfl) (by kernel_rfl) ?qbp3 hS ?qbn3
        case qbp3 =>
          iterate 1 (apply Yl.cons rfl (by kernel_rfl); focus (rintro wx x1; obtain ⟨k0, k1, k2⟩ := OpAt.cells x1; clear x1; go_simp; all_goals (with_reducible rfl)); try simp only [Act.put, List.setIfInBounds_toArray, List.set_cons_zero, List.set_cons_succ])
          exact Yl.nil
        refine wpAnyH_done (by kernel_rfl) ?_ _
        refine NoPanic.normal ?_
        have HQ := hide (HR_wx.out.put ((K, true, []) : Opn))
        have HKz := hide (keep_sets (p := ((K, true, []) : Opn)) (keep_sets (p := ((K, true, []) : Opn)) (keep_sets (p := ((K, true, []) : Opn)) HK_wx.out HRw.out 0 (.string (bs ((K, true, []) : Opn).1))) HRw.out 1 (.bool ((K, true, []) : Opn).2.1)) HRw.out 2 (.string (bs ((K, true, []) : Opn).2.2)))
        have HBz := hide (belowX_set (belowX_set (belowX_set HB_wx.out HR0.out 0 (.string (bs ((K, true, []) : Opn).1))) HR0.out 1 (.bool ((K, true, []) : Opn).2.1)) HR0.out 2 (.string (bs ((K, true, []) : Opn).2.2)))
        have HPz := hide (((HP_wx.out.other HPR.out 0 (.string (bs ((K, true, []) : Opn).1))).other HPR.out 1 (.bool ((K, true, []) : Opn).2.1)).other HPR.out 2 (.string (bs ((K, true, []) : Opn).2.2)))
        have HYz := hide (show RdY w0 (((wx.setCell ⟨R, 0, none⟩ (.string (bs ((K, true, []) : Opn).1))).setCell ⟨R, 1, none⟩ (.bool ((K, true, []) : Opn).2.1)).setCell ⟨R, 2, none⟩ (.string (bs ((K, true, []) : Opn).2.2))) _ _ from ((HY_wx.out.keep (keepX_set HR_wx.out.bx 0 _) (by decide)).keep (keepX_set (HR_wx.out.bx.put 0 _) 1 _) (by decide)).keep (keepX_set ((HR_wx.out.bx.put 0 _).put 1 _) 2 _) (by decide))
        clear hS hS3 hK
        generalize ((wx.setCell ⟨R, 0, none⟩ (.string (bs ((K, true, []) : Opn).1))).setCell ⟨R, 1, none⟩ (.bool ((K, true, []) : Opn).2.1)).setCell ⟨R, 2, none⟩ (.string (bs ((K, true, []) : Opn).2.2)) = w9 at *
        obtain ⟨y0, y1, y2⟩ := HQ.out.cells
        simp only at y0 y1 y2
        go_wp2
        try simp only [Exit.inBlock, Exit.then]
        refine bodyPost_ret (v := .tuple #[.agg #[.string (bs ((K, true, []) : Opn).1), .bool ((K, true, []) : Opn).2.1, .string (bs ((K, true, []) : Opn).2.2)], .bool okb]) ?_ rfl ⟨.inl ⟨(K, true, []), r, a3, n3, c3, HCS.out, by rw [HOKB.out], HPz.out, HN3.out, HYz.out⟩, HKz.out, HBz.out⟩
        simp [results, Try.results40, go_sem, *]
    · obtain rfl : x = 0 := UInt8.toNat_inj.1 (by show x.toNat = 0; omega)
      have hx4 : ((0 : UInt8).toNat : Int) = 0 := rfl
      rw [hx4] at hx
      clear hx2 hx3 hx1 hxl hx4
      obtain ⟨W1, hW1⟩ : ∃ W1, W1 = W0.alloc (.cells #[.string { data := #[] }, .bool false, .string { data := #[] }] 34) := ⟨_, rfl⟩
      obtain ⟨F, hF⟩ : ∃ F, W0.heap.size = F := ⟨_, rfl⟩
      have hb1 : Below W0.heap.size W0 W1 := by rw [hW1]; exact (Below.refl _ _).alloc (Nat.le_refl _) _
      have HF_W1 := hide (show OpAt W1 F ([], false, []) by rw [hW1, ← hF]; exact OpAt.new W0 ([], false, []))
      have HFR := hide (show F ≠ R by rw [← hF]; exact (Nat.ne_of_lt HR_W0.out.lt).symm)
      have HPF := hide (show pb ≠ F by rw [← hF]; exact Nat.ne_of_lt HP_W0.out.lt)
      have HFw := hide (show w.heap.size ≤ F by rw [← hF]; exact Nat.le_trans HRw.out (Nat.le_of_lt HR_W0.out.lt))
      have HF0 := hide (show w0.heap.size ≤ F by rw [← hF]; exact Nat.le_trans HR0.out (Nat.le_of_lt HR_W0.out.lt))
      have x0 : W0.cell? ⟨pb, 0, none⟩ = some (.slice (some ⟨g, off, none⟩) n c) := HP_W0.out.at 0 rfl
      have x1 : W1.cell? ⟨pb, 0, none⟩ = some (.slice (some ⟨g, off, none⟩) n c) := (HP_W0.out.carry hb1).at 0 rfl
      obtain ⟨a2, c2, hsl, hsr⟩ := sliceY HRD.out 1 (by simp)
      have HRQ := hide (show Rd W1 (.slice a2 (n - 1) c2) q by simpa using hsr W1 (HRD.out.carry hb1))
      have HQL := hide (show q.length ≤ 1000000 by have := HL.out; simp only [List.length_cons] at this; omega)
      clear hsr
      have HR_W1 := hide (HR_W0.out.carry hb1)
      have HP_W1 := hide (HP_W0.out.carry hb1)
      have HY_W1 := hide (HY_W0.out.carry hb1)
      have HK_W1 := hide (keep_below HK_W0.out hb1)
      have HB_W1 := hide (show Below w0.heap.size w0 W1 from HB_W0.out.trans (hb1.mono HB_W0.out.size))
      clear HR_W0 HP_W0 HY_W0 HK_W0 HB_W0
      rw [hW1] at x1
      clear hb1 HRD
      cases hct : ct q with
      | none =>
        have HCN := hide (show cutO (0 :: q) = none by simp [cutO, hct])
        go_wp2_with (refine wpList_slY rfl (.tmp 21) (.const (.int .i64 1)) 28 (by kernel_rfl) rfl rfl rfl hsl ?_)
        rw [← hW1]
        refine (cutY_none a2 (n - 1) c2 q W1 HQL.out HRQ.out hct).mono ?_
        rintro e w2 ⟨a3, n3, c3, rfl, b2⟩
        have HF_w2 := hide (HF_W1.out.carry b2)
        have HR_w2 := hide (HR_W1.out.carry b2)
        have HP_w2 := hide (HP_W1.out.carry b2)
        have HY_w2 := hide (HY_W1.out.carry b2)
        have HK_w2 := hide (keep_below HK_W1.out b2)
        have HB_w2 := hide (show Below w0.heap.size w0 w2 from HB_W1.out.trans (b2.mono HB_W1.out.size))
        clear HF_W1 HR_W1 HP_W1 HY_W1 HK_W1 HB_W1
        clear b2 hW1 hF hsl x0 x1
        obtain ⟨s0, s1, s2⟩ := HF_w2.out.cells
        obtain ⟨z0, z1, z2⟩ := HF_w2.out.fz
        have x0 : w2.cell? ⟨pb, 0, none⟩ = some _ := HP_w2.out.at 0 rfl
        have z3 := HP_w2.out.fz 0
        have hPF := HPF.out
        have hFP : ¬ F = pb := fun e => hPF e.symm
        obtain ⟨w3, ew3⟩ : ∃ wq, (w2.setCell ⟨F, 0, none⟩ (.string (bs []))).setCell ⟨pb, 0, none⟩ (.slice a3 n3 c3) = wq := ⟨_, rfl⟩
        have HF_w3 := hide (show OpAt w3 F ([], false, []) by rw [← ew3]; exact (HF_w2.out.put0 []).other (Ne.symm HPF.out) 0 _)
        have HR_w3 := hide (show OpAt w3 R ([], false, []) by rw [← ew3]; exact (HR_w2.out.other (Ne.symm HFR.out) 0 _).other (Ne.symm HPR.out) 0 _)
        have HP_w3 := hide (show Bx w3 pb 28 #[.slice a3 n3 c3] by rw [← ew3]; exact (HP_w2.out.other HPF.out 0 _).put 0 _)
        have HK_w3 := hide (show KeepG 28 w w3 by rw [← ew3]; exact keep_box (keep_sets (p := ([], false, [])) HK_w2.out HFw.out 0 _) (HP_w2.out.other HPF.out 0 _) 0 _)
        have HB_w3 := hide (show Below w0.heap.size w0 w3 by rw [← ew3]; exact belowX_set (belowX_set HB_w2.out HF0.out 0 _) HP0.out 0 _)
        have hkt : KeepG 28 (w2.setCell ⟨F, 0, none⟩ (.string (bs []))) w3 := by rw [← ew3]; exact keepX_set (HP_w2.out.other HPF.out 0 _) 0 _
        have hkf : KeepG 34 w2 (w2.setCell ⟨F, 0, none⟩ (.string (bs []))) := keepX_set HF_w2.out.bx 0 _
        clear hkt hkf HY_w2
        have hK : Keeps (fun wx => OpAt wx F (([], false, []) : Opn)) := fun w1 w2 h hb => h.carry hb
        go_wp2_with fail
        clear s0 s1 s2 z0 z1 z2 z3 x0 hPF hFP ew3
        refine reg_begin hK (by kernel_rfl) HF_w3.out ?_
        intro hS
        have hbd : Below w3.heap.size w3 w3.drew := (Below.refl _ _).drew
        have HR_wd := hide (HR_w3.out.carry hbd)
        have HK_wd := hide (keep_below HK_w3.out hbd)
        have HB_wd := hide (show Below w0.heap.size w0 w3.drew from HB_w3.out.trans (hbd.mono HB_w3.out.size))
        clear hbd HR_w3 HK_w3 HB_w3 HF_w3
        generalize w3.drew = wd at *
        refine reg_plan [0, 1, 2, 3, 4, 5, 6] (fuel := 2) (a' := ?qafa1) (by kernel_rfl) (by kernel_rfl) (by kernel_rfl) ?qafp1 hS ?qafn1
        case qafp1 =>
          iterate 4 (apply Yl.cons rfl (by kernel_rfl); focus (rintro wx x1; obtain ⟨k0, k1, k2⟩ := OpAt.cells x1; clear x1; go_simp; all_goals (with_reducible rfl)); try simp only [Act.put, List.setIfInBounds_toArray, List.set_cons_zero, List.set_cons_succ])
          iterate 2 (apply Yl.skip rfl (by kernel_rfl); try simp only [Act.put, List.setIfInBounds_toArray, List.set_cons_zero, List.set_cons_succ])
          iterate 1 (apply Yl.cons rfl (by kernel_rfl); focus (rintro wx x1; obtain ⟨k0, k1, k2⟩ := OpAt.cells x1; clear x1; go_simp; all_goals (with_reducible rfl)); try simp only [Act.put, List.setIfInBounds_toArray, List.set_cons_zero, List.set_cons_succ])
          exact Yl.nil
        obtain ⟨s0, s1, s2⟩ := HR_wd.out.cells
        obtain ⟨z0, z1, z2⟩ := HR_wd.out.fz
        have hS3 : OpAt (((wd.setCell ⟨R, 0, none⟩ (.string (bs (([], false, []) : Opn).1))).setCell ⟨R, 1, none⟩ (.bool (([], false, []) : Opn).2.1)).setCell ⟨R, 2, none⟩ (.string (bs (([], false, []) : Opn).2.2))) F (([], false, []) : Opn) := ((hS.other HFR.out _ _).other HFR.out _ _).other HFR.out _ _
        refine reg_unit (i := 7) (w' := ((wd.setCell ⟨R, 0, none⟩ (.string (bs (([], false, []) : Opn).1))).setCell ⟨R, 1, none⟩ (.bool (([], false, []) : Opn).2.1)).setCell ⟨R, 2, none⟩ (.string (bs (([], false, []) : Opn).2.2))) rfl (by kernel_rfl) (by kernel_rfl) (by go_simp) (hS3) ?_
        clear hS s0 s1 s2 z0 z1 z2
        have hS : OpAt (((wd.setCell ⟨R, 0, none⟩ (.string (bs (([], false, []) : Opn).1))).setCell ⟨R, 1, none⟩ (.bool (([], false, []) : Opn).2.1)).setCell ⟨R, 2, none⟩ (.string (bs (([], false, []) : Opn).2.2))) F (([], false, []) : Opn) := by
          assumption
        try simp only [Act.put, List.setIfInBounds_toArray, List.set_cons_zero, List.set_cons_succ]
        refine reg_plan [8] (fuel := 0) (a' := ?qafa2) (by kernel_rfl) (by kernel_rfl) (by kernel_rfl) ?qafp2 hS ?qafn2
        case qafp2 =>
          iterate 1 (apply Yl.cons rfl (by kernel_rfl); focus (rintro wx x1; obtain ⟨k0, k1, k2⟩ := OpAt.cells x1; clear x1; go_simp; all_goals (with_reducible rfl)); try simp only [Act.put, List.setIfInBounds_toArray, List.set_cons_zero, List.set_cons_succ])
          exact Yl.nil
        refine wpAnyH_done (by kernel_rfl) ?_ _
        refine NoPanic.normal ?_
        have HQ := hide (HR_wd.out.put (([], false, []) : Opn))
        have HKz := hide (keep_sets (p := (([], false, []) : Opn)) (keep_sets (p := (([], false, []) : Opn)) (keep_sets (p := (([], false, []) : Opn)) HK_wd.out HRw.out 0 (.string (bs (([], false, []) : Opn).1))) HRw.out 1 (.bool (([], false, []) : Opn).2.1)) HRw.out 2 (.string (bs (([], false, []) : Opn).2.2)))
        have HBz := hide (belowX_set (belowX_set (belowX_set HB_wd.out HR0.out 0 (.string (bs (([], false, []) : Opn).1))) HR0.out 1 (.bool (([], false, []) : Opn).2.1)) HR0.out 2 (.string (bs (([], false, []) : Opn).2.2)))
        clear hS hS3 hK
        generalize ((wd.setCell ⟨R, 0, none⟩ (.string (bs (([], false, []) : Opn).1))).setCell ⟨R, 1, none⟩ (.bool (([], false, []) : Opn).2.1)).setCell ⟨R, 2, none⟩ (.string (bs (([], false, []) : Opn).2.2)) = w9 at *
        obtain ⟨y0, y1, y2⟩ := HQ.out.cells
        simp only at y0 y1 y2
        go_wp2
        try simp only [Exit.inBlock, Exit.then]
        refine bodyPost_ret (v := .tuple #[.agg #[.string (bs (([], false, []) : Opn).1), .bool (([], false, []) : Opn).2.1, .string (bs (([], false, []) : Opn).2.2)], .bool false]) ?_ rfl ⟨.inr ⟨HCN.out, ([], false, []), rfl⟩, HKz.out, HBz.out⟩
        simp [results, Try.results40, go_sem, *]
      | some p =>
        obtain ⟨K, r⟩ := p
        go_wp2_with (refine wpList_slY rfl (.tmp 21) (.const (.int .i64 1)) 28 (by kernel_rfl) rfl rfl rfl hsl ?_)
        rw [← hW1]
        refine (cutY_some a2 (n - 1) c2 q K r W1 HQL.out HRQ.out hct).mono ?_
        rintro e w2 ⟨a3, c3, rfl, o2, b2⟩
        obtain ⟨n3, hn3⟩ : ∃ n3, n3 = r.length := ⟨_, rfl⟩
        rw [← hn3] at o2 ⊢
        have HN3 := hide hn3
        clear hn3
        have HRL := hide (show r.length ≤ 1000000 by
          have h1 := ct_can hct
          have h2 := congrArg List.length h1
          have h3 := HQL.out
          rw [List.length_append] at h2
          omega)
        have HCT := hide hct
        clear hct
        have HO_w2 := hide (o2.mono (show w0.heap.size ≤ W1.heap.size from HB_W1.out.size))
        have HF_w2 := hide (HF_W1.out.carry b2)
        have HR_w2 := hide (HR_W1.out.carry b2)
        have HP_w2 := hide (HP_W1.out.carry b2)
        have HK_w2 := hide (keep_below HK_W1.out b2)
        have HB_w2 := hide (show Below w0.heap.size w0 w2 from HB_W1.out.trans (b2.mono HB_W1.out.size))
        clear HF_W1 HR_W1 HP_W1 HK_W1 HB_W1
        clear b2 o2 hW1 hF hsl x0 x1 HY_W1
        obtain ⟨s0, s1, s2⟩ := HF_w2.out.cells
        obtain ⟨z0, z1, z2⟩ := HF_w2.out.fz
        have x0 : w2.cell? ⟨pb, 0, none⟩ = some _ := HP_w2.out.at 0 rfl
        have z3 := HP_w2.out.fz 0
        have hPF := HPF.out
        have hFP : ¬ F = pb := fun e => hPF e.symm
        obtain ⟨w3, ew3⟩ : ∃ wq, (w2.setCell ⟨F, 0, none⟩ (.string (bs K))).setCell ⟨pb, 0, none⟩ (.slice a3 n3 c3) = wq := ⟨_, rfl⟩
        have HF_w3 := hide (show OpAt w3 F (K, false, []) by rw [← ew3]; exact (HF_w2.out.put0 K).other (Ne.symm HPF.out) 0 _)
        have HR_w3 := hide (show OpAt w3 R ([], false, []) by rw [← ew3]; exact (HR_w2.out.other (Ne.symm HFR.out) 0 _).other (Ne.symm HPR.out) 0 _)
        have HP_w3 := hide (show Bx w3 pb 28 #[.slice a3 n3 c3] by rw [← ew3]; exact (HP_w2.out.other HPF.out 0 _).put 0 _)
        have HK_w3 := hide (show KeepG 28 w w3 by rw [← ew3]; exact keep_box (keep_sets (p := (K, false, [])) HK_w2.out HFw.out 0 _) (HP_w2.out.other HPF.out 0 _) 0 _)
        have HB_w3 := hide (show Below w0.heap.size w0 w3 by rw [← ew3]; exact belowX_set (belowX_set HB_w2.out HF0.out 0 _) HP0.out 0 _)
        have hkt : KeepG 28 (w2.setCell ⟨F, 0, none⟩ (.string (bs K))) w3 := by rw [← ew3]; exact keepX_set (HP_w2.out.other HPF.out 0 _) 0 _
        have hkf : KeepG 34 w2 (w2.setCell ⟨F, 0, none⟩ (.string (bs K))) := keepX_set HF_w2.out.bx 0 _
        have HY_w3 := hide (show RdY w0 w3 (.slice a3 n3 c3) r from .inr ((HO_w2.out.keep hkf (by decide)).keep hkt (by decide)))
        clear hkt hkf HO_w2
        obtain ⟨t0, t1, t2⟩ := HF_w3.out.cells
        simp only at t0 t1 t2
        have t3 : w3.cell? ⟨pb, 0, none⟩ = some (.slice a3 n3 c3) := HP_w3.out.at 0 rfl
        have HRR := hide (HY_w3.out.rd HB_w3.out)
        cases hct : ct r with
        | none =>
          have HCN := hide (show cutO (0 :: q) = none by simp [cutO, HCT.out, hct])
          go_wp2_with fail
          refine (cutY_none a3 n3 c3 r w3 HRL.out HRR.out hct).mono ?_
          rintro e w4 ⟨a4, n4, c4, rfl, b4⟩
          clear s0 s1 s2 z0 z1 z2 z3 x0 hPF hFP ew3 t0 t1 t2 t3 HRR
          have HF_w4 := hide (HF_w3.out.carry b4)
          have HR_w4 := hide (HR_w3.out.carry b4)
          have HP_w4 := hide (HP_w3.out.carry b4)
          have HK_w4 := hide (keep_below HK_w3.out b4)
          have HB_w4 := hide (show Below w0.heap.size w0 w4 from HB_w3.out.trans (b4.mono HB_w3.out.size))
          clear HF_w3 HR_w3 HP_w3 HK_w3 HB_w3
          clear b4
          obtain ⟨s0, s1, s2⟩ := HF_w4.out.cells
          obtain ⟨z0, z1, z2⟩ := HF_w4.out.fz
          have x0 : w4.cell? ⟨pb, 0, none⟩ = some _ := HP_w4.out.at 0 rfl
          have z3 := HP_w4.out.fz 0
          have hPF := HPF.out
          have hFP : ¬ F = pb := fun e => hPF e.symm
          obtain ⟨w5, ew5⟩ : ∃ wq, (w4.setCell ⟨F, 2, none⟩ (.string (bs []))).setCell ⟨pb, 0, none⟩ (.slice a4 n4 c4) = wq := ⟨_, rfl⟩
          have HF_w5 := hide (show OpAt w5 F (K, false, []) by rw [← ew5]; exact (HF_w4.out.put2 []).other (Ne.symm HPF.out) 0 _)
          have HR_w5 := hide (show OpAt w5 R ([], false, []) by rw [← ew5]; exact (HR_w4.out.other (Ne.symm HFR.out) 2 _).other (Ne.symm HPR.out) 0 _)
          have HP_w5 := hide (show Bx w5 pb 28 #[.slice a4 n4 c4] by rw [← ew5]; exact (HP_w4.out.other HPF.out 2 _).put 0 _)
          have HK_w5 := hide (show KeepG 28 w w5 by rw [← ew5]; exact keep_box (keep_sets (p := (K, false, [])) HK_w4.out HFw.out 2 _) (HP_w4.out.other HPF.out 2 _) 0 _)
          have HB_w5 := hide (show Below w0.heap.size w0 w5 by rw [← ew5]; exact belowX_set (belowX_set HB_w4.out HF0.out 2 _) HP0.out 0 _)
          have hkt : KeepG 28 (w4.setCell ⟨F, 2, none⟩ (.string (bs []))) w5 := by rw [← ew5]; exact keepX_set (HP_w4.out.other HPF.out 2 _) 0 _
          have hkf : KeepG 34 w4 (w4.setCell ⟨F, 2, none⟩ (.string (bs []))) := keepX_set HF_w4.out.bx 2 _
          clear hkt hkf HY_w3
          have hK : Keeps (fun wx => OpAt wx F ((K, false, []) : Opn)) := fun w1 w2 h hb => h.carry hb
          go_wp2_with fail
          clear s0 s1 s2 z0 z1 z2 z3 x0 hPF hFP ew5
          refine reg_begin hK (by kernel_rfl) HF_w5.out ?_
          intro hS
          have hbd : Below w5.heap.size w5 w5.drew := (Below.refl _ _).drew
          have HR_wd := hide (HR_w5.out.carry hbd)
          have HK_wd := hide (keep_below HK_w5.out hbd)
          have HB_wd := hide (show Below w0.heap.size w0 w5.drew from HB_w5.out.trans (hbd.mono HB_w5.out.size))
          clear hbd HR_w5 HK_w5 HB_w5 HF_w5
          generalize w5.drew = wd at *
          refine reg_plan [0, 1, 2, 3, 4, 5, 6] (fuel := 2) (a' := ?qca1) (by kernel_rfl) (by kernel_rfl) (by kernel_rfl) ?qcp1 hS ?qcn1
          case qcp1 =>
            iterate 4 (apply Yl.cons rfl (by kernel_rfl); focus (rintro wx x1; obtain ⟨k0, k1, k2⟩ := OpAt.cells x1; clear x1; go_simp; all_goals (with_reducible rfl)); try simp only [Act.put, List.setIfInBounds_toArray, List.set_cons_zero, List.set_cons_succ])
            iterate 2 (apply Yl.skip rfl (by kernel_rfl); try simp only [Act.put, List.setIfInBounds_toArray, List.set_cons_zero, List.set_cons_succ])
            iterate 1 (apply Yl.cons rfl (by kernel_rfl); focus (rintro wx x1; obtain ⟨k0, k1, k2⟩ := OpAt.cells x1; clear x1; go_simp; all_goals (with_reducible rfl)); try simp only [Act.put, List.setIfInBounds_toArray, List.set_cons_zero, List.set_cons_succ])
            exact Yl.nil
          obtain ⟨s0, s1, s2⟩ := HR_wd.out.cells
          obtain ⟨z0, z1, z2⟩ := HR_wd.out.fz
          have hS3 : OpAt (((wd.setCell ⟨R, 0, none⟩ (.string (bs ((K, false, []) : Opn).1))).setCell ⟨R, 1, none⟩ (.bool ((K, false, []) : Opn).2.1)).setCell ⟨R, 2, none⟩ (.string (bs ((K, false, []) : Opn).2.2))) F ((K, false, []) : Opn) := ((hS.other HFR.out _ _).other HFR.out _ _).other HFR.out _ _
          refine reg_unit (i := 7) (w' := ((wd.setCell ⟨R, 0, none⟩ (.string (bs ((K, false, []) : Opn).1))).setCell ⟨R, 1, none⟩ (.bool ((K, false, []) : Opn).2.1)).setCell ⟨R, 2, none⟩ (.string (bs ((K, false, []) : Opn).2.2))) rfl (by kernel_rfl) (by kernel_rfl) (by go_simp) (hS3) ?_
          clear hS s0 s1 s2 z0 z1 z2
          have hS : OpAt (((wd.setCell ⟨R, 0, none⟩ (.string (bs ((K, false, []) : Opn).1))).setCell ⟨R, 1, none⟩ (.bool ((K, false, []) : Opn).2.1)).setCell ⟨R, 2, none⟩ (.string (bs ((K, false, []) : Opn).2.2))) F ((K, false, []) : Opn) := by
            assumption
          try simp only [Act.put, List.setIfInBounds_toArray, List.set_cons_zero, List.set_cons_succ]
          refine reg_plan [8] (fuel := 0) (a' := ?qca2) (by kernel_rfl) (by kernel_rfl) (by kernel_rfl) ?qcp2 hS ?qcn2
          case qcp2 =>
            iterate 1 (apply Yl.cons rfl (by kernel_rfl); focus (rintro wx x1; obtain ⟨k0, k1, k2⟩ := OpAt.cells x1; clear x1; go_simp; all_goals (with_reducible rfl)); try simp only [Act.put, List.setIfInBounds_toArray, List.set_cons_zero, List.set_cons_succ])
            exact Yl.nil
          refine wpAnyH_done (by kernel_rfl) ?_ _
          refine NoPanic.normal ?_
          have HQ := hide (HR_wd.out.put ((K, false, []) : Opn))
          have HKz := hide (keep_sets (p := ((K, false, []) : Opn)) (keep_sets (p := ((K, false, []) : Opn)) (keep_sets (p := ((K, false, []) : Opn)) HK_wd.out HRw.out 0 (.string (bs ((K, false, []) : Opn).1))) HRw.out 1 (.bool ((K, false, []) : Opn).2.1)) HRw.out 2 (.string (bs ((K, false, []) : Opn).2.2)))
          have HBz := hide (belowX_set (belowX_set (belowX_set HB_wd.out HR0.out 0 (.string (bs ((K, false, []) : Opn).1))) HR0.out 1 (.bool ((K, false, []) : Opn).2.1)) HR0.out 2 (.string (bs ((K, false, []) : Opn).2.2)))
          clear hS hS3 hK
          generalize ((wd.setCell ⟨R, 0, none⟩ (.string (bs ((K, false, []) : Opn).1))).setCell ⟨R, 1, none⟩ (.bool ((K, false, []) : Opn).2.1)).setCell ⟨R, 2, none⟩ (.string (bs ((K, false, []) : Opn).2.2)) = w9 at *
          obtain ⟨y0, y1, y2⟩ := HQ.out.cells
          simp only at y0 y1 y2
          go_wp2
          try simp only [Exit.inBlock, Exit.then]
          refine bodyPost_ret (v := .tuple #[.agg #[.string (bs ((K, false, []) : Opn).1), .bool ((K, false, []) : Opn).2.1, .string (bs ((K, false, []) : Opn).2.2)], .bool false]) ?_ rfl ⟨.inr ⟨HCN.out, (K, false, []), rfl⟩, HKz.out, HBz.out⟩
          simp [results, Try.results40, go_sem, *]
        | some p =>
          obtain ⟨V, r2⟩ := p
          have HCS := hide (show cutO (0 :: q) = some ((K, false, V), r2) by simp [cutO, HCT.out, hct])
          go_wp2_with fail
          refine (cutY_some a3 n3 c3 r V r2 w3 HRL.out HRR.out hct).mono ?_
          rintro e w4 ⟨a4, c4, rfl, o4, b4⟩
          obtain ⟨n4, hn4⟩ : ∃ n4, n4 = r2.length := ⟨_, rfl⟩
          rw [← hn4] at o4 ⊢
          have HN4 := hide hn4
          clear hn4
          have HO_w4 := hide (o4.mono (show w0.heap.size ≤ w3.heap.size from HB_w3.out.size))
          clear s0 s1 s2 z0 z1 z2 z3 x0 hPF hFP ew3 t0 t1 t2 t3 HRR
          have HF_w4 := hide (HF_w3.out.carry b4)
          have HR_w4 := hide (HR_w3.out.carry b4)
          have HP_w4 := hide (HP_w3.out.carry b4)
          have HK_w4 := hide (keep_below HK_w3.out b4)
          have HB_w4 := hide (show Below w0.heap.size w0 w4 from HB_w3.out.trans (b4.mono HB_w3.out.size))
          clear HF_w3 HR_w3 HP_w3 HK_w3 HB_w3
          clear b4 o4 HY_w3
          obtain ⟨s0, s1, s2⟩ := HF_w4.out.cells
          obtain ⟨z0, z1, z2⟩ := HF_w4.out.fz
          have x0 : w4.cell? ⟨pb, 0, none⟩ = some _ := HP_w4.out.at 0 rfl
          have z3 := HP_w4.out.fz 0
          have hPF := HPF.out
          have hFP : ¬ F = pb := fun e => hPF e.symm
          obtain ⟨w5, ew5⟩ : ∃ wq, (w4.setCell ⟨F, 2, none⟩ (.string (bs V))).setCell ⟨pb, 0, none⟩ (.slice a4 n4 c4) = wq := ⟨_, rfl⟩
          have HF_w5 := hide (show OpAt w5 F (K, false, V) by rw [← ew5]; exact (HF_w4.out.put2 V).other (Ne.symm HPF.out) 0 _)
          have HR_w5 := hide (show OpAt w5 R ([], false, []) by rw [← ew5]; exact (HR_w4.out.other (Ne.symm HFR.out) 2 _).other (Ne.symm HPR.out) 0 _)
          have HP_w5 := hide (show Bx w5 pb 28 #[.slice a4 n4 c4] by rw [← ew5]; exact (HP_w4.out.other HPF.out 2 _).put 0 _)
          have HK_w5 := hide (show KeepG 28 w w5 by rw [← ew5]; exact keep_box (keep_sets (p := (K, false, V)) HK_w4.out HFw.out 2 _) (HP_w4.out.other HPF.out 2 _) 0 _)
          have HB_w5 := hide (show Below w0.heap.size w0 w5 by rw [← ew5]; exact belowX_set (belowX_set HB_w4.out HF0.out 2 _) HP0.out 0 _)
          have hkt : KeepG 28 (w4.setCell ⟨F, 2, none⟩ (.string (bs V))) w5 := by rw [← ew5]; exact keepX_set (HP_w4.out.other HPF.out 2 _) 0 _
          have hkf : KeepG 34 w4 (w4.setCell ⟨F, 2, none⟩ (.string (bs V))) := keepX_set HF_w4.out.bx 2 _
          have HY_w5 := hide (show RdY w0 w5 (.slice a4 n4 c4) r2 from .inr ((HO_w4.out.keep hkf (by decide)).keep hkt (by decide)))
          clear hkt hkf HO_w4
          have hK : Keeps (fun wx => OpAt wx F ((K, false, V) : Opn)) := fun w1 w2 h hb => h.carry hb
          go_wp2_with fail
          clear s0 s1 s2 z0 z1 z2 z3 x0 hPF hFP ew5
          refine reg_begin hK (by kernel_rfl) HF_w5.out ?_
          intro hS
          have hbd : Below w5.heap.size w5 w5.drew := (Below.refl _ _).drew
          have HR_wd := hide (HR_w5.out.carry hbd)
          have HK_wd := hide (keep_below HK_w5.out hbd)
          have HB_wd := hide (show Below w0.heap.size w0 w5.drew from HB_w5.out.trans (hbd.mono HB_w5.out.size))
          have HP_wd := hide (HP_w5.out.carry hbd)
          have HY_wd := hide (HY_w5.out.carry hbd)
          clear hbd HR_w5 HK_w5 HB_w5 HF_w5 HP_w5 HY_w5
          generalize w5.drew = wd at *
          refine reg_plan [0, 1, 2, 3, 4] (fuel := 4) (a' := ?qda1) (by kernel_rfl) (by kernel_rfl) (by kernel_rfl) ?qdp1 hS ?qdn1
          case qdp1 =>
            iterate 5 (apply Yl.cons rfl (by kernel_rfl); focus (rintro wx x1; obtain ⟨k0, k1, k2⟩ := OpAt.cells x1; clear x1; go_simp; all_goals (with_reducible rfl)); try simp only [Act.put, List.setIfInBounds_toArray, List.set_cons_zero, List.set_cons_succ])
            exact Yl.nil
          refine reg_callg (i := 5) (R := fun v wx => v = .bool (opOk ((K, false, V) : Opn)) ∧ Below wd.heap.size wd wx) rfl (by kernel_rfl) (by kernel_rfl) (by go_simp) ((mayBe_bt ((K, false, V) : Opn) wd).mono fun e wy ⟨h1, h2⟩ => ⟨_, h1, rfl, h2⟩) ?_
          rintro v5 wx ⟨rfl, b5⟩
          refine ⟨hK _ _ hS b5, ?_⟩
          have hS5 := hK _ _ hS b5
          clear hS
          have hS := hS5
          have HR_wx := hide (HR_wd.out.carry b5)
          have HK_wx := hide (keep_below HK_wd.out b5)
          have HB_wx := hide (show Below w0.heap.size w0 wx from HB_wd.out.trans (b5.mono HB_wd.out.size))
          have HP_wx := hide (HP_wd.out.carry b5)
          have HY_wx := hide (HY_wd.out.carry b5)
          clear b5 hS5 HR_wd HK_wd HB_wd HP_wd HY_wd
          obtain ⟨okb, hokb⟩ : ∃ b, b = opOk ((K, false, V) : Opn) := ⟨_, rfl⟩
          rw [← hokb]
          have HOKB := hide hokb
          clear hokb
          try simp only [Act.put, List.setIfInBounds_toArray, List.set_cons_zero, List.set_cons_succ]
          refine reg_plan [6] (fuel := 2) (a' := ?qda2) (by kernel_rfl) (by kernel_rfl) (by kernel_rfl) ?qdp2 hS ?qdn2
          case qdp2 =>
            iterate 1 (apply Yl.cons rfl (by kernel_rfl); focus (rintro wx x1; obtain ⟨k0, k1, k2⟩ := OpAt.cells x1; clear x1; go_simp; all_goals (with_reducible rfl)); try simp only [Act.put, List.setIfInBounds_toArray, List.set_cons_zero, List.set_cons_succ])
            exact Yl.nil
          obtain ⟨s0, s1, s2⟩ := HR_wx.out.cells
          obtain ⟨z0, z1, z2⟩ := HR_wx.out.fz
          have hS3 : OpAt (((wx.setCell ⟨R, 0, none⟩ (.string (bs ((K, false, V) : Opn).1))).setCell ⟨R, 1, none⟩ (.bool ((K, false, V) : Opn).2.1)).setCell ⟨R, 2, none⟩ (.string (bs ((K, false, V) : Opn).2.2))) F ((K, false, V) : Opn) := ((hS.other HFR.out _ _).other HFR.out _ _).other HFR.out _ _
          refine reg_unit (i := 7) (w' := ((wx.setCell ⟨R, 0, none⟩ (.string (bs ((K, false, V) : Opn).1))).setCell ⟨R, 1, none⟩ (.bool ((K, false, V) : Opn).2.1)).setCell ⟨R, 2, none⟩ (.string (bs ((K, false, V) : Opn).2.2))) rfl (by kernel_rfl) (by kernel_rfl) (by go_simp) (hS3) ?_
          clear hS s0 s1 s2 z0 z1 z2
          have hS : OpAt (((wx.setCell ⟨R, 0, none⟩ (.string (bs ((K, false, V) : Opn).1))).setCell ⟨R, 1, none⟩ (.bool ((K, false, V) : Opn).2.1)).setCell ⟨R, 2, none⟩ (.string (bs ((K, false, V) : Opn).2.2))) F ((K, false, V) : Opn) := by
            assumption
          try simp only [Act.put, List.setIfInBounds_toArray, List.set_cons_zero, List.set_cons_succ]
          refine reg_plan [8] (fuel := 0) (a' := ?qda3) (by kernel_rfl) (by kernel_rfl) (by kernel_rfl) ?qdp3 hS ?qdn3
          case qdp3 =>
            iterate 1 (apply Yl.cons rfl (by kernel_rfl); focus (rintro wx x1; obtain ⟨k0, k1, k2⟩ := OpAt.cells x1; clear x1; go_simp; all_goals (with_reducible rfl)); try simp only [Act.put, List.setIfInBounds_toArray, List.set_cons_zero, List.set_cons_succ])
            exact Yl.nil
          refine wpAnyH_done (by kernel_rfl) ?_ _
          refine NoPanic.normal ?_
          have HQ := hide (HR_wx.out.put ((K, false, V) : Opn))
          have HKz := hide (keep_sets (p := ((K, false, V) : Opn)) (keep_sets (p := ((K, false, V) : Opn)) (keep_sets (p := ((K, false, V) : Opn)) HK_wx.out HRw.out 0 (.string (bs ((K, false, V) : Opn).1))) HRw.out 1 (.bool ((K, false, V) : Opn).2.1)) HRw.out 2 (.string (bs ((K, false, V) : Opn).2.2)))
          have HBz := hide (belowX_set (belowX_set (belowX_set HB_wx.out HR0.out 0 (.string (bs ((K, false, V) : Opn).1))) HR0.out 1 (.bool ((K, false, V) : Opn).2.1)) HR0.out 2 (.string (bs ((K, false, V) : Opn).2.2)))
          have HPz := hide (((HP_wx.out.other HPR.out 0 (.string (bs ((K, false, V) : Opn).1))).other HPR.out 1 (.bool ((K, false, V) : Opn).2.1)).other HPR.out 2 (.string (bs ((K, false, V) : Opn).2.2)))
          have HYz := hide (show RdY w0 (((wx.setCell ⟨R, 0, none⟩ (.string (bs ((K, false, V) : Opn).1))).setCell ⟨R, 1, none⟩ (.bool ((K, false, V) : Opn).2.1)).setCell ⟨R, 2, none⟩ (.string (bs ((K, false, V) : Opn).2.2))) _ _ from ((HY_wx.out.keep (keepX_set HR_wx.out.bx 0 _) (by decide)).keep (keepX_set (HR_wx.out.bx.put 0 _) 1 _) (by decide)).keep (keepX_set ((HR_wx.out.bx.put 0 _).put 1 _) 2 _) (by decide))
          clear hS hS3 hK
          generalize ((wx.setCell ⟨R, 0, none⟩ (.string (bs ((K, false, V) : Opn).1))).setCell ⟨R, 1, none⟩ (.bool ((K, false, V) : Opn).2.1)).setCell ⟨R, 2, none⟩ (.string (bs ((K, false, V) : Opn).2.2)) = w9 at *
          obtain ⟨y0, y1, y2⟩ := HQ.out.cells
          simp only at y0 y1 y2
          go_wp2
          try simp only [Exit.inBlock, Exit.then]
          refine bodyPost_ret (v := .tuple #[.agg #[.string (bs ((K, false, V) : Opn).1), .bool ((K, false, V) : Opn).2.1, .string (bs ((K, false, V) : Opn).2.2)], .bool okb]) ?_ rfl ⟨.inl ⟨(K, false, V), r2, a4, n4, c4, HCS.out, by rw [HOKB.out], HPz.out, HN4.out, HYz.out⟩, HKz.out, HBz.out⟩
          simp [results, Try.results40, go_sem, *]

end Go.Proofs.Ytihbidkonoikkaa

/-
  What the document's cut and Read of layer 10 do.
-/
import Derived.Test.YtihbidkonoikkaaBt6
namespace Go.Proofs.Ytihbidkonoikkaa
open Go.RowKit
set_option linter.unusedVariables false
set_option linter.unusedSimpArgs false

theorem rr_n1 {l : List UInt8} (h : rd l = none) : readO l = none := readO_n1 (by simp [cutM, h])
theorem rr_n2 {l : List UInt8} {s n : Nat} (h : rd l = some (s, n)) (hs : 1099511627776 < s) : readO l = none := readO_n1 (by simp only [cutM, h]; rw [if_neg (by omega)])
theorem rr_n3 {l : List UInt8} {s n : Nat} (h : rd l = some (s, n)) (h2 : rd (l.drop n) = none) : readO l = none := by
  cases hc : cutM 1099511627712 l with
  | none => exact readO_n1 hc
  | some p =>
    obtain ⟨s', q⟩ := p
    obtain ⟨k', e1, _, _, e3⟩ := cutM_rd hc
    rw [h] at e1
    cases e1
    exact readO_n2 hc (by rw [e3]; simp [cutM, h2])
theorem rr_n4 {l : List UInt8} {s n m k : Nat} (h : rd l = some (s, n)) (h2 : rd (l.drop n) = some (m, k)) (hm : 64 < m) : readO l = none := by
  cases hc : cutM 1099511627712 l with
  | none => exact readO_n1 hc
  | some p =>
    obtain ⟨s', q⟩ := p
    obtain ⟨k', e1, _, _, e3⟩ := cutM_rd hc
    rw [h] at e1
    cases e1
    exact readO_n2 hc (by rw [e3]; simp only [cutM, h2]; rw [if_neg (by omega)])
theorem rr_it {l : List UInt8} {s n m k : Nat} (h : rd l = some (s, n)) (h2 : rd (l.drop n) = some (m, k)) (h3 : itO cutP m (l.drop (n + k)) = none) : readO l = none := by
  cases hc : cutM 1099511627712 l with
  | none => exact readO_n1 hc
  | some p =>
    obtain ⟨s', q⟩ := p
    obtain ⟨k', e1, _, _, e3⟩ := cutM_rd hc
    rw [h] at e1
    cases e1
    cases hc2 : cutM 64 q with
    | none => exact readO_n2 hc hc2
    | some p2 =>
      obtain ⟨m', z⟩ := p2
      obtain ⟨k2, f1, _, _, f3⟩ := cutM_rd hc2
      rw [e3, h2] at f1
      cases f1
      rw [f3, e3] at hc2
      rw [List.drop_drop] at hc2
      rw [e3] at hc
      exact readO_n3 hc hc2 h3
theorem rr_n5 {l : List UInt8} {s n m k : Nat} (h : rd l = some (s, n)) (h2 : rd (l.drop n) = some (m, k)) (h3 : itO cutO m (l.drop (n + k)) = none) : readO l = none :=
  rr_it h h2 (by rw [itO_both, h3])
theorem rr_n6 {l r : List UInt8} {s n m k : Nat} {es : List Opn} (h : rd l = some (s, n)) (h2 : rd (l.drop n) = some (m, k)) (h3 : itO cutO m (l.drop (n + k)) = some (es, r)) (h4 : r ≠ [] ∨ askO s es ≠ 0) : readO l = none := by
  by_cases ha : es.all opOk = true
  · have h5 : itO cutP m (l.drop (n + k)) = some (es, r) := by rw [itO_both, h3]; simp only; rw [if_pos ha]
    cases hc : cutM 1099511627712 l with
    | none => exact readO_n1 hc
    | some p =>
      obtain ⟨s', q⟩ := p
      obtain ⟨k', e1, g1, g2, e3⟩ := cutM_rd hc
      rw [h] at e1
      cases e1
      cases hc2 : cutM 64 q with
      | none => exact readO_n2 hc hc2
      | some p2 =>
        obtain ⟨m', z⟩ := p2
        obtain ⟨k2, f1, g3, g4, f3⟩ := cutM_rd hc2
        rw [e3, h2] at f1
        cases f1
        rw [f3, e3] at hc2
        rw [List.drop_drop] at hc2
        rw [e3] at hc
        rw [readO_s hc hc2 h5]
        rcases h4 with h4 | h4
        · rw [if_neg h4]
        · exfalso
          apply h4
          have hl := itO_len h5
          exact askO_ok.2 ⟨by omega, by omega, chkO_ok.2 ⟨by omega, by omega, ha⟩⟩
  · exact rr_it h h2 (by rw [itO_both, h3]; simp only; rw [if_neg ha])
theorem rr_s {l : List UInt8} {s n m k : Nat} {es : List Opn} (h : rd l = some (s, n)) (h2 : rd (l.drop n) = some (m, k)) (h3 : itO cutO m (l.drop (n + k)) = some (es, [])) (h4 : askO s es = 0) : readO l = some (s, es) := by
  obtain ⟨a1, a2, a3⟩ := askO_ok.1 h4
  obtain ⟨a4, a5, a6⟩ := chkO_ok.1 a3
  have hl := itO_len h3
  have h5 : itO cutP m (l.drop (n + k)) = some (es, []) := by rw [itO_both, h3]; simp only; rw [if_pos a6]
  have c1 : cutM 1099511627712 l = some (s, l.drop n) := by simp only [cutM, h]; rw [if_pos (by omega)]
  have c2 : cutM 64 (l.drop n) = some (m, l.drop (n + k)) := by simp only [cutM, h2]; rw [if_pos (by omega), List.drop_drop]
  rw [readO_s c1 c2 h5, if_pos rfl]

theorem rcutY_some (a : Option Addr) (n c : Nat) (l s r : List UInt8) (w : World) (hl : l.length ≤ 1000000) (hrd : Rd w (.slice a n c) l) (h : ct l = some (s, r)) :
    Calls Try.prog 37 #[.slice a n c] w fun e w' => ∃ a2 c2, e = .returned (.tuple #[.string (bs s), .slice a2 r.length c2, .int .i64 0]) ∧ OwY w' w.heap.size (.slice a2 r.length c2) r ∧ Below w.heap.size w w' := by
  refine (rcut_any w (by omega) hrd).mono ?_
  rintro e w' ⟨v, rfl, hv, hb⟩
  obtain ⟨x, rfl, ho⟩ := cutV_form hv
  have e1 : cutT l = bs s := by unfold cutT; rw [h]
  have e2 : cutEr l = 0 := by unfold cutEr; rw [h]
  have e3 : cutR l = r := by unfold cutR; rw [h]
  rw [e3] at ho
  rw [e1, e2]
  have ho' : OwY w' w.heap.size x r := ho
  obtain ⟨a2, c2, rfl⟩ := ho'.form
  exact ⟨a2, c2, rfl, ho, hb⟩
theorem rcutY_none (a : Option Addr) (n c : Nat) (l : List UInt8) (w : World) (hl : l.length ≤ 1000000) (hrd : Rd w (.slice a n c) l) (h : ct l = none) :
    Calls Try.prog 37 #[.slice a n c] w fun e w' => ∃ a2 n2 c2, e = .returned (.tuple #[.string (bs []), .slice a2 n2 c2, .int .i64 8]) ∧ Below w.heap.size w w' := by
  refine (rcut_any w (by omega) hrd).mono ?_
  rintro e w' ⟨v, rfl, hv, hb⟩
  obtain ⟨x, rfl, ho⟩ := cutV_form hv
  have e1 : cutT l = bs [] := by unfold cutT; rw [h]; rfl
  have e2 : cutEr l = 8 := by unfold cutEr; rw [h]
  rw [e1, e2]
  have ho' : OwY w' w.heap.size x (cutR l) := ho
  obtain ⟨a2, c2, rfl⟩ := ho'.form
  exact ⟨a2, _, c2, rfl, hb⟩
def RCutP (w w' : World) (l : List UInt8) (e : Ending) : Prop :=
  (∃ o r a' n' c', cutO l = some (o, r) ∧ e = .returned (.tuple #[.agg #[.string (bs o.1), .bool o.2.1, .string (bs o.2.2)], .slice a' n' c', .bool true]) ∧ n' = r.length ∧ OwY w' w.heap.size (.slice a' n' c') r) ∨
  (cutO l = none ∧ ∃ (o : Opn) (a' : Option Addr) (n' c' : Nat), e = .returned (.tuple #[.agg #[.string (bs o.1), .bool o.2.1, .string (bs o.2.2)], .slice a' n' c', .bool false]))

set_option maxHeartbeats 4000000 in
set_option maxRecDepth 100000 in
theorem rcut_bt (a : Option Addr) (n c : Nat) (l : List UInt8) (w : World) (hrd : Rd w (.slice a n c) l) (hl : l.length ≤ 1000000) :
    Calls Try.prog 30 #[.slice a n c] w fun e w' => RCutP w w' l e ∧ Below w.heap.size w w' := by
  obtain ⟨W0, hW0⟩ : ∃ W0, w.alloc (.cells #[.string { data := #[] }, .bool false, .string { data := #[] }] 34) = W0 := ⟨_, rfl⟩
  obtain ⟨R, hR⟩ : ∃ R, w.heap.size = R := ⟨_, rfl⟩
  have hb0 : Below w.heap.size w W0 := by rw [← hW0]; exact (Below.refl _ _).alloc (Nat.le_refl _) _
  have HR_W0 := hide (show OpAt W0 R ([], false, []) by rw [← hW0, ← hR]; exact OpAt.new w ([], false, []))
  have HB_W0 := hide hb0
  have HR0 := hide (show w.heap.size ≤ R from Nat.le_of_eq hR)
  have HN := hide (show n = l.length by obtain ⟨_, _, e⟩ := rd_formX hrd; cases e; rfl)
  have HRD := hide hrd
  have HL := hide hl
  clear hb0 hrd hl
  go_enter Try.func30, Try.ntmps30
  by_cases hl0 : n = 0
  · have HCN := hide (show cutO l = none by
      have : l = [] := List.length_eq_zero_iff.1 (by have := HN.out; omega)
      rw [this]; rfl)
    subst hl0
    have HQ := hide (HR_W0.out.put ([], false, []))
    have HBz := hide (belowX_set (belowX_set (belowX_set HB_W0.out HR0.out 0 (.string (bs []))) HR0.out 1 (.bool false)) HR0.out 2 (.string (bs [])))
    obtain ⟨s0, s1, s2⟩ := HR_W0.out.cells
    obtain ⟨z0, z1, z2⟩ := HR_W0.out.fz
    simp only at s0 s1 s2 HQ
    go_wp2
    clear s0 s1 s2 z0 z1 z2
    have hbe : ({ data := #[] } : ByteArray) = bs [] := rfl
    try rw [hbe]
    generalize ((W0.setCell ⟨R, 0, none⟩ (.string (bs []))).setCell ⟨R, 1, none⟩ (.bool false)).setCell ⟨R, 2, none⟩ (.string (bs [])) = w9 at *
    obtain ⟨y0, y1, y2⟩ := HQ.out.cells
    simp only at y0 y1 y2
    try simp only [Exit.inBlock, Exit.then]
    refine bodyPost_ret (v := .tuple #[.agg #[.string (bs []), .bool false, .string (bs [])], .slice none 0 0, .bool false]) ?_ rfl ⟨.inr ⟨HCN.out, ([], false, []), none, 0, 0, rfl⟩, HBz.out⟩
    simp [results, Try.results30, go_sem, *]
  have hl0' : ((n : Int) == 0) = false := by simpa using hl0
  have hl1 : (0 : Int) < n := by omega
  have HN0 := hide hl0
  clear hl0
  obtain ⟨x, q, hq⟩ : ∃ x q, l = x :: q := by
    cases l with
    | nil => exact absurd HN.out HN0.out
    | cons x q => exact ⟨x, q, rfl⟩
  subst hq
  obtain ⟨g, off, ha, hx⟩ := rd_cellX (HRD.out.carry HB_W0.out) 0 (by simp)
  subst ha
  simp only [Nat.add_zero, List.getElem_cons_zero] at hx
  have hxl := x.toNat_lt
  by_cases hx1 : 1 < x.toNat
  · have HCN := hide (show cutO (x :: q) = none by simp [cutO, hx1])
    have hx2 : (1 : Int) < x.toNat := by omega
    have HQ := hide (HR_W0.out.put ([], false, []))
    have HBz := hide (belowX_set (belowX_set (belowX_set HB_W0.out HR0.out 0 (.string (bs []))) HR0.out 1 (.bool false)) HR0.out 2 (.string (bs [])))
    obtain ⟨s0, s1, s2⟩ := HR_W0.out.cells
    obtain ⟨z0, z1, z2⟩ := HR_W0.out.fz
    simp only at s0 s1 s2 HQ
    go_wp2
    clear s0 s1 s2 z0 z1 z2
    have hbe : ({ data := #[] } : ByteArray) = bs [] := rfl
    try rw [hbe]
    generalize ((W0.setCell ⟨R, 0, none⟩ (.string (bs []))).setCell ⟨R, 1, none⟩ (.bool false)).setCell ⟨R, 2, none⟩ (.string (bs [])) = w9 at *
    obtain ⟨y0, y1, y2⟩ := HQ.out.cells
    simp only at y0 y1 y2
    try simp only [Exit.inBlock, Exit.then]
    refine bodyPost_ret (v := .tuple #[.agg #[.string (bs []), .bool false, .string (bs [])], .slice none 0 0, .bool false]) ?_ rfl ⟨.inr ⟨HCN.out, ([], false, []), none, 0, 0, rfl⟩, HBz.out⟩
    simp [results, Try.results30, go_sem, *]
  · have hx2 : decide ((1 : Int) < x.toNat) = false := by simpa using (by omega : ¬ (1 : Int) < x.toNat)
    by_cases hx3 : x.toNat = 1
    · obtain rfl : x = 1 := UInt8.toNat_inj.1 (by rw [hx3]; rfl)
      have hx4 : ((1 : UInt8).toNat : Int) = 1 := rfl
      rw [hx4] at hx
      clear hx2 hx3 hx1 hxl hx4
      obtain ⟨W1, hW1⟩ : ∃ W1, W1 = W0.alloc (.cells #[.string { data := #[] }, .bool true, .string { data := #[] }] 34) := ⟨_, rfl⟩
      obtain ⟨F, hF⟩ : ∃ F, W0.heap.size = F := ⟨_, rfl⟩
      have hb1 : Below W0.heap.size W0 W1 := by rw [hW1]; exact (Below.refl _ _).alloc (Nat.le_refl _) _
      have HF_W1 := hide (show OpAt W1 F ([], true, []) by rw [hW1, ← hF]; exact OpAt.new W0 ([], true, []))
      have HR_W1 := hide (HR_W0.out.carry hb1)
      have HFR := hide (show F ≠ R by rw [← hF]; exact (Nat.ne_of_lt HR_W0.out.lt).symm)
      have HF0 := hide (show w.heap.size ≤ F by rw [← hF]; exact Nat.le_trans HR0.out (Nat.le_of_lt HR_W0.out.lt))
      have HB_W1 := hide (show Below w.heap.size w W1 from HB_W0.out.trans (hb1.mono HB_W0.out.size))
      obtain ⟨a2, c2, hsl, hsr⟩ := sliceY HRD.out 1 (by simp)
      have HRQ := hide (show Rd W1 (.slice a2 (n - 1) c2) q by simpa using hsr W1 (HRD.out.carry HB_W1.out))
      have HQL := hide (show q.length ≤ 1000000 by have := HL.out; simp only [List.length_cons] at this; omega)
      clear hsr hb1 HR_W0 HB_W0
      cases hct : ct q with
      | none =>
        have HCN := hide (show cutO (1 :: q) = none by simp [cutO, hct])
        go_wp2_with (refine wpList_slY rfl (.tmp 28) (.const (.int .i64 1)) 28 (by kernel_rfl) rfl rfl rfl hsl ?_)
        rw [← hW1]
        refine (rcutY_none a2 (n - 1) c2 q W1 HQL.out HRQ.out hct).mono ?_
        rintro e w2 ⟨a3, n3, c3, rfl, b2⟩
        have HF_w2 := hide (HF_W1.out.carry b2)
        have HR_w2 := hide (HR_W1.out.carry b2)
        have HB_w2 := hide (show Below w.heap.size w w2 from HB_W1.out.trans (b2.mono HB_W1.out.size))
        clear b2 hW1 hF hsl HF_W1 HR_W1 HB_W1
        obtain ⟨t0, t1, t2⟩ := HF_w2.out.cells
        simp only at t0 t1 t2
        have HQ := hide (HR_w2.out.put ([], true, []))
        have HBz := hide (belowX_set (belowX_set (belowX_set HB_w2.out HR0.out 0 (.string (bs []))) HR0.out 1 (.bool true)) HR0.out 2 (.string (bs [])))
        obtain ⟨s0, s1, s2⟩ := HR_w2.out.cells
        obtain ⟨z0, z1, z2⟩ := HR_w2.out.fz
        simp only at s0 s1 s2 HQ
        go_wp2
        clear s0 s1 s2 z0 z1 z2
        have hbe : ({ data := #[] } : ByteArray) = bs [] := rfl
        try rw [hbe]
        generalize ((w2.setCell ⟨R, 0, none⟩ (.string (bs []))).setCell ⟨R, 1, none⟩ (.bool true)).setCell ⟨R, 2, none⟩ (.string (bs [])) = w9 at *
        obtain ⟨y0, y1, y2⟩ := HQ.out.cells
        simp only at y0 y1 y2
        try simp only [Exit.inBlock, Exit.then]
        refine bodyPost_ret (v := .tuple #[.agg #[.string (bs []), .bool true, .string (bs [])], .slice none 0 0, .bool false]) ?_ rfl ⟨.inr ⟨HCN.out, ([], true, []), none, 0, 0, rfl⟩, HBz.out⟩
        simp [results, Try.results30, go_sem, *]
      | some p =>
        obtain ⟨K, r⟩ := p
        go_wp2_with (refine wpList_slY rfl (.tmp 28) (.const (.int .i64 1)) 28 (by kernel_rfl) rfl rfl rfl hsl ?_)
        rw [← hW1]
        refine (rcutY_some a2 (n - 1) c2 q K r W1 HQL.out HRQ.out hct).mono ?_
        rintro e w2 ⟨a3, c3, rfl, o2, b2⟩
        obtain ⟨n3, hn3⟩ : ∃ n3, n3 = r.length := ⟨_, rfl⟩
        rw [← hn3] at o2 ⊢
        have HN3 := hide hn3
        clear hn3
        have HRL := hide (show r.length ≤ 1000000 by
          have h1 := ct_can hct
          have h2 := congrArg List.length h1
          have h3 := HQL.out
          rw [List.length_append] at h2
          omega)
        have HCT := hide hct
        clear hct
        have HO_w2 := hide (o2.mono (show w.heap.size ≤ W1.heap.size from HB_W1.out.size))
        have HF_w2 := hide (HF_W1.out.carry b2)
        have HR_w2 := hide (HR_W1.out.carry b2)
        have HB_w2 := hide (show Below w.heap.size w w2 from HB_W1.out.trans (b2.mono HB_W1.out.size))
        clear b2 o2 hW1 hF hsl HF_W1 HR_W1 HB_W1
        obtain ⟨s0, s1, s2⟩ := HF_w2.out.cells
        obtain ⟨z0, z1, z2⟩ := HF_w2.out.fz
        obtain ⟨w3, e3⟩ : ∃ wq, w2.setCell ⟨F, 0, none⟩ (.string (bs K)) = wq := ⟨_, rfl⟩
        have HF_w3 := hide (show OpAt w3 F (K, true, []) by rw [← e3]; exact HF_w2.out.put0 K)
        have HR_w3 := hide (show OpAt w3 R ([], false, []) by rw [← e3]; exact HR_w2.out.other (Ne.symm HFR.out) 0 _)
        have HB_w3 := hide (show Below w.heap.size w w3 by rw [← e3]; exact belowX_set HB_w2.out HF0.out 0 _)
        have HO_w3 := hide (show OwY w3 w.heap.size (.slice a3 n3 c3) r by rw [← e3]; exact HO_w2.out.keep (keepX_set HF_w2.out.bx 0 _) (by decide))
        clear HF_w2 HR_w2 HB_w2 HO_w2
        obtain ⟨t0, t1, t2⟩ := HF_w3.out.cells
        simp only at t0 t1 t2 s0 s1 s2
        have HCS := hide (show cutO (1 :: q) = some ((K, true, []), r) by simp [cutO, HCT.out])
        have HOz := hide (show OwY _ w.heap.size (.slice a3 n3 c3) r from ((HO_w3.out.keep (keepX_set HR_w3.out.bx 0 (.string (bs K))) (by decide)).keep (keepX_set (HR_w3.out.bx.put 0 (.string (bs K))) 1 (.bool true)) (by decide)).keep (keepX_set ((HR_w3.out.bx.put 0 (.string (bs K))).put 1 (.bool true)) 2 (.string (bs []))) (by decide))
        have HQ := hide (HR_w3.out.put (K, true, []))
        have HBz := hide (belowX_set (belowX_set (belowX_set HB_w3.out HR0.out 0 (.string (bs K))) HR0.out 1 (.bool true)) HR0.out 2 (.string (bs [])))
        obtain ⟨m0, m1, m2⟩ := HR_w3.out.cells
        obtain ⟨y0, y1, y2⟩ := HR_w3.out.fz
        simp only at m0 m1 m2 HQ
        go_wp2
        clear s0 s1 s2 z0 z1 z2 m0 m1 m2 y0 y1 y2 t0 t1 t2 e3
        have hbe : ({ data := #[] } : ByteArray) = bs [] := rfl
        try rw [hbe]
        generalize ((w3.setCell ⟨R, 0, none⟩ (.string (bs K))).setCell ⟨R, 1, none⟩ (.bool true)).setCell ⟨R, 2, none⟩ (.string (bs [])) = w9 at *
        obtain ⟨y0, y1, y2⟩ := HQ.out.cells
        simp only at y0 y1 y2
        try simp only [Exit.inBlock, Exit.then]
        refine bodyPost_ret (v := .tuple #[.agg #[.string (bs K), .bool true, .string (bs [])], .slice a3 n3 c3, .bool true]) ?_ rfl ⟨.inl ⟨(K, true, []), r, a3, n3, c3, HCS.out, rfl, HN3.out, HOz.out⟩, HBz.out⟩
        simp [results, Try.results30, go_sem, *]
    · obtain rfl : x = 0 := UInt8.toNat_inj.1 (by show x.toNat = 0; omega)
      have hx4 : ((0 : UInt8).toNat : Int) = 0 := rfl
      rw [hx4] at hx
      clear hx2 hx3 hx1 hxl hx4
      obtain ⟨W1, hW1⟩ : ∃ W1, W1 = W0.alloc (.cells #[.string { data := #[] }, .bool false, .string { data := #[] }] 34) := ⟨_, rfl⟩
      obtain ⟨F, hF⟩ : ∃ F, W0.heap.size = F := ⟨_, rfl⟩
      have hb1 : Below W0.heap.size W0 W1 := by rw [hW1]; exact (Below.refl _ _).alloc (Nat.le_refl _) _
      have HF_W1 := hide (show OpAt W1 F ([], false, []) by rw [hW1, ← hF]; exact OpAt.new W0 ([], false, []))
      have HR_W1 := hide (HR_W0.out.carry hb1)
      have HFR := hide (show F ≠ R by rw [← hF]; exact (Nat.ne_of_lt HR_W0.out.lt).symm)
      have HF0 := hide (show w.heap.size ≤ F by rw [← hF]; exact Nat.le_trans HR0.out (Nat.le_of_lt HR_W0.out.lt))
      have HB_W1 := hide (show Below w.heap.size w W1 from HB_W0.out.trans (hb1.mono HB_W0.out.size))
      obtain ⟨a2, c2, hsl, hsr⟩ := sliceY HRD.out 1 (by simp)
      have HRQ := hide (show Rd W1 (.slice a2 (n - 1) c2) q by simpa using hsr W1 (HRD.out.carry HB_W1.out))
      have HQL := hide (show q.length ≤ 1000000 by have := HL.out; simp only [List.length_cons] at this; omega)
      clear hsr hb1 HR_W0 HB_W0
      cases hct : ct q with
      | none =>
        have HCN := hide (show cutO (0 :: q) = none by simp [cutO, hct])
        go_wp2_with (refine wpList_slY rfl (.tmp 28) (.const (.int .i64 1)) 28 (by kernel_rfl) rfl rfl rfl hsl ?_)
        rw [← hW1]
        refine (rcutY_none a2 (n - 1) c2 q W1 HQL.out HRQ.out hct).mono ?_
        rintro e w2 ⟨a3, n3, c3, rfl, b2⟩
        have HF_w2 := hide (HF_W1.out.carry b2)
        have HR_w2 := hide (HR_W1.out.carry b2)
        have HB_w2 := hide (show Below w.heap.size w w2 from HB_W1.out.trans (b2.mono HB_W1.out.size))
        clear b2 hW1 hF hsl HF_W1 HR_W1 HB_W1
        obtain ⟨t0, t1, t2⟩ := HF_w2.out.cells
        simp only at t0 t1 t2
        have HQ := hide (HR_w2.out.put ([], false, []))
        have HBz := hide (belowX_set (belowX_set (belowX_set HB_w2.out HR0.out 0 (.string (bs []))) HR0.out 1 (.bool false)) HR0.out 2 (.string (bs [])))
        obtain ⟨s0, s1, s2⟩ := HR_w2.out.cells
        obtain ⟨z0, z1, z2⟩ := HR_w2.out.fz
        simp only at s0 s1 s2 HQ
        go_wp2
        clear s0 s1 s2 z0 z1 z2
        have hbe : ({ data := #[] } : ByteArray) = bs [] := rfl
        try rw [hbe]
        generalize ((w2.setCell ⟨R, 0, none⟩ (.string (bs []))).setCell ⟨R, 1, none⟩ (.bool false)).setCell ⟨R, 2, none⟩ (.string (bs [])) = w9 at *
        obtain ⟨y0, y1, y2⟩ := HQ.out.cells
        simp only at y0 y1 y2
        try simp only [Exit.inBlock, Exit.then]
        refine bodyPost_ret (v := .tuple #[.agg #[.string (bs []), .bool false, .string (bs [])], .slice none 0 0, .bool false]) ?_ rfl ⟨.inr ⟨HCN.out, ([], false, []), none, 0, 0, rfl⟩, HBz.out⟩
        simp [results, Try.results30, go_sem, *]
      | some p =>
        obtain ⟨K, r⟩ := p
        go_wp2_with (refine wpList_slY rfl (.tmp 28) (.const (.int .i64 1)) 28 (by kernel_rfl) rfl rfl rfl hsl ?_)
        rw [← hW1]
        refine (rcutY_some a2 (n - 1) c2 q K r W1 HQL.out HRQ.out hct).mono ?_
        rintro e w2 ⟨a3, c3, rfl, o2, b2⟩
        obtain ⟨n3, hn3⟩ : ∃ n3, n3 = r.length := ⟨_, rfl⟩
        rw [← hn3] at o2 ⊢
        have HN3 := hide hn3
        clear hn3
        have HRL := hide (show r.length ≤ 1000000 by
          have h1 := ct_can hct
          have h2 := congrArg List.length h1
          have h3 := HQL.out
          rw [List.length_append] at h2
          omega)
        have HCT := hide hct
        clear hct
        have HO_w2 := hide (o2.mono (show w.heap.size ≤ W1.heap.size from HB_W1.out.size))
        have HF_w2 := hide (HF_W1.out.carry b2)
        have HR_w2 := hide (HR_W1.out.carry b2)
        have HB_w2 := hide (show Below w.heap.size w w2 from HB_W1.out.trans (b2.mono HB_W1.out.size))
        clear b2 o2 hW1 hF hsl HF_W1 HR_W1 HB_W1
        obtain ⟨s0, s1, s2⟩ := HF_w2.out.cells
        obtain ⟨z0, z1, z2⟩ := HF_w2.out.fz
        obtain ⟨w3, e3⟩ : ∃ wq, w2.setCell ⟨F, 0, none⟩ (.string (bs K)) = wq := ⟨_, rfl⟩
        have HF_w3 := hide (show OpAt w3 F (K, false, []) by rw [← e3]; exact HF_w2.out.put0 K)
        have HR_w3 := hide (show OpAt w3 R ([], false, []) by rw [← e3]; exact HR_w2.out.other (Ne.symm HFR.out) 0 _)
        have HB_w3 := hide (show Below w.heap.size w w3 by rw [← e3]; exact belowX_set HB_w2.out HF0.out 0 _)
        have HO_w3 := hide (show OwY w3 w.heap.size (.slice a3 n3 c3) r by rw [← e3]; exact HO_w2.out.keep (keepX_set HF_w2.out.bx 0 _) (by decide))
        clear HF_w2 HR_w2 HB_w2 HO_w2
        obtain ⟨t0, t1, t2⟩ := HF_w3.out.cells
        simp only at t0 t1 t2 s0 s1 s2
        have HRR := hide HO_w3.out.rd
        cases hct : ct r with
        | none =>
          have HCN := hide (show cutO (0 :: q) = none by simp [cutO, HCT.out, hct])
          go_wp2_with fail
          refine (rcutY_none a3 n3 c3 r w3 HRL.out HRR.out hct).mono ?_
          rintro e w4 ⟨a4, n4, c4, rfl, b4⟩
          clear s0 s1 s2 z0 z1 z2 t0 t1 t2 e3 HRR
          have HF_w4 := hide (HF_w3.out.carry b4)
          have HR_w4 := hide (HR_w3.out.carry b4)
          have HB_w4 := hide (show Below w.heap.size w w4 from HB_w3.out.trans (b4.mono HB_w3.out.size))
          clear b4 HF_w3 HR_w3 HB_w3 HO_w3
          obtain ⟨p0, p1, p2⟩ := HF_w4.out.cells
          obtain ⟨f0, f1, f2⟩ := HF_w4.out.fz
          obtain ⟨w5, e5⟩ : ∃ wq, w4.setCell ⟨F, 2, none⟩ (.string (bs [])) = wq := ⟨_, rfl⟩
          have HF_w5 := hide (show OpAt w5 F (K, false, []) by rw [← e5]; exact HF_w4.out.put2 [])
          have HR_w5 := hide (show OpAt w5 R ([], false, []) by rw [← e5]; exact HR_w4.out.other (Ne.symm HFR.out) 2 _)
          have HB_w5 := hide (show Below w.heap.size w w5 by rw [← e5]; exact belowX_set HB_w4.out HF0.out 2 _)
          obtain ⟨t0, t1, t2⟩ := HF_w5.out.cells
          simp only at t0 t1 t2 p0 p1 p2
          have HQ := hide (HR_w5.out.put (K, false, []))
          have HBz := hide (belowX_set (belowX_set (belowX_set HB_w5.out HR0.out 0 (.string (bs K))) HR0.out 1 (.bool false)) HR0.out 2 (.string (bs [])))
          obtain ⟨s0, s1, s2⟩ := HR_w5.out.cells
          obtain ⟨z0, z1, z2⟩ := HR_w5.out.fz
          simp only at s0 s1 s2 HQ
          go_wp2
          clear s0 s1 s2 z0 z1 z2 p0 p1 p2 f0 f1 f2 t0 t1 t2 e5
          have hbe : ({ data := #[] } : ByteArray) = bs [] := rfl
          try rw [hbe]
          generalize ((w5.setCell ⟨R, 0, none⟩ (.string (bs K))).setCell ⟨R, 1, none⟩ (.bool false)).setCell ⟨R, 2, none⟩ (.string (bs [])) = w9 at *
          obtain ⟨y0, y1, y2⟩ := HQ.out.cells
          simp only at y0 y1 y2
          try simp only [Exit.inBlock, Exit.then]
          refine bodyPost_ret (v := .tuple #[.agg #[.string (bs K), .bool false, .string (bs [])], .slice a4 n4 c4, .bool false]) ?_ rfl ⟨.inr ⟨HCN.out, (K, false, []), a4, n4, c4, rfl⟩, HBz.out⟩
          simp [results, Try.results30, go_sem, *]
        | some p =>
          obtain ⟨V, r2⟩ := p
          have HCS := hide (show cutO (0 :: q) = some ((K, false, V), r2) by simp [cutO, HCT.out, hct])
          go_wp2_with fail
          refine (rcutY_some a3 n3 c3 r V r2 w3 HRL.out HRR.out hct).mono ?_
          rintro e w4 ⟨a4, c4, rfl, o4, b4⟩
          obtain ⟨n4, hn4⟩ : ∃ n4, n4 = r2.length := ⟨_, rfl⟩
          rw [← hn4] at o4 ⊢
          have HN4 := hide hn4
          clear hn4
          clear s0 s1 s2 z0 z1 z2 t0 t1 t2 e3 HRR
          have HO_w4 := hide (o4.mono (show w.heap.size ≤ w3.heap.size from HB_w3.out.size))
          have HF_w4 := hide (HF_w3.out.carry b4)
          have HR_w4 := hide (HR_w3.out.carry b4)
          have HB_w4 := hide (show Below w.heap.size w w4 from HB_w3.out.trans (b4.mono HB_w3.out.size))
          clear b4 o4 HF_w3 HR_w3 HB_w3 HO_w3
          obtain ⟨p0, p1, p2⟩ := HF_w4.out.cells
          obtain ⟨f0, f1, f2⟩ := HF_w4.out.fz
          obtain ⟨w5, e5⟩ : ∃ wq, w4.setCell ⟨F, 2, none⟩ (.string (bs V)) = wq := ⟨_, rfl⟩
          have HF_w5 := hide (show OpAt w5 F (K, false, V) by rw [← e5]; exact HF_w4.out.put2 V)
          have HR_w5 := hide (show OpAt w5 R ([], false, []) by rw [← e5]; exact HR_w4.out.other (Ne.symm HFR.out) 2 _)
          have HB_w5 := hide (show Below w.heap.size w w5 by rw [← e5]; exact belowX_set HB_w4.out HF0.out 2 _)
          have HO_w5 := hide (show OwY w5 w.heap.size (.slice a4 n4 c4) r2 by rw [← e5]; exact HO_w4.out.keep (keepX_set HF_w4.out.bx 2 _) (by decide))
          have HOz := hide (show OwY _ w.heap.size (.slice a4 n4 c4) r2 from ((HO_w5.out.keep (keepX_set HR_w5.out.bx 0 (.string (bs K))) (by decide)).keep (keepX_set (HR_w5.out.bx.put 0 (.string (bs K))) 1 (.bool false)) (by decide)).keep (keepX_set ((HR_w5.out.bx.put 0 (.string (bs K))).put 1 (.bool false)) 2 (.string (bs V))) (by decide))
          obtain ⟨t0, t1, t2⟩ := HF_w5.out.cells
          simp only at t0 t1 t2 p0 p1 p2
          have HQ := hide (HR_w5.out.put (K, false, V))
          have HBz := hide (belowX_set (belowX_set (belowX_set HB_w5.out HR0.out 0 (.string (bs K))) HR0.out 1 (.bool false)) HR0.out 2 (.string (bs V)))
          obtain ⟨s0, s1, s2⟩ := HR_w5.out.cells
          obtain ⟨z0, z1, z2⟩ := HR_w5.out.fz
          simp only at s0 s1 s2 HQ
          go_wp2
          clear s0 s1 s2 z0 z1 z2 p0 p1 p2 f0 f1 f2 t0 t1 t2 e5
          have hbe : ({ data := #[] } : ByteArray) = bs [] := rfl
          try rw [hbe]
          generalize ((w5.setCell ⟨R, 0, none⟩ (.string (bs K))).setCell ⟨R, 1, none⟩ (.bool false)).setCell ⟨R, 2, none⟩ (.string (bs V)) = w9 at *
          obtain ⟨y0, y1, y2⟩ := HQ.out.cells
          simp only at y0 y1 y2
          try simp only [Exit.inBlock, Exit.then]
          refine bodyPost_ret (v := .tuple #[.agg #[.string (bs K), .bool false, .string (bs V)], .slice a4 n4 c4, .bool true]) ?_ rfl ⟨.inl ⟨(K, false, V), r2, a4, n4, c4, HCS.out, rfl, HN4.out, HOz.out⟩, HBz.out⟩
          simp [results, Try.results30, go_sem, *]

end Go.Proofs.Ytihbidkonoikkaa

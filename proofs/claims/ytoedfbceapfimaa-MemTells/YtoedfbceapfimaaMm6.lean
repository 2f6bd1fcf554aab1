/-
  What mem.Apply and mem.Size do.
-/
import Derived.Test.YtoedfbceapfimaaMm5
namespace Go.Proofs.Ytoedfbceapfimaa
open Go.RowKit
set_option linter.unusedVariables false
set_option linter.unusedSimpArgs false

def ApM (w : World) (v : Value) (wx : World) : Prop := MemAt wx w.heap.size v ∧ MemAt wx (w.heap.size + 1) (.slice none 0 0) ∧ Below w.heap.size w wx
theorem ApM.new (w : World) (v : Value) : ApM w v ((w.alloc (.cells #[v] 24)).alloc (.cells #[.slice none 0 0] 24)) := by
  have h1 : Below w.heap.size w (w.alloc (.cells #[v] 24)) := (Below.refl _ _).alloc (Nat.le_refl _) _
  have h2 : Below (w.alloc (.cells #[v] 24)).heap.size (w.alloc (.cells #[v] 24)) ((w.alloc (.cells #[v] 24)).alloc (.cells #[.slice none 0 0] 24)) := (Below.refl _ _).alloc (Nat.le_refl _) _
  refine ⟨(MemAt.new w v).carry h2, ?_, h1.trans (h2.mono h1.size)⟩
  have := MemAt.new (w.alloc (.cells #[v] 24)) (.slice none 0 0)
  simpa using this
theorem apl_e1 {l : List Ent} {s : Int} {m : List Opn} (h : memE l ≠ 0) : aplE l s m = memE l ∧ aplM l s m = [] := by
  have e : aplE l s m = memE l := by unfold aplE; rw [if_pos h]
  exact ⟨e, by unfold aplM; rw [if_pos (by rw [e]; exact h)]⟩
theorem apl_e2 {l : List Ent} {s : Int} {m : List Opn} (h : memE l = 0) (h2 : askO s m ≠ 0) : aplE l s m = askO s m ∧ aplM l s m = [] := by
  have e : aplE l s m = askO s m := by unfold aplE; rw [if_neg (fun q => q h), if_pos h2]
  exact ⟨e, by unfold aplM; rw [if_pos (by rw [e]; exact h2)]⟩
theorem any_lat (l : List Ent) (s : Int) (hs : 0 < s) : l.any (fun e => decide (s ≤ e.2.1)) = decide (s ≤ latM l) := by
  rw [Bool.eq_iff_iff, List.any_eq_true, decide_eq_true_iff]
  have h := lat_lt l s
  constructor
  · rintro ⟨e, he, q⟩
    have q' : s ≤ e.2.1 := by simpa using q
    have : ¬ latM l < s := fun r => by have := (h.1 r).2 e he; omega
    omega
  · intro q
    have : ¬ latM l < s := by omega
    rw [h] at this
    have : ¬ ∀ e ∈ l, e.2.1 < s := fun r => this ⟨hs, r⟩
    obtain ⟨e, he⟩ := Classical.not_forall.1 this
    obtain ⟨he, hn⟩ := Classical.not_imp.1 he
    exact ⟨e, he, by simp; omega⟩
theorem apl_e3 {l : List Ent} {s : Int} {m : List Opn} (h : memE l = 0) (h2 : askO s m = 0) (h3 : s ≤ latM l) : aplE l s m = 2 ∧ aplM l s m = [] := by
  have hs : 0 < s := by have := (askO_ok.1 h2).1; omega
  have e : aplE l s m = 2 := by unfold aplE; rw [if_neg (fun q => q h), if_neg (fun q => q h2), any_lat l s hs, decide_eq_true h3, if_pos rfl]
  exact ⟨e, by unfold aplM; rw [if_pos (by rw [e]; decide)]⟩
theorem apl_e4 {l : List Ent} {s : Int} {m : List Opn} (h : memE l = 0) (h2 : askO s m = 0) (h3 : ¬ s ≤ latM l) (h4 : 512 < l.length + m.length) : aplE l s m = 4 ∧ aplM l s m = [] := by
  have hs : 0 < s := by have := (askO_ok.1 h2).1; omega
  have e : aplE l s m = 4 := by unfold aplE; rw [if_neg (fun q => q h), if_neg (fun q => q h2), any_lat l s hs, decide_eq_false h3, if_neg (by decide), if_pos h4]
  exact ⟨e, by unfold aplM; rw [if_pos (by rw [e]; decide)]⟩
theorem apl_e5 {l : List Ent} {s : Int} {m : List Opn} (h : memE l = 0) (h2 : askO s m = 0) (h3 : ¬ s ≤ latM l) (h4 : ¬ 512 < l.length + m.length) : aplE l s m = 0 ∧ aplM l s m = putsM l (entG s m) := by
  have hs : 0 < s := by have := (askO_ok.1 h2).1; omega
  have e : aplE l s m = 0 := by unfold aplE; rw [if_neg (fun q => q h), if_neg (fun q => q h2), any_lat l s hs, decide_eq_false h3, if_neg (by decide), if_neg h4]
  exact ⟨e, by unfold aplM; rw [if_neg (fun q => q e)]⟩

set_option maxHeartbeats 2000000 in
set_option maxRecDepth 100000 in
theorem apply_mm (a : Option Addr) (n c : Nat) (l : List Ent) (s : Int) (a2 : Option Addr) (n2 c2 : Nat) (m : List Opn) (w : World) (hrd : RdN w (.slice a n c) l) (hrm : RdO w (.slice a2 n2 c2) m) :
    Calls Try.prog 8 #[.agg #[.slice a n c], .int .i64 s, .slice a2 n2 c2] w fun e w' => ∃ av nv cv, e = .returned (.tuple #[.agg #[.slice av nv cv], .int .i64 (aplE l s m)]) ∧ OwN w' w.heap.size (.slice av nv cv) (aplM l s m) ∧ Below w.heap.size w w' := by
  have HR := hide hrd
  have HM := hide hrm
  have HN := hide hrd.len
  clear hrd hrm
  obtain ⟨w1, hw1⟩ : ∃ w1, w1 = (w.alloc (.cells #[.slice a n c] 24)).alloc (.cells #[.slice none 0 0] 24) := ⟨_, rfl⟩
  have HA_w1 := hide (show ApM w (.slice a n c) w1 by rw [hw1]; exact ApM.new w _)
  have hk1 := HA_w1.out.1.cell
  rw [hw1] at hk1
  have hck := check_mm a n c l w1 (HR.out.carry HA_w1.out.2.2)
  by_cases g1 : memE l = 0
  · rw [g1] at hck
    have HG1 := hide g1
    clear g1
    go_enter Try.func8, Try.ntmps8
    go_wp2_with fail
    rw [← hw1]
    refine hck.mono ?_
    rintro e w2 ⟨rfl, b2⟩
    have HA_w2 := hide (HA_w1.out.carry b2)
    clear hck b2 hw1 hk1
    have hen := entries_bt s a2 n2 c2 m w2 (HM.out.carry HA_w2.out.2.2)
    by_cases g2 : askO s m = 0
    · rw [g2] at hen
      have HG2 := hide g2
      clear g2
      go_wp2_with fail
      refine hen.mono ?_
      rintro e w3 ⟨a3, n3, c3, rfl, o3, b3⟩
      have HA_w3 := hide (HA_w2.out.carry b3)
      have HEG := hide (show entL s m = entG s m by unfold entL; rw [if_pos HG2.out])
      rw [HEG.out] at o3
      have HR3 := hide (OwG.rd ecN_len o3)
      have HN3 := hide (show n3 = m.length by rw [HR3.out.len, entG_len])
      have hk3 := HA_w3.out.1.cell
      clear hen o3 b3
      have hn5 : n ≤ 512 := by have := (memE_ok.1 HG1.out).1; have := HN.out; omega
      have hm5 : n3 ≤ 64 := by have := (chkO_ok.1 (askO_ok.1 HG2.out).2.2); have := HN3.out; omega
      have hla := latest_mm a n c l w3 (HR.out.carry HA_w3.out.2.2) (by omega)
      go_wp2_with fail
      refine hla.mono ?_
      rintro e w4 ⟨rfl, b4⟩
      have HA_w4 := hide (HA_w3.out.carry b4)
      have HR4 := hide (HR3.out.carry b4)
      have hk4 := HA_w4.out.1.cell
      clear hla b4 hk3 HR3
      by_cases g3 : s ≤ latM l
      · obtain ⟨q1, q2⟩ := apl_e3 HG1.out HG2.out g3
        have HE := hide q1
        have HL := hide q2
        clear q1 q2
        generalize latM l = z at *
        have hA9 := HA_w4.out
        have hc := hA9.2.1.cell
        have hf := hA9.2.1.fz
        have HB9 := hide (show Below w.heap.size w (w4.setCell ⟨w.heap.size + 1, 0, none⟩ (.slice none 0 0)) from belowX_set hA9.2.2 (Nat.le_succ _) _ _)
        have hz9 := (hA9.2.1.put (.slice none 0 0)).cell
        have HO9 := hide (show OwN (w4.setCell ⟨w.heap.size + 1, 0, none⟩ (.slice none 0 0)) w.heap.size (.slice none 0 0) (aplM l s m) from by rw [HL.out]; exact OwG.nil _ _)
        clear hA9
        go_wp2
        obtain ⟨w9, hw9⟩ : ∃ w9, w9 = w4.setCell ⟨w.heap.size + 1, 0, none⟩ (.slice none 0 0) := ⟨_, rfl⟩
        rw [← hw9] at hz9 HB9 HO9 ⊢
        clear hc hf
        refine bodyPost_ret (v := .tuple #[.agg #[.slice none 0 0], .int .i64 2]) ?_ rfl ⟨_, _, _, by rw [HE.out], HO9.out, HB9.out⟩
        clear hw9
        simp [results, Try.results8, go_sem, *]
      have HG3 := hide g3
      obtain ⟨z, hz⟩ : ∃ z, z = latM l := ⟨_, rfl⟩
      rw [← hz] at g3 ⊢
      have g3' : decide (s ≤ z) = false := by simpa using g3
      clear g3 hz
      by_cases g4 : 512 < n + n3
      · obtain ⟨q1, q2⟩ := apl_e4 HG1.out HG2.out HG3.out (by have := HN.out; have := HN3.out; omega)
        have HE := hide q1
        have HL := hide q2
        have g4' : (512 : Int) < (n : Int) + n3 := by omega
        clear q1 q2
        have hA9 := HA_w4.out
        have hc := hA9.2.1.cell
        have hf := hA9.2.1.fz
        have HB9 := hide (show Below w.heap.size w (w4.setCell ⟨w.heap.size + 1, 0, none⟩ (.slice none 0 0)) from belowX_set hA9.2.2 (Nat.le_succ _) _ _)
        have hz9 := (hA9.2.1.put (.slice none 0 0)).cell
        have HO9 := hide (show OwN (w4.setCell ⟨w.heap.size + 1, 0, none⟩ (.slice none 0 0)) w.heap.size (.slice none 0 0) (aplM l s m) from by rw [HL.out]; exact OwG.nil _ _)
        clear hA9
        go_wp2
        obtain ⟨w9, hw9⟩ : ∃ w9, w9 = w4.setCell ⟨w.heap.size + 1, 0, none⟩ (.slice none 0 0) := ⟨_, rfl⟩
        rw [← hw9] at hz9 HB9 HO9 ⊢
        clear hc hf
        refine bodyPost_ret (v := .tuple #[.agg #[.slice none 0 0], .int .i64 4]) ?_ rfl ⟨_, _, _, by rw [HE.out], HO9.out, HB9.out⟩
        clear hw9
        simp [results, Try.results8, go_sem, *]
      have g4' : decide ((512 : Int) < (n : Int) + n3) = false := by simpa using (by omega : ¬ (512 : Int) < (n : Int) + n3)
      obtain ⟨q1, q2⟩ := apl_e5 HG1.out HG2.out HG3.out (by have := HN.out; have := HN3.out; omega)
      have HE := hide q1
      have HL := hide q2
      clear q1 q2 g4
      have hwi := with_mm a n c l a3 n3 c3 (entG s m) w4 (HR.out.carry HA_w4.out.2.2) HR4.out (by rw [entG_len]; have := HN.out; have := HN3.out; omega) (fit_apl (memE_ok.1 HG1.out).2 (fun e he => by
        have := ((lat_lt l s).1 (by have := HG3.out; omega)).2
        exact this e he) HG2.out)
      go_wp2_with fail
      refine hwi.mono ?_
      rintro e w5 ⟨a5, n5, c5, rfl, o5, b5⟩
      have HA_w5 := hide (HA_w4.out.carry b5)
      have HO5 := hide (show OwN w5 w.heap.size (.slice a5 n5 c5) (aplM l s m) by rw [HL.out]; exact o5.mono HA_w4.out.2.2.size)
      clear hwi o5 b5 hk4
      have hA9 := HA_w5.out
      have hc := hA9.2.1.cell
      have hf := hA9.2.1.fz
      have HB9 := hide (show Below w.heap.size w (w5.setCell ⟨w.heap.size + 1, 0, none⟩ (.slice a5 n5 c5)) from belowX_set hA9.2.2 (Nat.le_succ _) _ _)
      have hz9 := (hA9.2.1.put (.slice a5 n5 c5)).cell
      have HO9 := hide (show OwN (w5.setCell ⟨w.heap.size + 1, 0, none⟩ (.slice a5 n5 c5)) w.heap.size (.slice a5 n5 c5) (aplM l s m) from OwN.box HO5.out hA9.2.1)
      clear hA9
      go_wp2
      obtain ⟨w9, hw9⟩ : ∃ w9, w9 = w5.setCell ⟨w.heap.size + 1, 0, none⟩ (.slice a5 n5 c5) := ⟨_, rfl⟩
      rw [← hw9] at hz9 HB9 HO9 ⊢
      clear hc hf
      refine bodyPost_ret (v := .tuple #[.agg #[.slice a5 n5 c5], .int .i64 0]) ?_ rfl ⟨_, _, _, by rw [HE.out], HO9.out, HB9.out⟩
      clear hw9
      simp [results, Try.results8, go_sem, *]
    · obtain ⟨q1, q2⟩ := apl_e2 HG1.out g2
      obtain ⟨x, hx⟩ : ∃ x, x = askO s m := ⟨_, rfl⟩
      rw [← hx] at hen g2 q1
      have g2' : (x == 0) = false := by simpa using g2
      have HE := hide q1
      have HL := hide q2
      have HEL := hide (show entL s m = [] by unfold entL; rw [if_neg (by rw [← hx]; exact g2)])
      clear hx q1 q2
      go_wp2_with fail
      refine hen.mono ?_
      rintro e w3 ⟨a3, n3, c3, rfl, o3, b3⟩
      have HA_w3 := hide (HA_w2.out.carry b3)
      clear hen o3 b3
      have hA9 := HA_w3.out
      have hc := hA9.2.1.cell
      have hf := hA9.2.1.fz
      have HB9 := hide (show Below w.heap.size w (w3.setCell ⟨w.heap.size + 1, 0, none⟩ (.slice none 0 0)) from belowX_set hA9.2.2 (Nat.le_succ _) _ _)
      have hz9 := (hA9.2.1.put (.slice none 0 0)).cell
      have HO9 := hide (show OwN (w3.setCell ⟨w.heap.size + 1, 0, none⟩ (.slice none 0 0)) w.heap.size (.slice none 0 0) (aplM l s m) from by rw [HL.out]; exact OwG.nil _ _)
      clear hA9
      go_wp2
      obtain ⟨w9, hw9⟩ : ∃ w9, w9 = w3.setCell ⟨w.heap.size + 1, 0, none⟩ (.slice none 0 0) := ⟨_, rfl⟩
      rw [← hw9] at hz9 HB9 HO9 ⊢
      clear hc hf
      refine bodyPost_ret (v := .tuple #[.agg #[.slice none 0 0], .int .i64 x]) ?_ rfl ⟨_, _, _, by rw [HE.out], HO9.out, HB9.out⟩
      clear hw9
      simp [results, Try.results8, go_sem, *]
  · obtain ⟨q1, q2⟩ := apl_e1 (s := s) (m := m) g1
    obtain ⟨x, hx⟩ : ∃ x, x = memE l := ⟨_, rfl⟩
    rw [← hx] at hck g1 q1
    have g1' : (x == 0) = false := by simpa using g1
    have HE := hide q1
    have HL := hide q2
    clear hx q1 q2
    go_enter Try.func8, Try.ntmps8
    go_wp2_with fail
    rw [← hw1]
    refine hck.mono ?_
    rintro e w2 ⟨rfl, b2⟩
    have HA_w2 := hide (HA_w1.out.carry b2)
    clear hck b2 hw1 hk1
    have hA9 := HA_w2.out
    have hc := hA9.2.1.cell
    have hf := hA9.2.1.fz
    have HB9 := hide (show Below w.heap.size w (w2.setCell ⟨w.heap.size + 1, 0, none⟩ (.slice none 0 0)) from belowX_set hA9.2.2 (Nat.le_succ _) _ _)
    have hz9 := (hA9.2.1.put (.slice none 0 0)).cell
    have HO9 := hide (show OwN (w2.setCell ⟨w.heap.size + 1, 0, none⟩ (.slice none 0 0)) w.heap.size (.slice none 0 0) (aplM l s m) from by rw [HL.out]; exact OwG.nil _ _)
    clear hA9
    go_wp2
    obtain ⟨w9, hw9⟩ : ∃ w9, w9 = w2.setCell ⟨w.heap.size + 1, 0, none⟩ (.slice none 0 0) := ⟨_, rfl⟩
    rw [← hw9] at hz9 HB9 HO9 ⊢
    clear hc hf
    refine bodyPost_ret (v := .tuple #[.agg #[.slice none 0 0], .int .i64 x]) ?_ rfl ⟨_, _, _, by rw [HE.out], HO9.out, HB9.out⟩
    clear hw9
    simp [results, Try.results8, go_sem, *]

theorem size_le : ∀ (l : List Ent), (∀ e ∈ l, entOk e = true) → sizeM l ≤ l.length * 600
  | [], _ => by simp [sizeM]
  | e :: l, h => by
    have h1 := (entOk_iff e).1 (h e List.mem_cons_self)
    have h2 := size_le l (fun x hx => h x (List.mem_cons_of_mem _ hx))
    unfold sizeM
    rw [List.length_cons]
    omega
theorem size_snoc : ∀ (l : List Ent) (e : Ent), sizeM (l ++ [e]) = sizeM l + (e.1.length + e.2.2.2.length)
  | [], e => by simp [sizeM]
  | x :: l, e => by
    have := size_snoc l e
    simp only [List.cons_append, sizeM]
    omega
theorem tup2B {a b c d : Int} (h : a = c) (k : b = d) : Ending.returned (.tuple #[.int .i64 a, .int .i64 b]) = .returned (.tuple #[.int .i64 c, .int .i64 d]) := by rw [h, k]

set_option maxHeartbeats 1000000 in
set_option maxRecDepth 100000 in
theorem size_mm (a : Option Addr) (n c : Nat) (l : List Ent) (w : World) (hrd : RdN w (.slice a n c) l) :
    Calls Try.prog 12 #[.agg #[.slice a n c]] w fun e w' => e = .returned (.tuple #[.int .i64 (sizN l), .int .i64 (memE l)]) ∧ Below w.heap.size w w' := by
  have HR := hide hrd
  have HN := hide hrd.len
  clear hrd
  obtain ⟨w1, hw1⟩ : ∃ w1, w1 = w.alloc (.cells #[.slice a n c] 24) := ⟨_, rfl⟩
  have hb1 : Below w.heap.size w w1 := by rw [hw1]; exact (Below.refl _ _).alloc (Nat.le_refl _) _
  have HM1 := hide (show MemAt w1 w.heap.size (.slice a n c) by rw [hw1]; exact MemAt.new w _)
  have hck := check_mm a n c l w1 (HR.out.carry hb1)
  by_cases g1 : memE l = 0
  · rw [g1] at hck
    have HG := hide (memE_ok.1 g1)
    have HE := hide g1
    have HS := hide (show sizN l = sizeM l by unfold sizN; rw [if_neg (fun q => q g1)])
    clear g1
    go_enter Try.func12, Try.ntmps12
    go_wp2_with fail
    rw [← hw1]
    refine hck.mono ?_
    rintro e w2 ⟨rfl, b2⟩
    have hb2 : Below w.heap.size w w2 := hb1.trans (b2.mono hb1.size)
    have hk := (HM1.out.carry b2).cell
    have hn5 : n ≤ 512 := by have := HG.out.1; have := HN.out; omega
    clear hck b2 hw1
    go_wp2
    clear hk
    go_loopw [16, 5] (fun i v wr => ∃ k : Nat, k ≤ n ∧ i = .int .i64 k ∧ ∃ z : Nat, v = .int .i64 z ∧ Hid (z = sizeM (l.take k)) ∧ Below w.heap.size w wr) (fun i _ _ => n - (intOf i).toNat)
    case atStart => exact ⟨0, Nat.zero_le _, rfl, 0, rfl, hide rfl, hb2⟩
    case round =>
      obtain ⟨k, hk, rfl, z, rfl, hz, hbel⟩ := hrel
      by_cases hlt : k < n
      · have hlt' : (k : Int) < n := by omega
        have hkl : k < l.length := by have := HN.out; omega
        obtain ⟨b, off, rfl, q0, q1, q2, q3⟩ := RdN.cells HR.out hbel k hkl
        have HU := hide (show sizeM (l.take (k + 1)) = z + ((l[k]).1.length + (l[k]).2.2.2.length) by rw [List.take_succ_eq_append_getElem hkl, size_snoc, ← hz.out])
        have hzl : z ≤ 600000 := by
          have h1 := size_le (l.take k) (fun e he => HG.out.2.1 e (List.mem_of_mem_take he))
          rw [← hz.out, List.length_take] at h1
          omega
        have HOK := hide ((entOk_iff _).1 (HG.out.2.1 _ (List.getElem_mem hkl)))
        obtain ⟨o, ho⟩ : ∃ o, o = l[k] := ⟨_, rfl⟩
        rw [← ho] at q0 q1 q2 q3 HU HOK
        clear ho hz
        obtain ⟨K, S, D, V⟩ := o
        simp only at q0 q1 q2 q3 HU
        have hs1 := bs_size K
        have hs2 := bs_size V
        have hkv : K.length ≤ 1000 ∧ V.length ≤ 1000 := by have := HOK.out; simp only at this; omega
        obtain ⟨hk1, hk2⟩ := hkv
        obtain ⟨kl, hkl'⟩ : ∃ kl, kl = K.length := ⟨_, rfl⟩
        obtain ⟨vl, hvl'⟩ : ∃ vl, vl = V.length := ⟨_, rfl⟩
        rw [← hkl'] at hs1 hk1 HU
        rw [← hvl'] at hs2 hk2 HU
        clear hkl' hvl'
        obtain ⟨w2, hw2⟩ : ∃ w2, w2 = wr.alloc (.cells #[.string (bs K), .int .i64 S, .bool D, .string (bs V)] 33) := ⟨_, rfl⟩
        have hb3 : Below w.heap.size w w2 := by rw [hw2]; exact hbel.trans (((Below.refl _ _).alloc (Nat.le_refl _) _).mono hbel.size)
        have hw1 : IntKind.i64.wrap ((kl : Int) + vl) = (kl : Int) + vl := by rw [IntKind.wrap_i64]; omega
        have hw3 : IntKind.i64.wrap ((z : Int) + ((kl : Int) + vl)) = (z : Int) + ((kl : Int) + vl) := by rw [IntKind.wrap_i64]; omega
        go_wp2
        go_roundw
        case rel => exact ⟨k + 1, by omega, by go_num, z + (kl + vl), by go_num, hide HU.out.symm, by rw [← hw2]; exact hb3⟩
        case measure => simp only [intOf]; omega
      · have hd : decide ((k : Int) < n) = false := by simpa using (by omega : ¬ (k : Int) < n)
        have HZ := hide (show ((z : Nat) : Int) = (sizN l : Nat) by
          rw [hz.out, HS.out, List.take_of_length_le (by have := HN.out; omega)])
        clear hz
        go_wp2
        go_ret2
        exact ⟨tup2B HZ.out HE.out.symm, hbel⟩
  · have HS := hide (show sizN l = 0 by unfold sizN; rw [if_pos g1])
    obtain ⟨x, hx⟩ : ∃ x, x = memE l := ⟨_, rfl⟩
    have HX := hide hx
    rw [← hx] at hck g1
    have g1' : (x == 0) = false := by simpa using g1
    clear hx
    go_enter Try.func12, Try.ntmps12
    go_wp2_with fail
    rw [← hw1]
    refine hck.mono ?_
    rintro e w2 ⟨rfl, b2⟩
    have hb2 : Below w.heap.size w w2 := hb1.trans (b2.mono hb1.size)
    clear hck b2 hw1
    go_wp2
    go_ret2
    exact ⟨tup2B (by rw [HS.out]; rfl) HX.out, hb2⟩
end Go.Proofs.Ytoedfbceapfimaa

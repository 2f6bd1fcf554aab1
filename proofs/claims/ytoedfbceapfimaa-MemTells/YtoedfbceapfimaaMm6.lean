/-
  What mem.Apply and mem.Size do.
-/
import Derived.Test.YtoedfbceapfimaaMm5
namespace Go.Proofs.Ytoedfbceapfimaa
open Go.RowKit
set_option linter.unusedVariables false
set_option linter.unusedSimpArgs false

theorem size_le : ∀ (l : List Ent), (∀ e ∈ l, entOk e = true) → sizeM l ≤ l.length * 600
  | [], _ => by simp [sizeM]
  | e :: l, h => by
    have h1 := (entOk_iff e).1 (h e List.mem_cons_self)
    have h2 := size_le l (fun x hx => h x (List.mem_cons_of_mem _ hx))
    unfold sizeM
    rw [List.length_cons]
    omega
theorem size_snoc : ∀ (l : List Ent) (e : Ent), sizeM (l ++ [e]) = sizeM l + (e.1.length + e.2.2.2.length)
  | [], e => by simp [sizeM]
  | x :: l, e => by
    have := size_snoc l e
    simp only [List.cons_append, sizeM]
    omega
theorem tup2B {a b c d : Int} (h : a = c) (k : b = d) : Ending.returned (.tuple #[.int .i64 a, .int .i64 b]) = .returned (.tuple #[.int .i64 c, .int .i64 d]) := by rw [h, k]

set_option maxHeartbeats 1000000 in
set_option maxRecDepth 100000 in
theorem size_mm (a : Option Addr) (n c : Nat) (l : List Ent) (w : World) (hrd : RdN w (.slice a n c) l) :
    Calls Try.prog 12 #[.agg #[.slice a n c]] w fun e w' => e = .returned (.tuple #[.int .i64 (sizN l), .int .i64 (memE l)]) ∧ Below w.heap.size w w' := by
  have HR := hide hrd
  have HN := hide hrd.len
  clear hrd
  obtain ⟨w1, hw1⟩ : ∃ w1, w1 = w.alloc (.cells #[.slice a n c] 24) := ⟨_, rfl⟩
  have hb1 : Below w.heap.size w w1 := by rw [hw1]; exact (Below.refl _ _).alloc (Nat.le_refl _) _
  have HM1 := hide (show MemAt w1 w.heap.size (.slice a n c) by rw [hw1]; exact MemAt.new w _)
  have hck := check_mm a n c l w1 (HR.out.carry hb1)
  by_cases g1 : memE l = 0
  · rw [g1] at hck
    have HG := hide (memE_ok.1 g1)
    have HE := hide g1
    have HS := hide (show sizN l = sizeM l by unfold sizN; rw [if_neg (fun q => q g1)])
    clear g1
    go_enter Try.func12, Try.ntmps12
    go_wp2_with fail
    rw [← hw1]
    refine hck.mono ?_
    rintro e w2 ⟨rfl, b2⟩
    have hb2 : Below w.heap.size w w2 := hb1.trans (b2.mono hb1.size)
    have hk := (HM1.out.carry b2).cell
    have hn5 : n ≤ 512 := by have := HG.out.1; have := HN.out; omega
    clear hck b2 hw1
    go_wp2
    clear hk
    go_loopw [16, 5] (fun i v wr => ∃ k : Nat, k ≤ n ∧ i = .int .i64 k ∧ ∃ z : Nat, v = .int .i64 z ∧ Hid (z = sizeM (l.take k)) ∧ Below w.heap.size w wr) (fun i _ _ => n - (intOf i).toNat)
    case atStart => exact ⟨0, Nat.zero_le _, rfl, 0, rfl, hide rfl, hb2⟩
    case round =>
      obtain ⟨k, hk, rfl, z, rfl, hz, hbel⟩ := hrel
      by_cases hlt : k < n
      · have hlt' : (k : Int) < n := by omega
        have hkl : k < l.length := by have := HN.out; omega
        obtain ⟨b, off, rfl, q0, q1, q2, q3⟩ := RdN.cells HR.out hbel k hkl
        have HU := hide (show sizeM (l.take (k + 1)) = z + ((l[k]).1.length + (l[k]).2.2.2.length) by rw [List.take_succ_eq_append_getElem hkl, size_snoc, ← hz.out])
        have hzl : z ≤ 600000 := by
          have h1 := size_le (l.take k) (fun e he => HG.out.2.1 e (List.mem_of_mem_take he))
          rw [← hz.out, List.length_take] at h1
          omega
        have HOK := hide ((entOk_iff _).1 (HG.out.2.1 _ (List.getElem_mem hkl)))
        obtain ⟨o, ho⟩ : ∃ o, o = l[k] := ⟨_, rfl⟩
        rw [← ho] at q0 q1 q2 q3 HU HOK
        clear ho hz
        obtain ⟨K, S, D, V⟩ := o
        simp only at q0 q1 q2 q3 HU
        have hs1 := bs_size K
        have hs2 := bs_size V
        have hkv : K.length ≤ 1000 ∧ V.length ≤ 1000 := by have := HOK.out; simp only at this; omega
        obtain ⟨hk1, hk2⟩ := hkv
        obtain ⟨kl, hkl'⟩ : ∃ kl, kl = K.length := ⟨_, rfl⟩
        obtain ⟨vl, hvl'⟩ : ∃ vl, vl = V.length := ⟨_, rfl⟩
        rw [← hkl'] at hs1 hk1 HU
        rw [← hvl'] at hs2 hk2 HU
        clear hkl' hvl'
        obtain ⟨w2, hw2⟩ : ∃ w2, w2 = wr.alloc (.cells #[.string (bs K), .int .i64 S, .bool D, .string (bs V)] 33) := ⟨_, rfl⟩
        have hb3 : Below w.heap.size w w2 := by rw [hw2]; exact hbel.trans (((Below.refl _ _).alloc (Nat.le_refl _) _).mono hbel.size)
        have hw1 : IntKind.i64.wrap ((kl : Int) + vl) = (kl : Int) + vl := by rw [IntKind.wrap_i64]; omega
        have hw3 : IntKind.i64.wrap ((z : Int) + ((kl : Int) + vl)) = (z : Int) + ((kl : Int) + vl) := by rw [IntKind.wrap_i64]; omega
        go_wp2
        go_roundw
        case rel => exact ⟨k + 1, by omega, by go_num, z + (kl + vl), by go_num, hide HU.out.symm, by rw [← hw2]; exact hb3⟩
        case measure => simp only [intOf]; omega
      · have hd : decide ((k : Int) < n) = false := by simpa using (by omega : ¬ (k : Int) < n)
        have HZ := hide (show ((z : Nat) : Int) = (sizN l : Nat) by
          rw [hz.out, HS.out, List.take_of_length_le (by have := HN.out; omega)])
        clear hz
        go_wp2
        go_ret2
        exact ⟨tup2B HZ.out HE.out.symm, hbel⟩
  · have HS := hide (show sizN l = 0 by unfold sizN; rw [if_pos g1])
    obtain ⟨x, hx⟩ : ∃ x, x = memE l := ⟨_, rfl⟩
    have HX := hide hx
    rw [← hx] at hck g1
    have g1' : (x == 0) = false := by simpa using g1
    clear hx
    go_enter Try.func12, Try.ntmps12
    go_wp2_with fail
    rw [← hw1]
    refine hck.mono ?_
    rintro e w2 ⟨rfl, b2⟩
    have hb2 : Below w.heap.size w w2 := hb1.trans (b2.mono hb1.size)
    clear hck b2 hw1
    go_wp2
    go_ret2
    exact ⟨tup2B (by rw [HS.out]; rfl) HX.out, hb2⟩
end Go.Proofs.Ytoedfbceapfimaa

/-
  What dev's left and lay do: the blocks that writes leave, by a map; and how they come to last.
-/
import Derived.Test.YtmddobjkkladbaaDMap
namespace Go.Proofs.Ytmddobjkkladbaa
open Go.RowKit
open Go.Maps (Keyed)
set_option linter.unusedVariables false
set_option linter.unusedSimpArgs false

theorem lastP_snoc (n : Int) (l : List Pu) (p : Pu) : lastP n (l ++ [p]) = if n = p.1 then some p.2 else lastP n l := by
  induction l with
  | nil =>
    by_cases e : p.1 = n
    · simp [lastP, e]
    · have e' : ¬ n = p.1 := fun h => e h.symm
      simp [lastP, e, e']
  | cons q l ih =>
    rw [List.cons_append]
    show (match lastP n (l ++ [p]) with | some b => some b | none => if q.1 = n then some q.2 else none) = _
    rw [ih]
    by_cases e : n = p.1
    · simp [e]
    · simp only [e, if_false]; rfl

set_option maxHeartbeats 400000 in
set_option maxRecDepth 100000 in
theorem left_any (a : Option Addr) (n c : Nat) (l : List Pu) (w : World) (hn : n = l.length) (hl : l.length ≤ 900000) (hp : ∀ p ∈ l, 0 ≤ p.1 ∧ p.1 < 1000000 ∧ p.2.length = 128) (hrd : RdW w (.slice a n c) l) :
    Calls Try.prog 41 #[.slice a n c] w fun e w' => ∃ b, e = .returned (.map (some b)) ∧ Bm w' w.heap.size b n (fun k => lastP k l) ∧ Below w.heap.size w w' := by
  have HC := hide hrd
  have HM := hide hn
  have HP := hide hp
  have hnn : n ≤ 900000 := by omega
  clear hrd hn hl hp
  have hmm := @run_makeMap Try.prog
  go_enter Try.func41, Try.ntmps41
  go_wp2
  clear hmm
  go_loopw [9] (fun i wr => ∃ k : Nat, k ≤ n ∧ i = .int .i64 k ∧ Hid (Bm wr w.heap.size w.heap.size k (fun x => lastP x (l.take k))) ∧ Below w.heap.size w wr) (fun i _ => n - (intOf i).toNat)
  case atStart => exact ⟨0, Nat.zero_le _, rfl, Bm.made w, (Below.refl _ _).alloc (Nat.le_refl _) _⟩
  case round =>
    obtain ⟨k, hk, rfl, hm, hbel⟩ := hrel
    by_cases hlt : k < n
    · have hlt' : (k : Int) < n := by omega
      have hkl : k < l.length := by have := HM.out; omega
      obtain ⟨b, off, rfl, q0, x, m, d, q1, q2, q3⟩ := (HC.out.carry hbel).at k hkl
      obtain ⟨p1, p2, p3⟩ := HP.out _ (List.getElem_mem hkl)
      have HQ := hide q2
      have HX := hide (q3.trans p3)
      have H1 := hide p1
      have H2 := hide p2
      have H3 := hide p3
      clear q2 q3 p1 p2 p3
      go_wp2_with fail
      refine (putM_any w.heap.size w.heap.size k (fun x => lastP x (l.take k)) (l[k]).1 x m d (l[k]).2 _ (hm.out.carry ((Below.refl _ _).alloc (Nat.le_refl _) _)) (by omega) H1.out H2.out H3.out HX.out (HQ.out.alloc _)).mono ?_
      rintro e w2 ⟨rfl, hm2, hb2⟩
      have HM2 := hide hm2
      have hb3 : Below w.heap.size w w2 := (hbel.alloc hbel.size _).trans hb2
      clear hm2 hb2
      go_wp2
      go_roundw
      case rel =>
        refine ⟨k + 1, by omega, by go_num, hide ?_, hb3⟩
        have e : (fun x => lastP x (l.take (k + 1))) = fun x => if x = (l[k]).1 then some (l[k]).2 else lastP x (l.take k) := by
          funext x
          rw [List.take_succ_eq_append_getElem hkl, lastP_snoc]
        rw [e]
        exact HM2.out
      case measure => simp [intOf] <;> omega
    · have hlt' : decide ((k : Int) < n) = false := by simpa using (by omega : ¬ (k : Int) < n)
      obtain rfl : k = n := by omega
      go_wp2
      go_ret
      refine ⟨_, rfl, ?_, hbel⟩
      have := hm.out
      rw [List.take_of_length_le (by have := HM.out; omega)] at this
      exact this

/-! ### blocks of data -/
theorem blk_splice_same (data l : List UInt8) (n : Nat) (hl : l.length = 128) (hn : 128 * n + 128 ≤ data.length) : blk (splice data (n * 128) l) n = l := by
  unfold blk splice
  have e : (data.take (n * 128)).length = 128 * n := by rw [List.length_take]; omega
  rw [List.drop_append_of_le_length (by omega), List.drop_of_length_le (by omega), List.nil_append, List.take_append_of_le_length (by omega), List.take_of_length_le (by omega)]
theorem blk_splice_other (data l : List UInt8) (n n' : Nat) (hl : l.length = 128) (hn : 128 * n + 128 ≤ data.length) (hne : n' ≠ n) : blk (splice data (n * 128) l) n' = blk data n' := by
  unfold blk splice
  apply List.ext_getElem?
  intro j
  simp only [List.getElem?_take, List.getElem?_drop, List.getElem?_append, List.length_take]
  by_cases hj : j < 128
  · simp only [hj, if_true]
    have hm : min (n * 128) data.length = n * 128 := by omega
    rw [hm]
    by_cases h1 : 128 * n' + j < n * 128
    · simp [h1]
    · rw [if_neg h1, if_neg (by omega)]
      congr 1
      omega
  · simp [hj]
theorem length_splice8 (data l : List UInt8) (n : Nat) (hl : l.length = 128) (hn : 128 * n + 128 ≤ data.length) : (splice data (n * 128) l).length = data.length := length_splice _ _ _ (by omega)
/-- Data of whole blocks are what their blocks are. -/
theorem blk_ext {a b : List UInt8} (k : Nat) (ha : a.length = 128 * k) (hb : b.length = 128 * k) (h : ∀ n, n < k → blk a n = blk b n) : a = b := by
  apply List.ext_getElem?
  intro j
  by_cases hj : j < 128 * k
  · have := congrArg (fun x => x[j % 128]?) (h (j / 128) (by omega))
    simp only [blk, List.getElem?_take, List.getElem?_drop] at this
    rw [if_pos (by omega), if_pos (by omega), show 128 * (j / 128) + j % 128 = j by omega] at this
    exact this
  · rw [List.getElem?_eq_none (by omega), List.getElem?_eq_none (by omega)]
theorem setB_eq (data : List UInt8) (p : Pu) (hl : p.2.length = 128) : setB data p = splice data (p.1.toNat * 128) p.2 := by
  unfold setB splice; rw [hl, Nat.mul_comm]
theorem setBs_len (data : List UInt8) : ∀ (l : List Pu) (d : List UInt8), d.length = data.length → (∀ p ∈ l, 0 ≤ p.1 ∧ 128 * p.1.toNat + 128 ≤ data.length ∧ p.2.length = 128) → (setBs d l).length = data.length
  | [], d, hd, _ => hd
  | p :: l, d, hd, h => by
    obtain ⟨h1, h2, h3⟩ := h p (List.mem_cons_self ..)
    refine setBs_len data l (setB d p) ?_ (fun q hq => h q (List.mem_cons_of_mem _ hq))
    rw [setB_eq d p h3, length_splice8 _ _ _ h3 (by omega), hd]
theorem blk_setBs (data : List UInt8) (n : Nat) : ∀ (l : List Pu) (d : List UInt8), d.length = data.length → (∀ p ∈ l, 0 ≤ p.1 ∧ 128 * p.1.toNat + 128 ≤ data.length ∧ p.2.length = 128) → blk (setBs d l) n = (lastP n l).getD (blk d n)
  | [], d, hd, _ => rfl
  | p :: l, d, hd, h => by
    obtain ⟨h1, h2, h3⟩ := h p (List.mem_cons_self ..)
    have hlen : (setB d p).length = data.length := by rw [setB_eq d p h3, length_splice8 _ _ _ h3 (by omega), hd]
    have ih := blk_setBs data n l (setB d p) hlen (fun q hq => h q (List.mem_cons_of_mem _ hq))
    have e1 : setBs d (p :: l) = setBs (setB d p) l := rfl
    rw [e1, ih]
    have e2 : lastP n (p :: l) = (match lastP n l with | some b => some b | none => if p.1 = n then some p.2 else none) := rfl
    rw [e2]
    cases e : lastP n l with
    | some b => rfl
    | none =>
      show blk (setB d p) n = _
      rw [setB_eq d p h3]
      by_cases hp : p.1 = n
      · rw [if_pos hp]
        have : p.1.toNat = n := by omega
        rw [this]
        exact blk_splice_same d p.2 n h3 (by omega)
      · rw [if_neg hp]
        exact blk_splice_other d p.2 p.1.toNat n h3 (by omega) (by omega)

end Go.Proofs.Ytmddobjkkladbaa

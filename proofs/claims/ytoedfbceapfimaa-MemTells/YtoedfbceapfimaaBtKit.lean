/-
  Rows of operations and entries; what batch.mayBe, batch.Check and the document's Op and Check do.
-/
import Derived.Test.YtoedfbceapfimaaRowG
import Derived.Test.YtoedfbceapfimaaMathBt
import Derived.Test.YtoedfbceapfimaaRows
import Derived.Test.YtoedfbceapfimaaKit
import Derived.WalkKit
import Derived.KernelRfl
import Derived.WalkSpells
import Derived.WalkLawsBesides
import Derived.Test.YtoedfbceapfimaaMathRd
import Derived.Deep.QuietTactic
import Derived.BigQuiet
import Derived.Deep.RegionHeld3
import Derived.Lib.SliceRun
import Derived.Laws.StructEq
namespace Go.Proofs.Ytoedfbceapfimaa
open Go.RowKit
set_option linter.unusedVariables false
set_option linter.unusedSimpArgs false

def ecO (o : Opn) : List Value := [.string (bs o.1), .bool o.2.1, .string (bs o.2.2)]
def ecN (e : Ent) : List Value := [.string (bs e.1), .int .i64 e.2.1, .bool e.2.2.1, .string (bs e.2.2.2)]
theorem ecN_len (e : Ent) : (ecN e).length = 4 := rfl
theorem ecN_one (e : Ent) : ∀ u ∈ ecN e, u.oneCell' = true := by
  intro u hu
  simp [ecN] at hu
  rcases hu with rfl | rfl | rfl | rfl <;> rfl
abbrev RdO := RdG 3 ecO
abbrev RdN := RdG 4 ecN
abbrev OwN := OwG 4 ecN 33
theorem Try.infoEn : (Try.prog.info? 33).map (fun i => (i.zero, i.size, i.bytes)) = some (some (.agg #[.string ByteArray.empty, .int .i64 0, .bool false, .string ByteArray.empty]), 4, 48) := by kernel_rfl
theorem RdO.cells {w w' : World} {a : Option Addr} {n c : Nat} {l : List Opn} (h : RdO w (.slice a n c) l) (hb : Below w.heap.size w w') (j : Nat) (hj : j < l.length) :
    ∃ b off, a = some ⟨b, off, none⟩ ∧ w'.cell? ⟨b, off + j * 3, none⟩ = some (.string (bs (l[j]).1)) ∧ w'.cell? ⟨b, off + j * 3 + 1, none⟩ = some (.bool (l[j]).2.1) ∧ w'.cell? ⟨b, off + j * 3 + 2, none⟩ = some (.string (bs (l[j]).2.2)) := by
  obtain ⟨b, off, e, hc⟩ := h.atB hb j hj
  exact ⟨b, off, e, hc 0 _ rfl, hc 1 _ rfl, hc 2 _ rfl⟩
theorem RdN.cells {w w' : World} {a : Option Addr} {n c : Nat} {l : List Ent} (h : RdN w (.slice a n c) l) (hb : Below w.heap.size w w') (j : Nat) (hj : j < l.length) :
    ∃ b off, a = some ⟨b, off, none⟩ ∧ w'.cell? ⟨b, off + j * 4, none⟩ = some (.string (bs (l[j]).1)) ∧ w'.cell? ⟨b, off + j * 4 + 1, none⟩ = some (.int .i64 (l[j]).2.1) ∧ w'.cell? ⟨b, off + j * 4 + 2, none⟩ = some (.bool (l[j]).2.2.1) ∧ w'.cell? ⟨b, off + j * 4 + 3, none⟩ = some (.string (bs (l[j]).2.2.2)) := by
  obtain ⟨b, off, e, hc⟩ := h.atB hb j hj
  exact ⟨b, off, e, hc 0 _ rfl, hc 1 _ rfl, hc 2 _ rfl, hc 3 _ rfl⟩
theorem ret_boolB {a b : Bool} (h : a = b) : Ending.returned (.bool a) = .returned (.bool b) := by rw [h]
theorem ret_i64B {a b : Int} (h : a = b) : Ending.returned (.int .i64 a) = .returned (.int .i64 b) := by rw [h]
theorem bs_emp (l : List UInt8) : ((bs l).toList == []) = decide (l = []) := by
  rw [ByteArray.toList_eq, bs_toList]; cases l <;> rfl

set_option maxHeartbeats 400000 in
set_option maxRecDepth 100000 in
theorem mayBe_bt (o : Opn) (w : World) :
    Calls Try.prog 53 #[.agg #[.string (bs o.1), .bool o.2.1, .string (bs o.2.2)]] w fun e w' => e = .returned (.bool (opOk o)) ∧ Below w.heap.size w w' := by
  obtain ⟨k, d, v⟩ := o
  have hs1 := bs_size k
  have hs2 := bs_size v
  have he := bs_emp v
  simp only
  go_enter Try.func53, Try.ntmps53
  cases d
  all_goals go_wp2
  all_goals (go_ret; refine ⟨ret_boolB ?_, (Below.refl _ _).alloc (Nat.le_refl _) _⟩; rw [Bool.eq_iff_iff, opOk_iff]; simp <;> first | omega | (intro h; first | omega | (refine ⟨?_, ?_⟩ <;> omega)) | (constructor; (intro h; exact ⟨by omega, by omega, by omega, h⟩); (intro h; exact h.2.2.2)))

set_option maxHeartbeats 1000000 in
set_option maxRecDepth 100000 in
theorem check_bt (a : Option Addr) (n c : Nat) (l : List Opn) (w : World) (hrd : RdO w (.slice a n c) l) :
    Calls Try.prog 47 #[.slice a n c] w fun e w' => e = .returned (.int .i64 (chkO l)) ∧ Below w.heap.size w w' := by
  have hn := hrd.len
  have HR := hide hrd
  have HN := hide hn
  clear hrd hn
  by_cases hm : n < 1 ∨ 64 < n
  · have HC := hide (show chkO l = 4 by unfold chkO; rw [if_pos (by have := HN.out; omega)])
    go_enter Try.func47, Try.ntmps47
    rcases hm with hm | hm
    · have hm' : (n : Int) < 1 := by omega
      go_wp2
      go_ret
      exact ⟨ret_i64B HC.out.symm, Below.refl _ _⟩
    · have hm' : (64 : Int) < n := by omega
      have hm2 : decide ((n : Int) < 1) = false := by simpa using (by omega : ¬ (n : Int) < 1)
      go_wp2
      go_ret
      exact ⟨ret_i64B HC.out.symm, Below.refl _ _⟩
  · have hm1 : decide ((n : Int) < 1) = false := by simpa using (by omega : ¬ (n : Int) < 1)
    have hm2 : decide ((64 : Int) < n) = false := by simpa using (by omega : ¬ (64 : Int) < n)
    have hm3 : n ≤ 64 := by omega
    have HC := hide (show chkO l = if l.all opOk then 0 else 8 by unfold chkO; rw [if_neg (by have := HN.out; omega)])
    clear hm
    go_enter Try.func47, Try.ntmps47
    go_wp2
    clear hm1 hm2
    go_loopw [15] (fun i wr => ∃ k : Nat, k ≤ n ∧ i = .int .i64 k ∧ Hid ((l.take k).all opOk = true) ∧ Below w.heap.size w wr) (fun i _ => n - (intOf i).toNat)
    case atStart => exact ⟨0, Nat.zero_le _, rfl, hide rfl, Below.refl _ _⟩
    case round =>
      obtain ⟨k, hk, rfl, hall, hbel⟩ := hrel
      by_cases hlt : k < n
      · have hlt' : (k : Int) < n := by omega
        have hkl : k < l.length := by have := HN.out; omega
        obtain ⟨b, off, rfl, q0, q1, q2⟩ := RdO.cells HR.out hbel k hkl
        have HT := hide (show (l.take (k + 1)).all opOk = opOk l[k] by rw [List.take_succ_eq_append_getElem hkl, List.all_append, hall.out]; simp)
        have HA := hide (show opOk l[k] = false → l.all opOk = false from fun h => by
          rw [List.all_eq_false]; exact ⟨_, List.getElem_mem hkl, by rw [h]; decide⟩)
        obtain ⟨o, ho⟩ : ∃ o, o = l[k] := ⟨_, rfl⟩
        rw [← ho] at q0 q1 q2 HT HA
        clear ho
        obtain ⟨w2, hw2⟩ : ∃ w2, w2 = wr.alloc (.cells #[.string (bs o.1), .bool o.2.1, .string (bs o.2.2)] 30) := ⟨_, rfl⟩
        have hb2 : Below w.heap.size w w2 := by rw [hw2]; exact hbel.trans (((Below.refl _ _).alloc (Nat.le_refl _) _).mono hbel.size)
        go_wp2_with fail
        rw [← hw2]
        refine (mayBe_bt o w2).mono ?_
        rintro e w3 ⟨rfl, hb3⟩
        have hb4 : Below w.heap.size w w3 := hb2.trans (hb3.mono hb2.size)
        clear hw2 hb2 hb3 q0 q1 q2 hbel
        cases hok : opOk o
        · go_wp2
          go_ret
          exact ⟨ret_i64B (by rw [HC.out, HA.out hok]; rfl), hb4⟩
        · go_wp2
          go_roundw
          case rel => exact ⟨k + 1, by omega, by go_num, hide (by rw [HT.out]; exact hok), hb4⟩
          case measure => simp only [intOf]; omega
      · have hd : decide ((k : Int) < n) = false := by simpa using (by omega : ¬ (k : Int) < n)
        have HE := hide (show chkO l = 0 by
          have h1 := hall.out
          rw [List.take_of_length_le (by have := HN.out; omega)] at h1
          rw [HC.out, if_pos h1])
        go_wp2
        go_ret
        exact ⟨ret_i64B HE.out.symm, hbel⟩

end Go.Proofs.Ytoedfbceapfimaa

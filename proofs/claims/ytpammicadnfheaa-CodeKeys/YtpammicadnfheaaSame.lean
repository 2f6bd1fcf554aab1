/-
  What the document's SameParts does: it tells whether two lists of parts are the same.
-/
import Derived.Test.YtpammicadnfheaaParts2
import Derived.Laws.StructEq
namespace Go.Proofs.Ytpammicadnfheaa
open Go.RowKit
set_option linter.unusedVariables false
set_option linter.unusedSimpArgs false

theorem Try.fieldsP : (Try.prog.fieldsOf 32).toList.map (fun f => (f.type, f.offset, f.name == "_")) = [(4, 0, false), (22, 1, false), (9, 2, false)] := by kernel_rfl
theorem run_equal_part (w : World) (p q : Pt) : (Op.equalIn 10000 32 (.agg #[.bool p.1, .int .u64 p.2.1, .string (bs p.2.2)]) (.agg #[.bool q.1, .int .u64 q.2.1, .string (bs q.2.2)])).run Try.prog w = .ok (decide (p = q)) w := by
  rw [run_equalIn_struct w 9999 32 _ _ (by kernel_rfl) (by kernel_rfl)]
  have hf := Try.fieldsP
  generalize (Try.prog.fieldsOf 32).toList = fs at hf
  rcases fs with _ | ⟨f0, _ | ⟨f1, _ | ⟨f2, _ | ⟨f3, fs⟩⟩⟩⟩
  · simp at hf
  · simp at hf
  · simp at hf
  · simp only [List.map_cons, List.map_nil, List.cons.injEq, Prod.mk.injEq, and_true] at hf
    obtain ⟨⟨t0, o0, n0⟩, ⟨t1, o1, n1⟩, ⟨t2, o2, n2⟩⟩ := hf
    have n0' : f0.name ≠ "_" := by simpa using n0
    have n1' : f1.name ≠ "_" := by simpa using n1
    have n2' : f2.name ≠ "_" := by simpa using n2
    simp only [Op.eqFields, n0', n1', n2', ne_eq, not_false_eq_true, if_true, t0, t1, t2, o0, o1, o2]
    simp [go_sem]
    obtain ⟨a, n, s⟩ := p
    obtain ⟨a', n', s'⟩ := q
    rw [ByteArray.toList_eq, ByteArray.toList_eq, bs_toList, bs_toList]
    simp only [Prod.mk.injEq]
    by_cases h1 : a = a' <;> by_cases h2 : n = n' <;> by_cases h3 : s = s' <;> simp [h1, h2, h3] <;> omega
  · simp at hf

/-- Where the parts of a list lie. -/
def Lie (w : World) (b off : Nat) (l : List Pt) : Prop := ∀ j, (h : j < l.length) →
    w.cell? ⟨b, off + j * 3, none⟩ = some (.bool (l[j]).1) ∧ w.cell? ⟨b, off + j * 3 + 1, none⟩ = some (.int .u64 (l[j]).2.1) ∧ w.cell? ⟨b, off + j * 3 + 2, none⟩ = some (.string (bs (l[j]).2.2)) ∧
    (l[j]).2.1 < 18446744073709551616 ∧ (l[j]).2.2.length ≤ maxLen

set_option maxHeartbeats 400000 in
set_option maxRecDepth 100000 in
theorem same_row (b off c b' off' c' : Nat) (l l' : List Pt) (w : World) (hlen : l.length = l'.length) (hll : l.length ≤ 1000000) (hl : Lie w b off l) (hl' : Lie w b' off' l') :
    Calls Try.prog 27 #[.slice (some ⟨b, off, none⟩) l.length c, .slice (some ⟨b', off', none⟩) l'.length c'] w fun e w' => e = .returned (.bool (decide (l = l'))) ∧ ∃ n, w' = w.drewN n := by
  have HL := hide hl
  have HL' := hide hl'
  clear hl hl'
  rw [← hlen]
  have HN := hide hlen
  clear hlen
  go_enter Try.func27, Try.ntmps27
  go_wp2
  go_loopw [5] (fun i wr => ∃ (k n : Nat), k ≤ l.length ∧ i = .int .i64 k ∧ l.take k = l'.take k ∧ wr = w.drewN n) (fun i _ => l.length - (intOf i).toNat)
  case atStart => exact ⟨0, 0, Nat.zero_le _, rfl, rfl, rfl⟩
  case round =>
    obtain ⟨k, n, hk, rfl, htk, rfl⟩ := hrel
    have HT := hide htk
    clear htk
    by_cases hlt : k < l.length
    · obtain ⟨c0, c1, c2, h3, _⟩ := HL.out k hlt
      obtain ⟨d0, d1, d2, h3', _⟩ := HL'.out k (by have := HN.out; omega)
      obtain ⟨⟨t, m, s⟩, hp⟩ : ∃ p : Pt, l[k] = p := ⟨_, rfl⟩
      obtain ⟨⟨t', m', s'⟩, hp'⟩ : ∃ p : Pt, l'[k]'(by have := HN.out; omega) = p := ⟨_, rfl⟩
      have HP := hide hp
      have HP' := hide hp'
      rw [hp] at c0 c1 c2 h3
      rw [hp'] at d0 d1 d2 h3'
      clear hp hp'
      dsimp only at c0 c1 c2 h3 d0 d1 d2 h3'
      have hlt' : (k : Int) < l.length := by omega
      have heg : ∀ op x y xs ys wx, (eqGuard op 32 x y (.agg xs) (.agg ys)).run Try.prog wx = .ok () wx := fun op x y xs ys wx => run_eqGuard_agg wx op 32 x y xs ys (by kernel_rfl)
      have hne : ∀ wx, (binOp .neq 32 (.agg #[.bool t, .int .u64 m, .string (bs s)]) (.agg #[.bool t', .int .u64 m', .string (bs s')])).run Try.prog wx = .ok (.bool (!decide (((t, m, s) : Pt) = (t', m', s')))) wx := fun wx => by
        rw [run_neq_struct, run_equal_part wx (t, m, s) (t', m', s')]; rfl
      have hdd := rfl (a := decide (((t, m, s) : Pt) = (t', m', s')))
      by_cases hd : ((t, m, s) : Pt) = (t', m', s')
      · have hne' : ∀ wx, (binOp .neq 32 (.agg #[.bool t, .int .u64 m, .string (bs s)]) (.agg #[.bool t', .int .u64 m', .string (bs s')])).run Try.prog wx = .ok (.bool false) wx := fun wx => by rw [hne wx, decide_eq_true hd]; rfl
        have HD := hide hd
        clear hne hdd hd
        go_wp2
        go_quiet (fail)
        go_wp2
        go_roundw
        case rel => exact ⟨k + 1, n + nq, by omega, by go_num, by rw [List.take_succ_eq_append_getElem hlt, List.take_succ_eq_append_getElem (by have := HN.out; omega), HT.out, HP.out, HP'.out, HD.out], rfl⟩
        case measure => simp [intOf] <;> omega
      · have hne' : ∀ wx, (binOp .neq 32 (.agg #[.bool t, .int .u64 m, .string (bs s)]) (.agg #[.bool t', .int .u64 m', .string (bs s')])).run Try.prog wx = .ok (.bool true) wx := fun wx => by rw [hne wx, decide_eq_false hd]; rfl
        have HD := hide hd
        clear hne hdd hd
        go_wp2
        go_quiet (fail)
        go_wp2
        go_ret
        refine ⟨ret_bool ?_, ⟨n + nq, World.drewN_drewN _ _ _⟩⟩
        rw [decide_eq_false]
        intro e
        apply HD.out
        rw [← HP.out, ← HP'.out]
        simp only [e]
    · go_wp2
      go_ret
      have e : l = l' := by
        have := HT.out
        rw [List.take_of_length_le (by omega), List.take_of_length_le (by have := HN.out; omega)] at this
        exact this
      exact ⟨ret_bool (by simp [e]), ⟨_, rfl⟩⟩

set_option maxHeartbeats 400000 in
set_option maxRecDepth 100000 in
theorem same_len (a a' : Option Addr) (n n' c c' : Nat) (w : World) (h : ¬ n = n') :
    Calls Try.prog 27 #[.slice a n c, .slice a' n' c'] w fun e w' => e = .returned (.bool false) ∧ w' = w := by
  have h' : ((n : Int) != (n' : Int)) = true := by simpa using (by omega : ¬ (n : Int) = (n' : Int))
  go_enter Try.func27, Try.ntmps27
  go_wp2
  go_ret
  exact ⟨rfl, rfl⟩
set_option maxHeartbeats 400000 in
set_option maxRecDepth 100000 in
theorem same_nil (a a' : Option Addr) (c c' : Nat) (w : World) :
    Calls Try.prog 27 #[.slice a 0 c, .slice a' 0 c'] w fun e w' => e = .returned (.bool true) ∧ w' = w := by
  go_enter Try.func27, Try.ntmps27
  go_wp2
  go_loop [5] (fun i => i = .int .i64 0) (fun _ => 0)
  case atStart => rfl
  case round =>
    obtain rfl := hrel
    go_wp2
    go_ret
    exact ⟨rfl, rfl⟩
theorem RdP.form {w : World} {v : Value} {l : List Pt} (h : RdP w v l) : ∃ a c, v = .slice a l.length c := by
  rcases h with ⟨rfl, rfl | ⟨ad, c, rfl⟩⟩ | ⟨b, off, c, rfl, hc, hm, hcell⟩
  · exact ⟨_, _, rfl⟩
  · exact ⟨_, _, rfl⟩
  · exact ⟨_, _, rfl⟩
theorem same_any {v v' : Value} {l l' : List Pt} (w : World) (hll : l.length ≤ 1000000) (h : RdP w v l) (h' : RdP w v' l') :
    Calls Try.prog 27 #[v, v'] w fun e w' => e = .returned (.bool (decide (l = l'))) ∧ Below w.heap.size w w' := by
  by_cases hn : l.length = l'.length
  · rcases h with ⟨rfl, h⟩ | ⟨b, off, c, rfl, hc, hm, hcell⟩
    · have : l' = [] := List.length_eq_zero_iff.1 (by simpa using hn.symm)
      subst this
      obtain ⟨a, c, rfl⟩ : ∃ a c, v = .slice a 0 c := by
        rcases h with rfl | ⟨a, c, rfl⟩ <;> exact ⟨_, _, rfl⟩
      obtain ⟨a', c', rfl⟩ := RdP.form h'
      exact (same_nil a a' c c' w).mono fun e w' ⟨h1, h2⟩ => ⟨h1, by subst h2; exact Below.refl _ _⟩
    · rcases h' with ⟨rfl, h⟩ | ⟨b', off', c', rfl, hc', hm', hcell'⟩
      · have : l = [] := List.length_eq_zero_iff.1 (by simpa using hn)
        subst this
        obtain ⟨a', c', rfl⟩ : ∃ a c, v' = .slice a 0 c := by
          rcases h with rfl | ⟨a, c, rfl⟩ <;> exact ⟨_, _, rfl⟩
        exact (same_nil _ a' _ c' w).mono fun e w' ⟨h1, h2⟩ => ⟨h1, by subst h2; exact Below.refl _ _⟩
      · exact (same_row b off c b' off' c' l l' w hn hll hcell hcell').mono fun e w' ⟨h1, n, h2⟩ => ⟨h1, by subst h2; exact below_drewN (Below.refl _ _) n⟩
  · obtain ⟨a, c, rfl⟩ := RdP.form h
    obtain ⟨a', c', rfl⟩ := RdP.form h'
    refine (same_len a a' _ _ c c' w hn).mono fun e w' ⟨h1, h2⟩ => ⟨?_, by subst h2; exact Below.refl _ _⟩
    rw [h1, decide_eq_false]
    intro e; exact hn (by rw [e])

end Go.Proofs.Ytpammicadnfheaa

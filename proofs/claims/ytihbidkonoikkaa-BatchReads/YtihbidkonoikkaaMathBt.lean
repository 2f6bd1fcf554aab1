/-
  Plain mathematics of package batch: operations, their bytes, what is read of bytes. No program is named here.
-/
import Derived.Test.YtihbidkonoikkaaMathFi3
namespace Go.Proofs.Ytihbidkonoikkaa
set_option linter.unusedVariables false
set_option linter.unusedSimpArgs false

abbrev Opn := List UInt8 × Bool × List UInt8
def opOk (o : Opn) : Bool := decide (1 ≤ o.1.length) && (decide (o.1.length ≤ 64) && (decide (o.2.2.length ≤ 512) && (!o.2.1 || decide (o.2.2 = []))))
def chkO (l : List Opn) : Int := if l.length < 1 ∨ 64 < l.length then 4 else if l.all opOk then 0 else 8
def askO (s : Int) (l : List Opn) : Int := if s < 1 ∨ 1099511627712 < s then 2 else chkO l
def opB (o : Opn) : List UInt8 := if o.2.1 then 1 :: tx o.1 else 0 :: (tx o.1 ++ tx o.2.2)
def opsB (l : List Opn) : List UInt8 := l.flatMap opB
def batB (s : Nat) (l : List Opn) : List UInt8 := sm s ++ sm l.length ++ opsB l
theorem opOk_iff (o : Opn) : opOk o = true ↔ 1 ≤ o.1.length ∧ o.1.length ≤ 64 ∧ o.2.2.length ≤ 512 ∧ (o.2.1 = true → o.2.2 = []) := by
  obtain ⟨k, d, v⟩ := o
  cases d <;> simp [opOk]
theorem chkO_ok {l : List Opn} : chkO l = 0 ↔ 1 ≤ l.length ∧ l.length ≤ 64 ∧ l.all opOk = true := by
  unfold chkO
  by_cases h : l.length < 1 ∨ 64 < l.length
  · rw [if_pos h]
    constructor
    · intro h2; omega
    · intro h2; omega
  · rw [if_neg h]
    by_cases h2 : l.all opOk = true
    · rw [if_pos h2]
      exact ⟨fun _ => ⟨by omega, by omega, h2⟩, fun _ => rfl⟩
    · rw [if_neg h2]
      exact ⟨fun h3 => by omega, fun h3 => absurd h3.2.2 h2⟩
theorem askO_ok {s : Int} {l : List Opn} : askO s l = 0 ↔ 1 ≤ s ∧ s ≤ 1099511627712 ∧ chkO l = 0 := by
  unfold askO
  by_cases h : s < 1 ∨ 1099511627712 < s
  · rw [if_pos h]
    exact ⟨fun h2 => by omega, fun h2 => by omega⟩
  · rw [if_neg h]
    exact ⟨fun h2 => ⟨by omega, by omega, h2⟩, fun h2 => h2.2.2⟩
def cutO : List UInt8 → Option (Opn × List UInt8)
  | [] => none
  | c :: r => if 1 < c.toNat then none else
    match ct r with
    | none => none
    | some (k, q) => if c.toNat = 1 then some ((k, true, []), q) else
      match ct q with
      | none => none
      | some (v, z) => some ((k, false, v), z)
def cutP (l : List UInt8) : Option (Opn × List UInt8) :=
  match cutO l with
  | none => none
  | some (o, r) => if opOk o then some (o, r) else none
def itO (g : List UInt8 → Option (Opn × List UInt8)) : Nat → List UInt8 → Option (List Opn × List UInt8)
  | 0, l => some ([], l)
  | n + 1, l =>
    match itO g n l with
    | none => none
    | some (es, r) =>
      match g r with
      | none => none
      | some (x, r2) => some (es ++ [x], r2)
theorem itO_next {g : List UInt8 → Option (Opn × List UInt8)} {n : Nat} {l r r2 : List UInt8} {es : List Opn} {x : Opn} (h : itO g n l = some (es, r)) (h2 : g r = some (x, r2)) : itO g (n + 1) l = some (es ++ [x], r2) := by
  simp [itO, h, h2]
theorem itO_stop {g : List UInt8 → Option (Opn × List UInt8)} {n : Nat} {l r : List UInt8} {es : List Opn} (h : itO g n l = some (es, r)) (h2 : g r = none) : itO g (n + 1) l = none := by
  simp [itO, h, h2]
theorem itO_none {g : List UInt8 → Option (Opn × List UInt8)} {n : Nat} {l : List UInt8} (h : itO g n l = none) : ∀ m, n ≤ m → itO g m l = none := by
  intro m hm
  obtain ⟨d, rfl⟩ := Nat.le.dest hm
  clear hm
  induction d with
  | zero => exact h
  | succ d ih => rw [← Nat.add_assoc, itO, ih]
theorem itO_bad {g : List UInt8 → Option (Opn × List UInt8)} {n m : Nat} {l r : List UInt8} {es : List Opn} (h : itO g n l = some (es, r)) (h2 : g r = none) (hm : n < m) : itO g m l = none := itO_none (itO_stop h h2) m hm
theorem itO_len {g : List UInt8 → Option (Opn × List UInt8)} : ∀ {n : Nat} {l r : List UInt8} {es : List Opn}, itO g n l = some (es, r) → es.length = n
  | 0, l, r, es, h => by
    simp [itO] at h
    simp [h.1]
  | n + 1, l, r, es, h => by
    rw [itO] at h
    cases e : itO g n l with
    | none => rw [e] at h; cases h
    | some p =>
      obtain ⟨es', r'⟩ := p
      rw [e] at h
      simp only at h
      cases e2 : g r' with
      | none => rw [e2] at h; cases h
      | some p2 =>
        obtain ⟨x, r2⟩ := p2
        rw [e2] at h
        simp only [Option.some.injEq, Prod.mk.injEq] at h
        rw [← h.1, List.length_append, itO_len e]; rfl
theorem cutP_some {l r : List UInt8} {o : Opn} (h : cutO l = some (o, r)) (ho : opOk o = true) : cutP l = some (o, r) := by simp [cutP, h, ho]
theorem cutP_bad {l r : List UInt8} {o : Opn} (h : cutO l = some (o, r)) (ho : opOk o = false) : cutP l = none := by simp [cutP, h, ho]
theorem cutP_none {l : List UInt8} (h : cutO l = none) : cutP l = none := by simp [cutP, h]
theorem itO_both : ∀ (n : Nat) (l : List UInt8), itO cutP n l = match itO cutO n l with | none => none | some (es, r) => if es.all opOk then some (es, r) else none
  | 0, l => by simp [itO]
  | n + 1, l => by
    rw [itO, itO_both n l, itO]
    cases e : itO cutO n l with
    | none => rfl
    | some p =>
      obtain ⟨es, r⟩ := p
      simp only
      by_cases h : es.all opOk = true
      · rw [if_pos h]
        simp only
        cases e2 : cutO r with
        | none => rw [cutP_none e2]
        | some p2 =>
          obtain ⟨x, r2⟩ := p2
          simp only
          by_cases h2 : opOk x = true
          · rw [cutP_some e2 h2]
            simp only [List.all_append, h, List.all_cons, h2, List.all_nil, Bool.and_self, if_true]
          · have h2' : opOk x = false := by simpa using h2
            rw [cutP_bad e2 h2']
            simp only [List.all_append, h, List.all_cons, h2', List.all_nil, Bool.and_true, Bool.and_false, Bool.false_eq_true, if_false]
      · rw [if_neg h]
        simp only
        have h' : es.all opOk = false := by rw [Bool.eq_false_iff]; exact h
        cases e2 : cutO r with
        | none => rfl
        | some p2 =>
          obtain ⟨x, r2⟩ := p2
          simp only [List.all_append, h', Bool.false_and, Bool.false_eq_true, if_false]
theorem cutO_can {l r : List UInt8} {o : Opn} (h : cutO l = some (o, r)) : l = opB o ++ r := by
  cases l with
  | nil => cases h
  | cons c q =>
    rw [cutO] at h
    split at h
    · cases h
    rename_i hc
    cases e : ct q with
    | none => rw [e] at h; cases h
    | some p =>
      obtain ⟨k, z⟩ := p
      rw [e] at h
      simp only at h
      have hq := ct_can e
      by_cases h1 : c.toNat = 1
      · rw [if_pos h1] at h
        simp only [Option.some.injEq, Prod.mk.injEq] at h
        obtain ⟨rfl, rfl⟩ := h
        have hc1 : c = 1 := UInt8.toNat_inj.1 (by rw [h1]; rfl)
        rw [hc1, hq]; simp [opB]
      · rw [if_neg h1] at h
        have hc0 : c = 0 := UInt8.toNat_inj.1 (by show c.toNat = 0; omega)
        cases e2 : ct z with
        | none => rw [e2] at h; cases h
        | some p2 =>
          obtain ⟨v, z2⟩ := p2
          rw [e2] at h
          simp only [Option.some.injEq, Prod.mk.injEq] at h
          obtain ⟨rfl, rfl⟩ := h
          have hz := ct_can e2
          rw [hc0, hq, hz]; simp [opB]
theorem itO_can : ∀ {n : Nat} {l r : List UInt8} {es : List Opn}, itO cutP n l = some (es, r) → l = opsB es ++ r ∧ es.all opOk = true
  | 0, l, r, es, h => by
    simp [itO] at h
    rw [h.1, h.2]; simp [opsB]
  | n + 1, l, r, es, h => by
    rw [itO] at h
    cases e : itO cutP n l with
    | none => rw [e] at h; cases h
    | some p =>
      obtain ⟨es', r'⟩ := p
      rw [e] at h
      simp only at h
      cases e2 : cutP r' with
      | none => rw [e2] at h; cases h
      | some p2 =>
        obtain ⟨x, r2⟩ := p2
        rw [e2] at h
        simp only [Option.some.injEq, Prod.mk.injEq] at h
        obtain ⟨rfl, rfl⟩ := h
        obtain ⟨h1, h2⟩ := itO_can e
        unfold cutP at e2
        cases e3 : cutO r' with
        | none => rw [e3] at e2; cases e2
        | some p3 =>
          obtain ⟨y, r3⟩ := p3
          rw [e3] at e2
          simp only at e2
          by_cases hy : opOk y = true
          · rw [if_pos hy] at e2
            simp only [Option.some.injEq, Prod.mk.injEq] at e2
            obtain ⟨rfl, rfl⟩ := e2
            refine ⟨?_, by simp [h2, hy]⟩
            rw [h1, cutO_can e3]; simp [opsB]
          · rw [if_neg hy] at e2; cases e2

def cutM (most : Nat) (l : List UInt8) : Option (Nat × List UInt8) :=
  match rd l with
  | none => none
  | some (n, k) => if 1 ≤ n ∧ n ≤ most then some (n, l.drop k) else none
theorem cutM_can {most n : Nat} {l r : List UInt8} (h : cutM most l = some (n, r)) : l = sm n ++ r ∧ 1 ≤ n ∧ n ≤ most := by
  unfold cutM at h
  cases e : rd l with
  | none => rw [e] at h; cases h
  | some p =>
    obtain ⟨m, k⟩ := p
    rw [e] at h
    simp only at h
    by_cases hm : 1 ≤ m ∧ m ≤ most
    · rw [if_pos hm] at h
      simp only [Option.some.injEq, Prod.mk.injEq] at h
      obtain ⟨rfl, rfl⟩ := h
      exact ⟨(rd_can e).1, hm.1, hm.2⟩
    · rw [if_neg hm] at h; cases h
def readP (l : List UInt8) : Option (Nat × List Opn × List UInt8) :=
  match cutM 1099511627712 l with
  | none => none
  | some (s, q) =>
    match cutM 64 q with
    | none => none
    | some (m, z) =>
      match itO cutP m z with
      | none => none
      | some (es, r) => some (s, es, r)
def readO (l : List UInt8) : Option (Nat × List Opn) :=
  match readP l with
  | none => none
  | some (s, es, r) => if r = [] then some (s, es) else none
theorem readP_can {l r : List UInt8} {s : Nat} {es : List Opn} (h : readP l = some (s, es, r)) : l = batB s es ++ r ∧ askO s es = 0 := by
  unfold readP at h
  cases e : cutM 1099511627712 l with
  | none => rw [e] at h; cases h
  | some p =>
    obtain ⟨s', q⟩ := p
    rw [e] at h
    simp only at h
    cases e2 : cutM 64 q with
    | none => rw [e2] at h; cases h
    | some p2 =>
      obtain ⟨m, z⟩ := p2
      rw [e2] at h
      simp only at h
      cases e3 : itO cutP m z with
      | none => rw [e3] at h; cases h
      | some p3 =>
        obtain ⟨es', r'⟩ := p3
        rw [e3] at h
        simp only [Option.some.injEq, Prod.mk.injEq] at h
        obtain ⟨rfl, rfl, rfl⟩ := h
        obtain ⟨a1, a2, a3⟩ := cutM_can e
        obtain ⟨b1, b2, b3⟩ := cutM_can e2
        obtain ⟨c1, c2⟩ := itO_can e3
        have hl := itO_len e3
        refine ⟨?_, askO_ok.2 ⟨by omega, by omega, chkO_ok.2 ⟨by omega, by omega, c2⟩⟩⟩
        unfold batB
        rw [a1, b1, c1, hl]; simp
theorem readO_can {l : List UInt8} {s : Nat} {es : List Opn} (h : readO l = some (s, es)) : l = batB s es ∧ askO s es = 0 := by
  unfold readO at h
  cases e : readP l with
  | none => rw [e] at h; cases h
  | some p =>
    obtain ⟨s', es', r⟩ := p
    rw [e] at h
    simp only at h
    by_cases hr : r = []
    · rw [if_pos hr] at h
      simp only [Option.some.injEq, Prod.mk.injEq] at h
      obtain ⟨rfl, rfl⟩ := h
      obtain ⟨h1, h2⟩ := readP_can e
      rw [hr, List.append_nil] at h1
      exact ⟨h1, h2⟩
    · rw [if_neg hr] at h; cases h
def rdBE (l : List UInt8) : Int := if 16384 < l.length then 3 else if (readO l).isSome then 0 else 8
def rdBS (l : List UInt8) : Int := if 16384 < l.length then 0 else match readO l with | none => 0 | some (s, _) => s
def rdBL (l : List UInt8) : List Opn := if 16384 < l.length then [] else match readO l with | none => [] | some (_, es) => es
theorem rdB_long {l : List UInt8} (h : 16384 < l.length) : rdBE l = 3 ∧ rdBS l = 0 ∧ rdBL l = [] := by simp [rdBE, rdBS, rdBL, h]
theorem rdB_none {l : List UInt8} (h : ¬ 16384 < l.length) (h2 : readO l = none) : rdBE l = 8 ∧ rdBS l = 0 ∧ rdBL l = [] := by simp [rdBE, rdBS, rdBL, h, h2]
theorem rdB_some {l : List UInt8} {s : Nat} {es : List Opn} (h : ¬ 16384 < l.length) (h2 : readO l = some (s, es)) : rdBE l = 0 ∧ rdBS l = s ∧ rdBL l = es := by simp [rdBE, rdBS, rdBL, h, h2]

end Go.Proofs.Ytihbidkonoikkaa

/-
  Plain mathematics of package manifest (layer 17), the first part: versions as bytes, and what is read of bytes. No program is named here.
-/
import Derived.Test.YtmeaiocohalphaaDoorMathBk
import Derived.Test.YtmeaiocohalphaaDoorMathVn
namespace Go.Proofs.YtmeaiocohalphaaDoor
open Go.RowKit
set_option linter.unusedVariables false
set_option linter.unusedSimpArgs false

def mtB (m : Mta) : List UInt8 := tx m.1 ++ (sm m.2.1.toNat ++ (sm m.2.2.1.toNat ++ (tx (Mlo m) ++ tx (Mhi m))))
def mtsB (l : List Mta) : List UInt8 := (l.map mtB).flatten
def lvB (l : List Mta) : List UInt8 := sm l.length ++ mtsB l
def lvsB (L : List (List Mta)) : List UInt8 := (L.map lvB).flatten
def verB (V : Vrs) : List UInt8 := lvsB V.1 ++ (sm V.2.1.toNat ++ (sm V.2.2.1.toNat ++ tx V.2.2.2))
theorem mtsB_snoc (l : List Mta) (m : Mta) : mtsB (l ++ [m]) = mtsB l ++ mtB m := by simp [mtsB]
theorem lvsB_snoc (L : List (List Mta)) (l : List Mta) : lvsB (L ++ [l]) = lvsB L ++ lvB l := by simp [lvsB]
theorem mtsB_nil : mtsB [] = [] := rfl
theorem lvsB_nil : lvsB [] = [] := rfl

/-! ### taking a version off bytes: none is 'bad' -/
abbrev Mst := Option (List UInt8)
def numM (k : Nat) : Mst → Nat × Mst
  | none => (0, none)
  | some l => match cutW k l with
    | some (m, r) => (m, some r)
    | none => (0, none)
def texM : Mst → List UInt8 × Mst
  | none => ([], none)
  | some l => match ct l with
    | some (s, r) => (s, some r)
    | none => ([], none)
def tabM (s : Mst) : Mta × Mst :=
  (((texM s).1, ((numM 16384 (texM s).2).1 : Int), ((numM 65536 (numM 16384 (texM s).2).2).1 : Int), (texM (numM 65536 (numM 16384 (texM s).2).2).2).1, (texM (texM (numM 65536 (numM 16384 (texM s).2).2).2).2).1),
   (texM (texM (numM 65536 (numM 16384 (texM s).2).2).2).2).2)
def tbsM : Nat → Mst → List Mta × Mst
  | 0, s => ([], s)
  | n + 1, s => ((tbsM n s).1 ++ [(tabM (tbsM n s).2).1], (tabM (tbsM n s).2).2)
def levM : Nat → Mst → List (List Mta) × Mst
  | 0, s => ([], s)
  | k + 1, s => ((levM k s).1 ++ [(tbsM (numM 32 (levM k s).2).1 (numM 32 (levM k s).2).2).1], (tbsM (numM 32 (levM k s).2).1 (numM 32 (levM k s).2).2).2)
def verM (s : Mst) : Vrs × Mst :=
  (((levM 4 s).1, ((numM 1099511627776 (levM 4 s).2).1 : Int), ((numM 1099511627776 (numM 1099511627776 (levM 4 s).2).2).1 : Int), (texM (numM 1099511627776 (numM 1099511627776 (levM 4 s).2).2).2).1),
   (texM (numM 1099511627776 (numM 1099511627776 (levM 4 s).2).2).2).2)

theorem numM_of {k m : Nat} {l r : List UInt8} (e : cutW k l = some (m, r)) : numM k (some l) = (m, some r) := by
  show (match cutW k l with | some (m, r) => (m, some r) | none => (0, none)) = _
  rw [e]
theorem numM_bad {k : Nat} {l : List UInt8} (e : cutW k l = none) : numM k (some l) = (0, none) := by
  show (match cutW k l with | some (m, r) => (m, some r) | none => (0, none)) = _
  rw [e]
theorem texM_of {l s r : List UInt8} (e : ct l = some (s, r)) : texM (some l) = (s, some r) := by
  show (match ct l with | some (s, r) => (s, some r) | none => ([], none)) = _
  rw [e]
theorem texM_bad {l : List UInt8} (e : ct l = none) : texM (some l) = ([], none) := by
  show (match ct l with | some (s, r) => (s, some r) | none => ([], none)) = _
  rw [e]
theorem tbsM_none : ∀ n, (tbsM n none).2 = none
  | 0 => rfl
  | n + 1 => by rw [tbsM, tbsM_none n]; rfl
theorem tbsM_stay {n : Nat} {s : Mst} (h : (tbsM n s).2 = none) : ∀ j, (tbsM (n + j) s).2 = none
  | 0 => h
  | j + 1 => by rw [← Nat.add_assoc, tbsM, tbsM_stay h j]; rfl
theorem levM_stay {n : Nat} {s : Mst} (h : (levM n s).2 = none) : ∀ j, (levM (n + j) s).2 = none
  | 0 => h
  | j + 1 => by rw [← Nat.add_assoc, levM, levM_stay h j]; exact tbsM_none _
theorem tbsM_len : ∀ n s, (tbsM n s).1.length = n
  | 0, s => rfl
  | n + 1, s => by rw [tbsM, List.length_append, tbsM_len n s]; rfl
theorem levM_len : ∀ n s, (levM n s).1.length = n
  | 0, s => rfl
  | n + 1, s => by rw [levM, List.length_append, levM_len n s]; rfl
theorem numM_le (k : Nat) (s : Mst) : (numM k s).1 ≤ k := by
  cases s with
  | none => exact Nat.zero_le _
  | some l =>
    cases e : cutW k l with
    | none => rw [numM_bad e]; exact Nat.zero_le _
    | some p => obtain ⟨m, r⟩ := p; rw [numM_of e]; exact (cutW_can e).2

/-! ### what is read is what stands there -/
theorem numM_can {k : Nat} {s : Mst} {r : List UInt8} (h : (numM k s).2 = some r) : s = some (sm (numM k s).1 ++ r) := by
  cases s with
  | none => cases h
  | some l =>
    cases e : cutW k l with
    | none => rw [numM_bad e] at h; cases h
    | some p =>
      obtain ⟨m, q⟩ := p
      rw [numM_of e] at h ⊢
      cases h
      exact congrArg some (cutW_can e).1
theorem texM_can {s : Mst} {r : List UInt8} (h : (texM s).2 = some r) : s = some (tx (texM s).1 ++ r) := by
  cases s with
  | none => cases h
  | some l =>
    cases e : ct l with
    | none => rw [texM_bad e] at h; cases h
    | some p =>
      obtain ⟨m, q⟩ := p
      rw [texM_of e] at h ⊢
      cases h
      exact congrArg some (ct_can e)
theorem tabM_can {s : Mst} {r : List UInt8} (h : (tabM s).2 = some r) : s = some (mtB (tabM s).1 ++ r) := by
  have h4 := texM_can h
  have h3 := texM_can h4
  have h2 := numM_can h3
  have h1 := numM_can h2
  have h0 := texM_can h1
  refine h0.trans (congrArg some ?_)
  unfold mtB tabM Mlo Mhi
  simp only [Int.toNat_natCast, List.append_assoc]
theorem tbsM_can {s : Mst} : ∀ {n : Nat} {r : List UInt8}, (tbsM n s).2 = some r → s = some (mtsB (tbsM n s).1 ++ r)
  | 0, r, h => h
  | n + 1, r, h => by
    have h1 := tabM_can h
    have h0 := tbsM_can h1
    refine h0.trans (congrArg some ?_)
    rw [tbsM, mtsB_snoc, List.append_assoc]
theorem levM_can {s : Mst} : ∀ {n : Nat} {r : List UInt8}, (levM n s).2 = some r → s = some (lvsB (levM n s).1 ++ r)
  | 0, r, h => h
  | n + 1, r, h => by
    have h2 := tbsM_can h
    have h1 := numM_can h2
    have h0 := levM_can h1
    refine h0.trans (congrArg some ?_)
    rw [levM, lvsB_snoc, lvB, tbsM_len, List.append_assoc, List.append_assoc]
theorem verM_can {s : Mst} {r : List UInt8} (h : (verM s).2 = some r) : s = some (verB (verM s).1 ++ r) := by
  have h3 := texM_can h
  have h2 := numM_can h3
  have h1 := numM_can h2
  have h0 := levM_can h1
  refine h0.trans (congrArg some ?_)
  unfold verB verM
  simp only [Int.toNat_natCast, List.append_assoc]

/-! ### what was written is read -/
theorem txO_le {s : List UInt8} {n : Nat} (h : txO s n = true) : 1 ≤ s.length ∧ s.length ≤ n := by
  unfold txO at h
  simpa using h
theorem mtO_num {m : Mta} (h : mtO m = true) : m.1.length ≤ 16 ∧ (Mlo m).length ≤ 64 ∧ (Mhi m).length ≤ 64 ∧ 1 ≤ m.2.1 ∧ m.2.1 ≤ 16384 ∧ 1 ≤ m.2.2.1 ∧ m.2.2.1 ≤ 65536 := by
  unfold mtO at h
  simp only [Bool.and_eq_true, decide_eq_true_eq] at h
  obtain ⟨⟨⟨⟨⟨⟨⟨a, b⟩, c⟩, d⟩, e⟩, f⟩, g⟩, i⟩ := h
  have a := txO_le a
  have f := txO_le f
  have g := txO_le g
  omega
theorem flat_ge {α : Type} {L : List (List α)} {l : List α} (h : l ∈ L) : l.length ≤ L.flatten.length := by
  induction L with
  | nil => cases h
  | cons x L ih =>
    rw [List.flatten_cons, List.length_append]
    rcases List.mem_cons.1 h with rfl | h
    · omega
    · have := ih h; omega
theorem numO_num {V : Vrs} (h : numO V = true) : 1 ≤ V.2.1 ∧ V.2.1 ≤ 1099511627776 ∧ 0 ≤ V.2.2.1 ∧ V.2.2.1 ≤ 1099511627776 := by
  unfold numO at h
  simp only [Bool.and_eq_true, decide_eq_true_eq] at h
  omega
def wrtB (V : Vrs) : List UInt8 := if chkV V = 0 then verB V else []
/-! ### Read -/
def redE (b : List UInt8) : Int := if 16384 < b.length then 3 else if (verM (some b)).2 = some [] ∧ chkV (verM (some b)).1 = 0 then 0 else 8
def redV (b : List UInt8) : Vrs := if redE b = 0 then (verM (some b)).1 else zerV
theorem red_again {b r : List UInt8} {V : Vrs} (hb : b.length ≤ 16384) (h : verM (some b) = (V, some r)) : redE b = if chkV V = 0 ∧ verB V = b then 0 else 8 := by
  have hc := verM_can (s := some b) (r := r) (by rw [h])
  rw [h] at hc
  simp only [Option.some.injEq] at hc
  unfold redE
  rw [if_neg (by omega), h]
  simp only [Option.some.injEq]
  by_cases h0 : chkV V = 0
  · by_cases h1 : verB V = b
    · have hr : r = [] := by
        have := congrArg List.length hc
        rw [h1, List.length_append] at this
        exact List.eq_nil_of_length_eq_zero (by omega)
      rw [if_pos (show r = [] ∧ chkV V = 0 from ⟨hr, h0⟩), if_pos (show chkV V = 0 ∧ verB V = b from ⟨h0, h1⟩)]
    · rw [if_neg (show ¬ (r = [] ∧ chkV V = 0) from fun e => h1 (by rw [e.1, List.append_nil] at hc; exact hc.symm)), if_neg (show ¬ (chkV V = 0 ∧ verB V = b) from fun e => h1 e.2)]
  · rw [if_neg (show ¬ (r = [] ∧ chkV V = 0) from fun e => h0 e.2), if_neg (show ¬ (chkV V = 0 ∧ verB V = b) from fun e => h0 e.1)]
theorem red_bad {b : List UInt8} (hb : b.length ≤ 16384) (h : (verM (some b)).2 = none) : redE b = 8 := by
  unfold redE
  rw [if_neg (by omega), if_neg]
  rintro ⟨e, -⟩
  rw [h] at e
  cases e

/-! ### how many bytes -/
theorem tx_lenM (s : List UInt8) (h : s.length < 128) : (tx s).length = s.length + 1 := by
  unfold tx
  rw [List.length_append, sm_lt h]
  simp; omega
theorem sm_len3 {n : Nat} (h : n ≤ 65536) : (sm n).length ≤ 3 := by
  have := sm_len_le 3 n (by omega)
  omega
theorem sm_len6 {n : Nat} (h : n ≤ 1099511627776) : (sm n).length ≤ 6 := by
  have := sm_len_le 6 n (by omega)
  omega
theorem mtB_len {m : Mta} (h : mtO m = true) : (mtB m).length ≤ 160 := by
  obtain ⟨a, b, c, d, e, f, g⟩ := mtO_num h
  unfold mtB
  simp only [List.length_append]
  rw [tx_lenM _ (by omega), tx_lenM _ (by omega), tx_lenM _ (by omega)]
  have h1 := sm_len3 (n := m.2.1.toNat) (by omega)
  have h2 := sm_len3 (n := m.2.2.1.toNat) (by omega)
  omega
theorem mtsB_len : ∀ {l : List Mta}, (∀ m ∈ l, mtO m = true) → (mtsB l).length ≤ 160 * l.length
  | [], h => by simp [mtsB]
  | m :: l, h => by
    have h1 := mtB_len (h m (by simp))
    have h2 := mtsB_len (l := l) (fun x hx => h x (by simp [hx]))
    have e : mtsB (m :: l) = mtB m ++ mtsB l := by simp [mtsB]
    rw [e, List.length_append, List.length_cons]
    omega
theorem lvsB_len : ∀ {L : List (List Mta)}, (∀ l ∈ L, l.length ≤ 32 ∧ ∀ m ∈ l, mtO m = true) → (lvsB L).length ≤ 160 * L.flatten.length + L.length
  | [], h => by simp [lvsB]
  | l :: L, h => by
    have h1 := mtsB_len (h l (by simp)).2
    have h2 := lvsB_len (L := L) (fun x hx => h x (by simp [hx]))
    have e : lvsB (l :: L) = sm l.length ++ (mtsB l ++ lvsB L) := by simp [lvsB, lvB]
    have h3 := (h l (by simp)).1
    have h4 : (sm l.length).length = 1 := by rw [sm_lt (by omega)]; rfl
    rw [e, List.length_append, List.length_append, List.length_cons, List.flatten_cons, List.length_append, h4]
    omega
theorem verB_len {V : Vrs} (h : chkV V = 0) : (verB V).length ≤ 6000 := by
  obtain ⟨h32, hm⟩ := chkV_ok.1 h
  obtain ⟨h4, hl, hn, hv, _⟩ := mayV_iff.1 hm
  have hlv := (lvlO_iff.1 hv).1
  obtain ⟨n1, n2, n3, n4⟩ := numO_num hn
  have hlg := txO_le hl
  have h1 := lvsB_len (L := V.1) (fun l hl => ⟨by have := flat_ge hl; omega, hlv l hl⟩)
  unfold verB
  simp only [List.length_append]
  rw [tx_lenM _ (by omega)]
  have h2 := sm_len6 (n := V.2.1.toNat) (by omega)
  have h3 := sm_len6 (n := V.2.2.1.toNat) (by omega)
  omega
end Go.Proofs.YtmeaiocohalphaaDoor

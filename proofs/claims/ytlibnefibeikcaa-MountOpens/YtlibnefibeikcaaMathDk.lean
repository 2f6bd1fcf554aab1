/-
  Plain mathematics of disks: writes, acts, blocks; and what it is that a value of Go reads as one.
-/
import Derived.Test.YtlibnefibeikcaaKit
namespace Go.Proofs.Ytlibnefibeikcaa
open Go.RowKit
set_option linter.unusedVariables false
set_option linter.unusedSimpArgs false

/-- A write (its block's number, its bytes); an act (is it a sync, its write); a disk (its data, what waits, what was done). -/
abbrev Pu := Int × List UInt8
abbrev Ac := Bool × Pu
abbrev Dk := List UInt8 × List Pu × List Ac
def dz : Dk := ([], [], [])

def putE (k : Nat) (p : Pu) : Int := if p.1 < 0 ∨ (k : Int) ≤ p.1 then 2 else if p.2.length ≠ 128 then 3 else 0
def actE (k : Nat) (a : Ac) : Int := if a.1 then (if a.2.1 ≠ 0 ∨ a.2.2 ≠ [] then 8 else 0) else putE k a.2
def mny (d : Dk) : Nat := d.1.length / 128
/-- A disk may be. -/
def okD (d : Dk) : Bool := decide (d.1.length % 128 = 0) && decide (1 ≤ mny d) && decide (mny d ≤ 4096) && decide (d.2.1.length ≤ 65536) && decide (d.2.2.length ≤ 65536) && d.2.1.all (fun p => decide (putE (mny d) p = 0)) && d.2.2.all (fun a => decide (actE (mny d) a = 0))
def chk (d : Dk) : Int := if okD d then 0 else 20
theorem okD_iff (d : Dk) : okD d = true ↔ d.1.length % 128 = 0 ∧ 1 ≤ mny d ∧ mny d ≤ 4096 ∧ d.2.1.length ≤ 65536 ∧ d.2.2.length ≤ 65536 ∧ (∀ p ∈ d.2.1, putE (mny d) p = 0) ∧ ∀ a ∈ d.2.2, actE (mny d) a = 0 := by
  simp [okD, Bool.and_eq_true, decide_eq_true_eq, List.all_eq_true, and_assoc]

theorem putE_ok {k : Nat} {p : Pu} (h : putE k p = 0) : 0 ≤ p.1 ∧ p.1 < k ∧ p.2.length = 128 := by
  unfold putE at h
  split at h
  · cases h
  · split at h
    · cases h
    · rename_i h1 h2
      refine ⟨by omega, by omega, by omega⟩

/-- A write lasts: in its block are its bytes. -/
def setB (data : List UInt8) (p : Pu) : List UInt8 := data.take (128 * p.1.toNat) ++ (p.2 ++ data.drop (128 * p.1.toNat + 128))
def setBs (data : List UInt8) (l : List Pu) : List UInt8 := l.foldl setB data
/-- An act that may be is done; none: the disk is full. -/
def oneD (d : Dk) (a : Ac) : Option Dk :=
  if 65536 ≤ d.2.2.length ∨ (a.1 = false ∧ 65536 ≤ d.2.1.length) then none
  else if a.1 then some (setBs d.1 d.2.1, [], d.2.2 ++ [a]) else some (d.1, d.2.1 ++ [a.2], d.2.2 ++ [a])
def onesD (d : Dk) : List Ac → Option Dk
  | [] => some d
  | a :: l => match oneD d a with | none => none | some x => onesD x l
def firstE (k : Nat) : List Ac → Int
  | [] => 0
  | a :: l => if actE k a = 0 then firstE k l else actE k a
def doD (d : Dk) (l : List Ac) (many : Int) : Dk × Int :=
  if chk d ≠ 0 then (dz, chk d)
  else if firstE (mny d) l ≠ 0 then (dz, firstE (mny d) l)
  else if many < 0 ∨ (l.length : Int) < many then (dz, 2)
  else match onesD d (l.take many.toNat) with | none => (dz, 9) | some x => (x, 0)
/-- A block as it lasts, and as it is now. -/
def blk (data : List UInt8) (n : Nat) : List UInt8 := (data.drop (128 * n)).take 128
/-- Of what waits, that which is kept. -/
def kept : List Pu → List Bool → List Pu
  | p :: l, b :: k => if b then p :: kept l k else kept l k
  | _, _ => []
/-! ### reading -/
def RdW (w : World) (v : Value) (l : List Pu) : Prop :=
  (l = [] ∧ (v = .slice none 0 0 ∨ ∃ a c, v = .slice (some a) 0 c)) ∨
  ∃ b off c, v = .slice (some ⟨b, off, none⟩) l.length c ∧ l.length ≤ c ∧ c ≤ maxLen ∧ ∀ j, (h : j < l.length) →
    w.cell? ⟨b, off + j * 2, none⟩ = some (.int .i64 (l[j]).1) ∧ ∃ u, w.cell? ⟨b, off + j * 2 + 1, none⟩ = some u ∧ Rd w u (l[j]).2
def RdA (w : World) (v : Value) (l : List Ac) : Prop :=
  (l = [] ∧ (v = .slice none 0 0 ∨ ∃ a c, v = .slice (some a) 0 c)) ∨
  ∃ b off c, v = .slice (some ⟨b, off, none⟩) l.length c ∧ l.length ≤ c ∧ c ≤ maxLen ∧ ∀ j, (h : j < l.length) →
    w.cell? ⟨b, off + j * 3, none⟩ = some (.bool (l[j]).1) ∧ w.cell? ⟨b, off + j * 3 + 1, none⟩ = some (.int .i64 (l[j]).2.1) ∧ ∃ u, w.cell? ⟨b, off + j * 3 + 2, none⟩ = some u ∧ Rd w u (l[j]).2.2
def RdD (w : World) (v : Value) (d : Dk) : Prop := ∃ x y z, v = .agg #[x, y, z] ∧ Rd w x d.1 ∧ RdW w y d.2.1 ∧ RdA w z d.2.2

theorem RdW.carry {w w' : World} {v : Value} {l : List Pu} (h : RdW w v l) (hb : Below w.heap.size w w') : RdW w' v l := by
  rcases h with h | ⟨b, off, c, rfl, hc, hm, hcell⟩
  · exact .inl h
  · refine .inr ⟨b, off, c, rfl, hc, hm, fun j hj => ?_⟩
    obtain ⟨h0, u, h1, h2⟩ := hcell j hj
    refine ⟨?_, u, ?_, h2.carry hb⟩
    · rw [hb.cell (World.block_lt_of_cell? w _ h0)]; exact h0
    · rw [hb.cell (World.block_lt_of_cell? w _ h1)]; exact h1
theorem RdA.carry {w w' : World} {v : Value} {l : List Ac} (h : RdA w v l) (hb : Below w.heap.size w w') : RdA w' v l := by
  rcases h with h | ⟨b, off, c, rfl, hc, hm, hcell⟩
  · exact .inl h
  · refine .inr ⟨b, off, c, rfl, hc, hm, fun j hj => ?_⟩
    obtain ⟨h0, h1, u, h2, h3⟩ := hcell j hj
    refine ⟨?_, ?_, u, ?_, h3.carry hb⟩
    · rw [hb.cell (World.block_lt_of_cell? w _ h0)]; exact h0
    · rw [hb.cell (World.block_lt_of_cell? w _ h1)]; exact h1
    · rw [hb.cell (World.block_lt_of_cell? w _ h2)]; exact h2
theorem RdD.carry {w w' : World} {v : Value} {d : Dk} (h : RdD w v d) (hb : Below w.heap.size w w') : RdD w' v d := by
  obtain ⟨x, y, z, rfl, h1, h2, h3⟩ := h
  exact ⟨x, y, z, rfl, h1.carry hb, h2.carry hb, h3.carry hb⟩

theorem Rd.form {w : World} {v : Value} {l : List UInt8} (h : Rd w v l) : ∃ a c, v = .slice a l.length c := by
  rcases h with ⟨rfl, rfl | ⟨a, c, rfl⟩⟩ | ⟨b, off, c, rfl, _⟩ <;> exact ⟨_, _, rfl⟩
theorem RdW.form {w : World} {v : Value} {l : List Pu} (h : RdW w v l) : ∃ a c, v = .slice a l.length c := by
  rcases h with ⟨rfl, rfl | ⟨a, c, rfl⟩⟩ | ⟨b, off, c, rfl, _⟩ <;> exact ⟨_, _, rfl⟩
theorem RdA.form {w : World} {v : Value} {l : List Ac} (h : RdA w v l) : ∃ a c, v = .slice a l.length c := by
  rcases h with ⟨rfl, rfl | ⟨a, c, rfl⟩⟩ | ⟨b, off, c, rfl, _⟩ <;> exact ⟨_, _, rfl⟩

theorem Rd.len_le {w : World} {v : Value} {l : List UInt8} (h : Rd w v l) : l.length ≤ maxLen := by
  rcases h with ⟨rfl, _⟩ | ⟨b, off, c, rfl, h1, h2, _⟩
  · simp [maxLen]
  · omega
theorem RdW.len_le {w : World} {v : Value} {l : List Pu} (h : RdW w v l) : l.length ≤ maxLen := by
  rcases h with ⟨rfl, _⟩ | ⟨b, off, c, rfl, h1, h2, _⟩
  · simp [maxLen]
  · omega
theorem RdA.len_le {w : World} {v : Value} {l : List Ac} (h : RdA w v l) : l.length ≤ maxLen := by
  rcases h with ⟨rfl, _⟩ | ⟨b, off, c, rfl, h1, h2, _⟩
  · simp [maxLen]
  · omega
theorem RdW.at {w : World} {a : Option Addr} {n c : Nat} {l : List Pu} (h : RdW w (.slice a n c) l) (j : Nat) (hj : j < l.length) :
    ∃ b off, a = some ⟨b, off, none⟩ ∧ w.cell? ⟨b, off + j * 2, none⟩ = some (.int .i64 (l[j]).1) ∧ ∃ x m d, w.cell? ⟨b, off + j * 2 + 1, none⟩ = some (.slice x m d) ∧ Rd w (.slice x m d) (l[j]).2 ∧ m = (l[j]).2.length := by
  rcases h with ⟨rfl, _⟩ | ⟨b, off, c', e, _, _, hc⟩
  · exact absurd hj (by simp)
  · cases e
    obtain ⟨h0, u, h1, h2⟩ := hc j hj
    obtain ⟨x, d, rfl⟩ := h2.form
    exact ⟨b, off, rfl, h0, x, _, d, h1, h2, rfl⟩
theorem RdA.at {w : World} {a : Option Addr} {n c : Nat} {l : List Ac} (h : RdA w (.slice a n c) l) (j : Nat) (hj : j < l.length) :
    ∃ b off, a = some ⟨b, off, none⟩ ∧ w.cell? ⟨b, off + j * 3, none⟩ = some (.bool (l[j]).1) ∧ w.cell? ⟨b, off + j * 3 + 1, none⟩ = some (.int .i64 (l[j]).2.1) ∧ ∃ x m d, w.cell? ⟨b, off + j * 3 + 2, none⟩ = some (.slice x m d) ∧ Rd w (.slice x m d) (l[j]).2.2 ∧ m = (l[j]).2.2.length := by
  rcases h with ⟨rfl, _⟩ | ⟨b, off, c', e, _, _, hc⟩
  · exact absurd hj (by simp)
  · cases e
    obtain ⟨h0, h0', u, h1, h2⟩ := hc j hj
    obtain ⟨x, d, rfl⟩ := h2.form
    exact ⟨b, off, rfl, h0, h0', x, _, d, h1, h2, rfl⟩
theorem RdD.form {w : World} {v : Value} {d : Dk} (h : RdD w v d) : ∃ a1 c1 a2 c2 a3 c3, v = .agg #[.slice a1 d.1.length c1, .slice a2 d.2.1.length c2, .slice a3 d.2.2.length c3] ∧ Rd w (.slice a1 d.1.length c1) d.1 ∧ RdW w (.slice a2 d.2.1.length c2) d.2.1 ∧ RdA w (.slice a3 d.2.2.length c3) d.2.2 := by
  obtain ⟨x, y, z, rfl, h1, h2, h3⟩ := h
  obtain ⟨a1, c1, rfl⟩ := h1.form
  obtain ⟨a2, c2, rfl⟩ := h2.form
  obtain ⟨a3, c3, rfl⟩ := h3.form
  exact ⟨a1, c1, a2, c2, a3, c3, rfl, h1, h2, h3⟩

end Go.Proofs.Ytlibnefibeikcaa

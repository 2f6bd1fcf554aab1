/-
  Words for entries in memory (layer 11): their order, what is put, what is seen, ranges. No program is named here.
-/
import Derived.Test.YtjkoemdojdcmpaaMathFi3
namespace Go.Proofs.Ytjkoemdojdcmpaa
set_option linter.unusedVariables false
set_option linter.unusedSimpArgs false

theorem tx_lenB (s : List UInt8) (h : s.length ≤ 1000000) : (tx s).length ≤ s.length + 10 := by
  have := sm_len_le10 (n := s.length) (by omega)
  unfold tx
  rw [List.length_append]; omega
abbrev Ent := List UInt8 × Int × Bool × List UInt8
end Go.Proofs.Ytjkoemdojdcmpaa
namespace Go.Proofs.Ytjkoemdojdcmpaa
open Go.RowKit
set_option linter.unusedVariables false
set_option linter.unusedSimpArgs false

def ltS (a b : List UInt8) : Bool := Op.bytesLess a b
def entOk (e : Ent) : Bool := decide (1 ≤ e.1.length) && decide (e.1.length ≤ 64) && decide (1 ≤ e.2.1) && decide (e.2.1 ≤ 1099511627776) && decide (e.2.2.2.length ≤ 512) && (!e.2.2.1 || decide (e.2.2.2 = []))
def ahdM (a b : Ent) : Bool := ltS a.1 b.1 || (decide (a.1 = b.1) && decide (b.2.1 < a.2.1))
theorem ahd_iff {a b : Ent} : ahdM a b = true ↔ ltS a.1 b.1 = true ∨ (a.1 = b.1 ∧ b.2.1 < a.2.1) := by
  unfold ahdM; simp
def inR (a b k : List UInt8) : Bool := !ltS k a && (decide (b = []) || ltS k b)
def partM (l : List Ent) (a b : List UInt8) : List Ent := l.filter fun e => inR a b e.1
end Go.Proofs.Ytjkoemdojdcmpaa

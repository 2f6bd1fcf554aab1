/-
  Small laws of our own over the model: a row of bytes that a call owns and appends to, and a slice of bytes that is read. No program is named here.
-/
import Derived.Test.YtmihgljhahkhcaaMath
import Derived.WalkKit
import Derived.WalkSmall
import Derived.Lib.AppendStr
import Derived.Laws.AppendOwnNone
import Derived.Laws.OwnMore
import Derived.Laws.BytesArg
import Derived.OpenShut
namespace Go.Proofs.Ytmihgljhahkhcaa
open Go.RowKit

def Rd (w : World) (v : Value) (l : List UInt8) : Prop :=
  (l = [] ∧ (v = .slice none 0 0 ∨ ∃ a c, v = .slice (some a) 0 c)) ∨
  ∃ b off c, v = .slice (some ⟨b, off, none⟩) l.length c ∧ l.length ≤ c ∧ c ≤ maxLen ∧ ∀ j, (h : j < l.length) → w.cell? ⟨b, off + j, none⟩ = some (.int .u8 (l[j]).toNat)

theorem Rd.carry {w w' : World} {v : Value} {l : List UInt8} (h : Rd w v l) (hb : Below w.heap.size w w') : Rd w' v l := by
  rcases h with h | ⟨b, off, c, rfl, hc, hm, hcell⟩
  · exact .inl h
  · refine .inr ⟨b, off, c, rfl, hc, hm, fun j hj => ?_⟩
    rw [hb.cell (World.block_lt_of_cell? w _ (hcell j hj))]
    exact hcell j hj

theorem own_rd {w : World} {base : Nat} {e : TypeId} {v : Value} {l : List UInt8} (h : w.ownsRow base e 1 v l.length (u8v l)) : Rd w v l := by
  rcases h.2 with ⟨rfl, hn⟩ | ⟨g, cap, cur, rfl, _, hg, hn, hm, hsz, htake⟩
  · exact .inl ⟨List.length_eq_zero_iff.1 hn, .inl rfl⟩
  · refine .inr ⟨g, 0, cap, rfl, hn, hm, fun j hj => ?_⟩
    have := h.cells (g := g) rfl j (.int .u8 (l[j]).toNat) (by simp [u8v, List.getElem?_eq_getElem hj])
    simpa [Addr.add_lit] using this

section
variable {P : Program}

def bs (l : List UInt8) : ByteArray := ⟨l.toArray⟩
@[simp] theorem bs_toList (l : List UInt8) : (bs l).data.toList = l := by simp [bs]
theorem bs_size (l : List UInt8) : (bs l).size = l.length := by show l.toArray.size = l.length; exact List.size_toArray
theorem bs_of (s : ByteArray) : bs s.data.toList = s := by cases s; simp [bs]
end
end Go.Proofs.Ytmihgljhahkhcaa

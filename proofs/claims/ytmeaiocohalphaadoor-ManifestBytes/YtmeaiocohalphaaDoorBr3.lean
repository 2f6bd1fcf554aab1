/-
  Of the document's side: the Reader's Byte; a Reader beside rows and boxes; what is read exactly of a block.
-/
import Derived.Test.YtmeaiocohalphaaDoorMathBk
import Derived.Test.YtmeaiocohalphaaDoorMathVn
import Derived.Test.YtmeaiocohalphaaDoorSlK
import Derived.BigQuiet
import Derived.Test.YtmeaiocohalphaaDoorFiRdr3
import Derived.Test.YtmeaiocohalphaaDoorRegL
import Derived.Test.YtmeaiocohalphaaDoorRegP
namespace Go.Proofs.YtmeaiocohalphaaDoor
open Go.RowKit
set_option linter.unusedVariables false
set_option linter.unusedSimpArgs false

def RkS (w wx : World) (Q : Nat) (r : List UInt8) (bad : Bool) : Prop :=
  ∃ a' n' c', RdrAt wx Q (.slice a' n' c') bad ∧ n' = r.length ∧ Rd w (.slice a' n' c') r ∧ w.heap.size ≤ Q ∧ Below w.heap.size w wx ∧ r.length ≤ 1000000
theorem RkS.below {w wx : World} {Q : Nat} {r : List UInt8} {bad : Bool} (h : RkS w wx Q r bad) : Below w.heap.size w wx := by
  obtain ⟨_, _, _, _, _, _, _, h, _⟩ := h; exact h
theorem RkS.lt {w wx : World} {Q : Nat} {r : List UInt8} {bad : Bool} (h : RkS w wx Q r bad) : Q < wx.heap.size := by
  obtain ⟨_, _, _, h, _⟩ := h; exact (Array.getElem?_eq_some_iff.1 h).1
theorem RkS.cell {w wx : World} {Q : Nat} {r : List UInt8} {bad : Bool} (h : RkS w wx Q r bad) : wx.cell? ⟨Q, 1, none⟩ = some (.bool bad) := by
  obtain ⟨_, _, _, h, _⟩ := h; exact h.cell1
theorem RkS.carry {w wx wy : World} {Q : Nat} {r : List UInt8} {bad : Bool} (h : RkS w wx Q r bad) (hb : Below wx.heap.size wx wy) : RkS w wy Q r bad := by
  obtain ⟨a, n, c, h1, h2, h3, h4, h5, h6⟩ := h
  exact ⟨a, n, c, h1.carry hb, h2, h3, h4, h5.trans (hb.mono h5.size), h6⟩
theorem RkS.low {w wx wy : World} {Q : Nat} {r : List UInt8} {bad : Bool} (h : RkS w wx Q r bad) (hb : Below (Q + 1) wx wy) : RkS w wy Q r bad := by
  obtain ⟨a, n, c, h1, h2, h3, h4, h5, h6⟩ := h
  exact ⟨a, n, c, (hb.block Q (Nat.lt_succ_self _)).trans h1, h2, h3, h4, h5.trans (hb.mono (Nat.le_succ_of_le h4)), h6⟩
theorem RkS.set {w wx : World} {Q X : Nat} {r : List UInt8} {bad : Bool} (h : RkS w wx Q r bad) (hX : Q < X) (j : Nat) (u : Value) : RkS w (wx.setCell ⟨X, j, none⟩ u) Q r bad := by
  obtain ⟨a, n, c, h1, h2, h3, h4, h5, h6⟩ := h
  exact ⟨a, n, c, (heap_setCell_other wx ⟨X, j, none⟩ Q u (fun e : Q = X => by omega)).trans h1, h2, h3, h4, belowX_set h5 (by omega) j u, h6⟩
def LoQ (Q : Nat) (w0 wx : World) : Prop := w0.heap.size ≤ wx.heap.size ∧ ∀ k, k < w0.heap.size → k ≠ Q → wx.heap[k]? = w0.heap[k]?
theorem LoQ.refl (Q : Nat) (w : World) : LoQ Q w w := ⟨Nat.le_refl _, fun _ _ _ => rfl⟩
theorem LoQ.carry {Q : Nat} {w0 wx wy : World} (h : LoQ Q w0 wx) (hb : Below wx.heap.size wx wy) : LoQ Q w0 wy :=
  ⟨Nat.le_trans h.1 hb.size, fun k hk hq => (hb.block k (Nat.lt_of_lt_of_le hk h.1)).trans (h.2 k hk hq)⟩
theorem LoQ.grown {Q : Nat} {w0 wx wy : World} (h : LoQ Q w0 wx) (hg : wx.grownBy wy (some Q)) (hs : wx.heap.size ≤ wy.heap.size) : LoQ Q w0 wy :=
  ⟨Nat.le_trans h.1 hs, fun k hk hq => (hg.block k (Nat.lt_of_lt_of_le hk h.1) (fun e => hq (Option.some.inj e))).trans (h.2 k hk hq)⟩
theorem LoQ.set {Q X : Nat} {w0 wx : World} (h : LoQ Q w0 wx) (hX : w0.heap.size ≤ X) (j : Nat) (u : Value) : LoQ Q w0 (wx.setCell ⟨X, j, none⟩ u) :=
  ⟨by simpa using h.1, fun k hk hq => (heap_setCell_other wx ⟨X, j, none⟩ k u (fun e : k = X => by omega)).trans (h.2 k hk hq)⟩
theorem OwG.loq {α : Type} {sz : Nat} {ec : α → List Value} {t : TypeId} {Q : Nat} {w0 wx : World} {base : Nat} {v : Value} {l : List α} (h : OwG sz ec t w0 base v l) (hq : Q < base) (hl : LoQ Q w0 wx) : OwG sz ec t wx base v l := by
  refine ⟨h.1, ?_⟩
  rcases h.2 with h | ⟨g, cap, cur, e, h1, h2, h3⟩
  · exact .inl h
  · exact .inr ⟨g, cap, cur, e, h1, (hl.2 g (Array.getElem?_eq_some_iff.1 h2).1 (by omega)).trans h2, h3⟩
def RkC (w wx wy : World) (Q : Nat) (r' : List UInt8) (bad' : Bool) : Prop := RkS w wy Q r' bad' ∧ KeepT 53 wx wy ∧ ∀ w0, LoQ Q w0 wx → LoQ Q w0 wy
theorem rkC_of {w wx wy : World} {Q : Nat} {a : Option Addr} {n c : Nat} {r r' : List UInt8} {bad' : Bool} (hrd : Rd w (.slice a n c) r) (hge : w.heap.size ≤ Q) (hb : Below w.heap.size w wx) (hl : r'.length ≤ 1000000) (hP : RdrP Q (.slice a n c) r wx r' bad' wy) : RkC w wx wy Q r' bad' := by
  obtain ⟨a2, c2, hs, hat, hg, hk⟩ := hP
  have hb2 : Below w.heap.size w wy := hb.grown hg hb.size fun k hk => by
    have : k = Q := by simpa using hk.symm
    omega
  exact ⟨⟨a2, _, c2, hat, rfl, hs.1 w hrd, hge, hb2, hl⟩, hk, fun w0 h0 => h0.grown hg hg.size⟩
theorem num_rk (most : Nat) {w wx : World} {Q : Nat} {r : List UInt8} {bad : Bool} (h : RkS w wx Q r bad) :
    Calls Tryd.prog 18 #[.pointer (some ⟨Q, 0, none⟩), .int .u64 most] wx fun e wy => ∃ m r' bad', e = .returned (.int .u64 (m : Nat)) ∧ NumR most r bad m r' bad' ∧ RkC w wx wy Q r' bad' := by
  obtain ⟨a, n, c, h1, h2, h3, h4, h5, h6⟩ := h
  refine (number_gen Q a n c r bad most wx h1 (h3.carry h5) h2 h6).mono ?_
  rintro e wy ⟨m, r', bad', rfl, hN, hP⟩
  exact ⟨m, r', bad', rfl, hN, rkC_of h3 h4 h5 (Nat.le_trans hN.le.2 h6) hP⟩
theorem txt_rk {w wx : World} {Q : Nat} {r : List UInt8} {bad : Bool} (h : RkS w wx Q r bad) :
    Calls Tryd.prog 19 #[.pointer (some ⟨Q, 0, none⟩)] wx fun e wy => ∃ s r' bad', e = .returned (.string (bs s)) ∧ TxtR r bad s r' bad' ∧ RkC w wx wy Q r' bad' := by
  obtain ⟨a, n, c, h1, h2, h3, h4, h5, h6⟩ := h
  refine (text_gen Q a n c r bad wx h1 (h3.carry h5) h2 h6).mono ?_
  rintro e wy ⟨s, r', bad', rfl, hN, hP⟩
  exact ⟨s, r', bad', rfl, hN, rkC_of h3 h4 h5 (Nat.le_trans hN.le h6) hP⟩

end Go.Proofs.YtmeaiocohalphaaDoor

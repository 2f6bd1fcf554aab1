/-
  What block.cutKey, cutEnd and cutEntry do.
-/
import Derived.Test.YtmamkkopbegjaaaBk5
namespace Go.Proofs.Ytmamkkopbegjaaa
open Go.RowKit
set_option linter.unusedVariables false
set_option linter.unusedSimpArgs false

theorem bs_addK (a b : List UInt8) : bs a ++ bs b = bs (a ++ b) := by
  apply ByteArray.ext
  simp [bs]
def CkP (A : List UInt8) (a : Option Addr) (n c : Nat) (l : List UInt8) (e : Ending) : Prop :=
  (∃ k r a2 n2 c2, cutK A l = some (k, r) ∧ e = .returned (.tuple #[.string (bs k), .slice a2 n2 c2, .bool true]) ∧ n2 = r.length ∧ ∀ wx, Rd wx (.slice a n c) l → Rd wx (.slice a2 n2 c2) r) ∨
  (cutK A l = none ∧ ∃ (k : List UInt8) (a2 : Option Addr) (n2 c2 : Nat), e = .returned (.tuple #[.string (bs k), .slice a2 n2 c2, .bool false]))
theorem cutK_n1 {A l : List UInt8} (h : cutW A.length l = none) : cutK A l = none := by simp [cutK, h]
theorem cutK_n2 {A l q : List UInt8} {m : Nat} (h : cutW A.length l = some (m, q)) (h2 : ct q = none) : cutK A l = none := by simp [cutK, h, h2]
theorem cutK_s {A l q s z : List UInt8} {m : Nat} (h : cutW A.length l = some (m, q)) (h2 : ct q = some (s, z)) : cutK A l = if cmn A (A.take m ++ s) = m then some (A.take m ++ s, z) else none := by simp [cutK, h, h2]

theorem byteT_bk (w : World) : Calls Try.prog 42 #[.bool true] w fun e w' => e = .returned (.int .u8 1) ∧ w' = w := byteOf_bk true w
theorem byteF_bk (w : World) : Calls Try.prog 42 #[.bool false] w fun e w' => e = .returned (.int .u8 0) ∧ w' = w := byteOf_bk false w
def CvP (a : Option Addr) (n c : Nat) (l : List UInt8) (e : Ending) : Prop :=
  (∃ (d : Bool) (v r : List UInt8) (a2 : Option Addr) (n2 c2 : Nat), cutV l = some ((d, v), r) ∧ e = .returned (.tuple #[.bool d, .string (bs v), .slice a2 n2 c2, .bool true]) ∧ n2 = r.length ∧ ∀ wx, Rd wx (.slice a n c) l → Rd wx (.slice a2 n2 c2) r) ∨
  (cutV l = none ∧ ∃ (d : Bool) (v : List UInt8) (a2 : Option Addr) (n2 c2 : Nat), e = .returned (.tuple #[.bool d, .string (bs v), .slice a2 n2 c2, .bool false]))

def CeP (y : Ent) (a : Option Addr) (n c : Nat) (l : List UInt8) (e : Ending) : Prop :=
  (∃ (x : Ent) (r : List UInt8) (a2 : Option Addr) (n2 c2 : Nat), cutEn y l = some (x, r) ∧ e = .returned (.tuple #[.agg #[.string (bs x.1), .int .i64 x.2.1, .bool x.2.2.1, .string (bs x.2.2.2)], .slice a2 n2 c2, .bool true]) ∧ n2 = r.length ∧ ∀ wx, Rd wx (.slice a n c) l → Rd wx (.slice a2 n2 c2) r) ∨
  (cutEn y l = none ∧ ∃ (a2 : Option Addr) (n2 c2 : Nat), e = .returned (.tuple #[.agg #[.string (bs zE.1), .int .i64 zE.2.1, .bool zE.2.2.1, .string (bs zE.2.2.2)], .slice a2 n2 c2, .bool false]))
theorem cutEn_n1 {y : Ent} {l : List UInt8} (h : cutK y.1 l = none) : cutEn y l = none := by simp [cutEn, h]
theorem cutEn_n2 {y : Ent} {l q k : List UInt8} (h : cutK y.1 l = some (k, q)) (h2 : cutW 1099511627776 q = none) : cutEn y l = none := by simp [cutEn, h, h2]
theorem cutEn_n3 {y : Ent} {l q k z : List UInt8} {s : Nat} (h : cutK y.1 l = some (k, q)) (h2 : cutW 1099511627776 q = some (s, z)) (h3 : cutV z = none) : cutEn y l = none := by simp [cutEn, h, h2, h3]
theorem cutEn_s {y : Ent} {l q k z v r : List UInt8} {s : Nat} {d : Bool} (h : cutK y.1 l = some (k, q)) (h2 : cutW 1099511627776 q = some (s, z)) (h3 : cutV z = some ((d, v), r)) : cutEn y l = if (entOk (k, (s : Int), d, v) && ahdM y (k, (s : Int), d, v)) = true then some ((k, (s : Int), d, v), r) else none := by simp only [cutEn, h, h2, h3]
theorem cutK_len {A l k r : List UInt8} (h : cutK A l = some (k, r)) : r.length ≤ l.length := by
  have := congrArg List.length (cutK_can h)
  simp only [List.length_append] at this
  omega
end Go.Proofs.Ytmamkkopbegjaaa

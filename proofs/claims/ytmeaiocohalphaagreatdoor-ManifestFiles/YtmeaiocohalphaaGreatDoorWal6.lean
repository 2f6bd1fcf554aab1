/-
  What wal's put and refused do.
-/
import Derived.Test.YtmeaiocohalphaaGreatDoorRegL
import Derived.Test.YtmeaiocohalphaaGreatDoorMathW3
import Derived.Test.YtmeaiocohalphaaGreatDoorDMay
import Derived.Laws.OwnMore
import Derived.Test.YtmeaiocohalphaaGreatDoorFiKit
import Derived.Laws.StructEq
import Derived.Test.YtmeaiocohalphaaGreatDoorRegT
import Derived.Test.YtmeaiocohalphaaGreatDoorFsTop2
import Derived.Test.YtmeaiocohalphaaGreatDoorFsTop4
import Derived.Test.YtmeaiocohalphaaGreatDoorFiApart
set_option maxHeartbeats 2000000
set_option maxRecDepth 100000
namespace Go.Proofs.YtmeaiocohalphaaGreatDoor
open Go.RowKit
set_option linter.unusedVariables false
set_option linter.unusedSimpArgs false
def whN (n : Nat) : Nat := max 1 ((n + 127) / 128)
def padM (l : List UInt8) : List UInt8 := l ++ List.replicate (128 - l.length) 0
def blkM (b : List UInt8) : List (List UInt8) := (List.range (whN b.length)).map fun i => padM ((b.drop (128 * i)).take 128)
def curN : List UInt8 := [99, 117, 114, 114, 101, 110, 116]
def nexN : List UInt8 := [110, 101, 120, 116]
theorem whN_le (n : Nat) : n ≤ 128 * whN n := by unfold whN; omega
theorem whN_pos (n : Nat) : 1 ≤ whN n := by unfold whN; omega
theorem whN_top {n : Nat} (h : n ≤ 16384) : whN n ≤ 128 := by unfold whN; omega
theorem blkM_len (b : List UInt8) : (blkM b).length = whN b.length := by simp [blkM]
theorem padM_len {l : List UInt8} (h : l.length ≤ 128) : (padM l).length = 128 := by simp [padM]; omega
theorem blkM_get (b : List UInt8) (i : Nat) (h : i < (blkM b).length) : (blkM b)[i] = padM ((b.drop (128 * i)).take 128) := by simp [blkM]
def fulB (b : List UInt8) : List UInt8 := b ++ List.replicate (128 * whN b.length - b.length) 0
theorem fulB_len (b : List UInt8) : (fulB b).length = 128 * whN b.length := by
 have := whN_le b.length
 simp [fulB]; omega
theorem ful_get (b : List UInt8) (j : Nat) (h : j < (fulB b).length) : (fulB b)[j] = b.getD j 0 := by
 unfold fulB at *
 by_cases hj : j < b.length
 ·rw [List.getElem_append_left hj, List.getD_eq_getElem?_getD, List.getElem?_eq_getElem hj]; rfl
 ·rw [List.getElem_append_right (by omega), List.getElem_replicate, List.getD_eq_getElem?_getD, List.getElem?_eq_none (by omega)]; rfl
theorem padM_get (b : List UInt8) (i j : Nat) (h : j < (padM ((b.drop (128 * i)).take 128)).length) (hj : j < 128) : (padM ((b.drop (128 * i)).take 128))[j] = b.getD (128 * i + j) 0 := by
 unfold padM at *
 by_cases h1 : 128 * i + j < b.length
 ·have h2 : j < ((b.drop (128 * i)).take 128).length := by rw [List.length_take, List.length_drop]; omega
  rw [List.getElem_append_left h2, List.getElem_take, List.getElem_drop, List.getD_eq_getElem?_getD, List.getElem?_eq_getElem h1]; rfl
 ·have h2 : ¬ j < ((b.drop (128 * i)).take 128).length := by rw [List.length_take, List.length_drop]; omega
  rw [List.getElem_append_right (by omega), List.getElem_replicate, List.getD_eq_getElem?_getD, List.getElem?_eq_none (by omega)]; rfl
theorem piece_ful (b : List UInt8) {i : Nat} (h : i < whN b.length) : padM ((b.drop (128 * i)).take 128) = ((fulB b).drop (128 * i)).take 128 := by
 have hl := fulB_len b
 have h1 : (padM ((b.drop (128 * i)).take 128)).length = 128 := padM_len (by rw [List.length_take]; omega)
 apply List.ext_getElem
 ·rw [h1, List.length_take, List.length_drop, hl]; omega
 ·intro j h2 h3
  rw [h1] at h2
  rw [padM_get b i j _ h2, List.getElem_take, List.getElem_drop, ful_get]
theorem blkM_flat (b : List UInt8) : (blkM b).flatten = fulB b := by
 have key : ∀ k, k ≤ whN b.length → ((List.range k).map fun i => padM ((b.drop (128 * i)).take 128)).flatten = (fulB b).take (128 * k) := by
  intro k
  induction k with
  | zero => intro _; simp
  | succ k ih =>
   intro hk
   rw [List.range_succ, List.map_append, List.flatten_append, ih (by omega), List.map_cons, List.map_nil, List.flatten_cons, List.flatten_nil, List.append_nil, piece_ful b (by omega)]
   have e : 128 * (k + 1) = 128 * k + 128 := by omega
   rw [e, List.take_add]
 unfold blkM
 rw [key _ (Nat.le_refl _), ← fulB_len, List.take_length]
def storM (f : Fsd) (s b : List UInt8) : Fsd × Int :=
 if fsE f ≠ 0 then (fz, fsE f) else if 16384 < b.length then (fz, 3)
 else if (createFs f s (whN b.length : Nat)).2 ≠ 0 then (fz, (createFs f s (whN b.length : Nat)).2)
 else if (putsFs (createFs f s (whN b.length : Nat)).1 s 0 (blkM b)).2 ≠ 0 then (fz, (putsFs (createFs f s (whN b.length : Nat)).1 s 0 (blkM b)).2)
 else ((putsFs (createFs f s (whN b.length : Nat)).1 s 0 (blkM b)).1, 0)
def fetE (f : Fsd) (s : List UInt8) (n : Int) : Int := if sizeE f s ≠ 0 then sizeE f s else if n < 0 ∨ ((blksW f s).flatten.length : Int) < n then 2 else 0
def fetB (f : Fsd) (s : List UInt8) (n : Int) : List UInt8 := if fetE f s n = 0 then (blksW f s).flatten.take n.toNat else []
def savM (f : Fsd) (V : Vrs) : Fsd × Int :=
 if fsE f ≠ 0 then (fz, fsE f) else if chkV V ≠ 0 then (fz, chkV V)
 else if (storM f nexN (tx (verB V))).2 ≠ 0 then (fz, (storM f nexN (tx (verB V))).2)
 else renameFs (storM f nexN (tx (verB V))).1 nexN curN
def hldE (b : List UInt8) : Int := match ct b with
 | none => 8
 | some (s, r) => if b = fulB (tx s) ∧ redE s = 0 then 0 else 8
def hldV (b : List UInt8) : Vrs := match ct b with
 | none => zerV
 | some (s, r) => if b = fulB (tx s) ∧ redE s = 0 then redV s else zerV
def lodE (f : Fsd) : Int := if sizeE f curN ≠ 0 then sizeE f curN else hldE (blksW f curN).flatten
def lodV (f : Fsd) : Vrs := if sizeE f curN ≠ 0 then zerV else hldV (blksW f curN).flatten
theorem hldE_none {b : List UInt8} (e : ct b = none) : hldE b = 8 := by unfold hldE; rw [e]
theorem hldV_none {b : List UInt8} (e : ct b = none) : hldV b = zerV := by unfold hldV; rw [e]
theorem hldE_some {b s r : List UInt8} (e : ct b = some (s, r)) : hldE b = if b = fulB (tx s) ∧ redE s = 0 then 0 else 8 := by unfold hldE; rw [e]
theorem hldV_some {b s r : List UInt8} (e : ct b = some (s, r)) : hldV b = if b = fulB (tx s) ∧ redE s = 0 then redV s else zerV := by unfold hldV; rw [e]
theorem tx_verB {V : Vrs} (h : chkV V = 0) : (tx (verB V)).length ≤ 6010 := by
 have h1 := verB_len h
 have h2 := tx_lenB (verB V) (by omega)
 omega
theorem hld_ok {b : List UInt8} (h : hldE b = 0) : ∃ V, chkV V = 0 ∧ b = fulB (tx (verB V)) ∧ hldV b = V := by
 cases e : ct b with
 | none => rw [hldE_none e] at h; cases h
 | some p =>
  obtain ⟨s, r⟩ := p
  rw [hldE_some e] at h
  by_cases h1 : b = fulB (tx s) ∧ redE s = 0
  ·obtain ⟨a1, a2, a3⟩ := redE_ok h1.2
   refine ⟨redV s, a2, by rw [a3]; exact h1.1, ?_⟩
   rw [hldV_some e, if_pos h1]
  ·rw [if_neg h1] at h; cases h
theorem hld_err {b : List UInt8} (h : hldE b ≠ 0) : hldE b = 8 ∧ hldV b = zerV := by
 cases e : ct b with
 | none => exact ⟨hldE_none e, hldV_none e⟩
 | some p =>
  obtain ⟨s, r⟩ := p
  rw [hldE_some e] at h ⊢
  rw [hldV_some e]
  by_cases h1 : b = fulB (tx s) ∧ redE s = 0
  ·rw [if_pos h1] at h; exact absurd rfl h
  ·rw [if_neg h1, if_neg h1]; exact ⟨rfl, rfl⟩
theorem hld_long {b : List UInt8} (h : 16384 < b.length) : hldE b = 8 ∧ hldV b = zerV := by
 refine hld_err fun h0 => ?_
 obtain ⟨V, h1, h2, _⟩ := hld_ok h0
 have h3 := tx_verB h1
 have h4 := fulB_len (tx (verB V))
 rw [← h2] at h4
 have : whN (tx (verB V)).length ≤ 128 := whN_top (by omega)
 omega
theorem flat_128 : ∀ (l : List (List UInt8)), (∀ b ∈ l, b.length = 128) → l.flatten.length = 128 * l.length
 | [], _ => rfl
 | b :: l, h => by
  rw [List.flatten_cons, List.length_append, flat_128 l (fun x hx => h x (List.mem_cons_of_mem _ hx)), h b List.mem_cons_self, List.length_cons]
  omega
theorem blks_flat (f : Fsd) (s : List UInt8) : (blksW f s).flatten.length = 128 * (blksW f s).length := flat_128 _ blks_128
/-! ### what is stored -/
theorem puts_sets {f : Fsd} {s : List UInt8} {l : List (List UInt8)} (hok : okFs f) (hs : sizeE f s = 0) : ∀ k, k ≤ l.length → (putsN f s 0 l k).2 = 0 →
  okFs (putsN f s 0 l k).1 ∧ sizeE (putsN f s 0 l k).1 s = 0 ∧ (putsN f s 0 l k).1.2 = f.2 ∧ k ≤ (blksW f s).length ∧ blksW (putsN f s 0 l k).1 s = l.take k ++ (blksW f s).drop k
 | 0, _, _ => ⟨hok, hs, rfl, Nat.zero_le _, by simp [putsN]⟩
 | k + 1, hk, h => by
  rw [putsN] at h ⊢
  by_cases h0 : (putsN f s 0 l k).2 = 0
  ·rw [if_neg (fun e => e h0)] at h ⊢
   obtain ⟨a1, a2, a3, a4, a5⟩ := puts_sets hok hs k (by omega) h0
   obtain ⟨j, e, hj, hset, p1, p2, p3, p4, _⟩ := put_set h
   obtain rfl : j = k := by omega
   rw [a5, List.length_append, List.length_take, List.length_drop] at hj
   refine ⟨p1, p4, p2.trans a3, by omega, ?_⟩
   rw [hset, a5]
   have hl : (l.take j).length = j := by rw [List.length_take]; omega
   have hj2 : j < (blksW f s).length := by omega
   rw [List.set_append_right _ _ (by omega), hl, Nat.sub_self, List.drop_eq_getElem_cons hj2, List.set_cons_zero, List.take_succ_eq_append_getElem (by omega)]
   have e2 : l.getD j [] = l[j] := by rw [List.getD_eq_getElem?_getD, List.getElem?_eq_getElem (by omega)]; rfl
   rw [e2, List.append_assoc]
   rfl
  ·rw [if_pos h0] at h
   exact absurd h h0
theorem stor_ok {f : Fsd} {s b : List UInt8} (h : (storM f s b).2 = 0) : ∃ y : Fsd, storM f s b = (y, 0) ∧ okFs f ∧ b.length ≤ 16384 ∧ (createFs f s (whN b.length : Nat)).2 = 0 ∧ putsFs (f.1, f.2.1, mkL f s (whN b.length : Nat), f.2.2.2) s 0 (blkM b) = (y, 0) ∧ okFs y ∧ sizeE y s = 0 ∧ blksW y s = blkM b ∧ y.2 = (f.2.1, mkL f s (whN b.length : Nat), f.2.2.2) ∧
  okFs (f.1, f.2.1, mkL f s (whN b.length : Nat), f.2.2.2) ∧ sizeE (f.1, f.2.1, mkL f s (whN b.length : Nat), f.2.2.2) s = 0 ∧ (blksW (f.1, f.2.1, mkL f s (whN b.length : Nat), f.2.2.2) s).length = whN b.length := by
 unfold storM at h ⊢
 by_cases h0 : fsE f = 0
 ·rw [if_neg (fun e => e h0)] at h ⊢
  by_cases h1 : 16384 < b.length
  ·rw [if_pos h1] at h; cases h
  ·rw [if_neg h1] at h ⊢
   by_cases h2 : (createFs f s (whN b.length : Nat)).2 = 0
   ·rw [if_neg (fun e => e h2)] at h ⊢
    obtain ⟨c0, c1, c2, c3, c4, _⟩ := create_all h2
    rw [c1] at h ⊢
    by_cases h3 : (putsFs (f.1, f.2.1, mkL f s (whN b.length : Nat), f.2.2.2) s 0 (blkM b)).2 = 0
    ·rw [if_neg (fun e => e h3)]
     obtain ⟨p1, p2, p3, p4, p5⟩ := puts_sets c2 c3 (blkM b).length (Nat.le_refl _) h3
     have hlen : (blksW (f.1, f.2.1, mkL f s (whN b.length : Nat), f.2.2.2) s).length = whN b.length := by
      have := size_blks c3
      rw [c4] at this
      omega
     refine ⟨_, rfl, c0, by omega, rfl, Prod.ext rfl h3, p1, p2, ?_, p3, c2, c3, hlen⟩
     refine p5.trans ?_
     rw [List.take_length, blkM_len, List.drop_eq_nil_of_le (by omega), List.append_nil]
    ·rw [if_pos h3] at h; exact absurd h h3
   ·rw [if_pos h2] at h; exact absurd h h2
 ·rw [if_pos h0] at h; exact absurd h h0
theorem stor_err {f : Fsd} {s b : List UInt8} (h : (storM f s b).2 ≠ 0) : (storM f s b).1 = fz := by
 unfold storM at *
 split
 ·rfl
 ·split
  ·rfl
  ·split
   ·rfl
   ·split
    ·rfl
    ·rename_i h0 h1 h2 h3
     rw [if_neg h0, if_neg h1, if_neg h2, if_neg h3] at h
     exact absurd rfl h
theorem puts_err {f : Fsd} {s : List UInt8} {at0 : Int} {l : List (List UInt8)} : ∀ k, (putsN f s at0 l k).2 ≠ 0 → (putsN f s at0 l k).1 = fz
 | 0, h => absurd rfl h
 | k + 1, h => by
  rw [putsN] at h ⊢
  split at h
  ·rename_i h0; rw [if_pos h0]; exact puts_err k h0
  ·rename_i h0; rw [if_neg h0]; exact put_err h
def stoN (f : Fsd) (s b : List UInt8) (k : Nat) : Fsd × Int :=
 if (createFs f s (whN b.length : Nat)).2 ≠ 0 then createFs f s (whN b.length : Nat) else putsN (createFs f s (whN b.length : Nat)).1 s 0 (blkM b) k
theorem stoN_zero (f : Fsd) (s b : List UInt8) : stoN f s b 0 = createFs f s (whN b.length : Nat) := by
 unfold stoN
 split
 ·rfl
 ·rename_i h
  rw [putsN]
  exact Prod.ext rfl (Decidable.not_not.1 h).symm
theorem stoN_next {f : Fsd} {s b : List UInt8} {k : Nat} (h : (stoN f s b k).2 = 0) (hk : k < (blkM b).length) : stoN f s b (k + 1) = putFs (stoN f s b k).1 s k (blkM b)[k] := by
 by_cases h0 : (createFs f s (whN b.length : Nat)).2 ≠ 0
 ·unfold stoN at h
  rw [if_pos h0] at h; exact absurd h h0
 ·have e : ∀ j, stoN f s b j = putsN (createFs f s (whN b.length : Nat)).1 s 0 (blkM b) j := fun j => by unfold stoN; rw [if_neg h0]
  rw [e] at h
  rw [e, e, putsN, if_neg (fun h9 => h9 h), List.getD_eq_getElem?_getD, List.getElem?_eq_getElem hk, Int.zero_add]
  rfl
theorem stoN_end {f : Fsd} {s b : List UInt8} {k : Nat} (h0 : fsE f = 0) (h1 : b.length ≤ 16384) (hk : k ≤ whN b.length) (he : k = whN b.length ∨ (stoN f s b k).2 ≠ 0) : storM f s b = stoN f s b k := by
 have hT : stoN f s b k = stoN f s b (whN b.length) := by
  rcases he with rfl | he
  ·rfl
  ·unfold stoN at he ⊢
   by_cases c : (createFs f s (whN b.length : Nat)).2 ≠ 0
   ·rw [if_pos c, if_pos c]
   ·rw [if_neg c] at he
    rw [if_neg c, if_neg c]
    have := puts_stay he (whN b.length - k)
    rw [← this]; congr 1; omega
 rw [hT]
 unfold storM stoN
 rw [if_neg (by rw [h0]; simp), if_neg (by omega)]
 by_cases c : (createFs f s (whN b.length : Nat)).2 ≠ 0
 ·rw [if_pos c, if_pos c]
  exact Prod.ext (turn_err c).symm rfl
 ·rw [if_neg c, if_neg c]
  unfold putsFs
  rw [blkM_len]
  by_cases p : (putsN (createFs f s (whN b.length : Nat)).1 s 0 (blkM b) (whN b.length)).2 ≠ 0
  ·rw [if_pos p]
   exact Prod.ext (puts_err _ p).symm rfl
  ·rw [if_neg p]
   exact Prod.ext rfl (Decidable.not_not.1 p).symm
theorem stor_e1 {f : Fsd} {s b : List UInt8} (h : ¬ fsE f = 0) : storM f s b = (fz, fsE f) := by unfold storM; rw [if_pos h]
theorem stor_e2 {f : Fsd} {s b : List UInt8} (h0 : fsE f = 0) (h : 16384 < b.length) : storM f s b = (fz, 3) := by unfold storM; rw [if_neg (by rw [h0]; simp), if_pos h]
def fetN (L : List UInt8) (n k : Nat) : List UInt8 := (L.take n).take (128 * k) ++ List.replicate (n - 128 * k) 0
theorem fetN_zero (L : List UInt8) (n : Nat) : fetN L n 0 = List.replicate n 0 := by unfold fetN; simp
theorem fetN_len {L : List UInt8} {n : Nat} (h : n ≤ L.length) (k : Nat) : (fetN L n k).length = n := by
 unfold fetN
 rw [List.length_append, List.length_take, List.length_take, List.length_replicate]
 omega
theorem fetN_end {L : List UInt8} {n k : Nat} (h : n ≤ 128 * k) : fetN L n k = L.take n := by
 unfold fetN
 rw [List.take_of_length_le (by rw [List.length_take]; omega), show n - 128 * k = 0 by omega]
 simp
theorem fetN_next {L : List UInt8} {n k : Nat} (hn : n ≤ L.length) (hk : 128 * k < n) (hb : 128 * k + 128 ≤ L.length) : splice (fetN L n k) (128 * k) (((L.drop (128 * k)).take 128).take (n - 128 * k)) = fetN L n (k + 1) := by
 have hl1 : ((L.take n).take (128 * k)).length = 128 * k := by rw [List.length_take, List.length_take]; omega
 have e1 : ((L.drop (128 * k)).take 128).take (n - 128 * k) = ((L.take n).drop (128 * k)).take 128 := by rw [List.drop_take, List.take_take, List.take_take, Nat.min_comm]
 have hl2 : (((L.take n).drop (128 * k)).take 128).length = min (n - 128 * k) 128 := by rw [List.length_take, List.length_drop, List.length_take]; omega
 rw [e1]
 unfold splice fetN
 rw [hl2, List.take_left' hl1]
 have e3 : ((L.take n).take (128 * k) ++ List.replicate (n - 128 * k) (0 : UInt8)).drop (128 * k + min (n - 128 * k) 128) = List.replicate (n - 128 * (k + 1)) 0 := by
  rw [List.drop_append, List.drop_eq_nil_of_le (by rw [hl1]; omega), List.nil_append, hl1, List.drop_replicate]
  have e4 : n - 128 * k - (128 * k + min (n - 128 * k) 128 - 128 * k) = n - 128 * (k + 1) := by omega
  rw [e4]
 rw [e3, ← List.append_assoc, show 128 * (k + 1) = 128 * k + 128 by omega, List.take_add]
theorem flat_block : ∀ {l : List (List UInt8)} (h : ∀ b ∈ l, b.length = 128) {k : Nat} (hk : k < l.length), l[k] = (l.flatten.drop (128 * k)).take 128
 | x :: l, h, 0, _ => by
  have hx := h x List.mem_cons_self
  rw [List.getElem_cons_zero, List.flatten_cons, Nat.mul_zero, List.drop_zero, ← hx, List.take_left]
 | x :: l, h, k + 1, hk => by
  have hx := h x List.mem_cons_self
  rw [List.getElem_cons_succ, List.flatten_cons, List.drop_append, List.drop_eq_nil_of_le (by omega), List.nil_append, hx, show 128 * (k + 1) - 128 = 128 * k by omega]
  exact flat_block (fun b hb => h b (List.mem_cons_of_mem _ hb)) (by simpa using hk)
theorem blks_piece {f : Fsd} {s : List UInt8} {k : Nat} (hk : k < (blksW f s).length) : (blksW f s)[k] = ((blksW f s).flatten.drop (128 * k)).take 128 := flat_block blks_128 hk
theorem fet_e1 {f : Fsd} {s : List UInt8} {n : Int} (h : ¬ sizeE f s = 0) : fetE f s n = sizeE f s ∧ fetB f s n = [] := by
 have e : fetE f s n = sizeE f s := by unfold fetE; rw [if_pos h]
 exact ⟨e, by unfold fetB; rw [e, if_neg h]⟩
theorem fet_e2 {f : Fsd} {s : List UInt8} {n : Int} (h0 : sizeE f s = 0) (h : n < 0 ∨ (128 * (blksW f s).length : Int) < n) : fetE f s n = 2 ∧ fetB f s n = [] := by
 have e : fetE f s n = 2 := by unfold fetE; rw [if_neg (by rw [h0]; simp), if_pos (by rw [blks_flat]; push_cast; exact h)]
 exact ⟨e, by unfold fetB; rw [e, if_neg (by decide)]⟩
theorem fet_ok {f : Fsd} {s : List UInt8} {n : Nat} (h0 : sizeE f s = 0) (h : n ≤ 128 * (blksW f s).length) : fetE f s n = 0 ∧ fetB f s n = (blksW f s).flatten.take n := by
 have e : fetE f s n = 0 := by
  unfold fetE
  rw [if_neg (by rw [h0]; simp), if_neg]
  rw [blks_flat]; push_cast; omega
 exact ⟨e, by unfold fetB; rw [e, if_pos rfl, Int.toNat_natCast]⟩
section
variable {α : Type}
def LieG (sz : Nat) (ec : α → List Value) (w : World) (b off : Nat) (l : List α) : Prop := ∀ j, (h : j < l.length) → ∀ i u, (ec l[j])[i]? = some u → w.cell? ⟨b, off + j * sz + i, none⟩ = some u
def RdG (sz : Nat) (ec : α → List Value) (w : World) (v : Value) (l : List α) : Prop :=
 (l = [] ∧ (v = .slice none 0 0 ∨ ∃ a c, v = .slice (some a) 0 c)) ∨
 ∃ b off c, v = .slice (some ⟨b, off, none⟩) l.length c ∧ l.length ≤ c ∧ c ≤ maxLen ∧ LieG sz ec w b off l
def OwG (sz : Nat) (ec : α → List Value) (t : TypeId) (w : World) (base : Nat) (v : Value) (l : List α) : Prop := w.ownsRow base t sz v l.length (l.flatMap ec)
variable {sz : Nat} {ec : α → List Value} {t : TypeId}
theorem LieG.carry {w w' : World} {b off : Nat} {l : List α} (h : LieG sz ec w b off l) (hb : Below w.heap.size w w') : LieG sz ec w' b off l := by
 intro j hj i u hu
 have h0 := h j hj i u hu
 rw [hb.cell (World.block_lt_of_cell? w _ h0)]; exact h0
theorem RdG.carry {w w' : World} {v : Value} {l : List α} (h : RdG sz ec w v l) (hb : Below w.heap.size w w') : RdG sz ec w' v l := by
 rcases h with h | ⟨b, off, c, rfl, hc, hm, hl⟩
 ·exact .inl h
 ·exact .inr ⟨b, off, c, rfl, hc, hm, hl.carry hb⟩
theorem RdG.form {w : World} {v : Value} {l : List α} (h : RdG sz ec w v l) : ∃ a c, v = .slice a l.length c := by
 rcases h with ⟨rfl, rfl | ⟨a, c, rfl⟩⟩ | ⟨b, off, c, rfl, _⟩ <;> exact ⟨_, _, rfl⟩
theorem RdG.len {w : World} {a : Option Addr} {n c : Nat} {l : List α} (h : RdG sz ec w (.slice a n c) l) : n = l.length := by
 obtain ⟨_, _, e⟩ := h.form; cases e; rfl
theorem RdG.atB {w w' : World} {a : Option Addr} {n c : Nat} {l : List α} (h : RdG sz ec w (.slice a n c) l) (hb : Below w.heap.size w w') (j : Nat) (hj : j < l.length) :
  ∃ b off, a = some ⟨b, off, none⟩ ∧ ∀ i u, (ec l[j])[i]? = some u → w'.cell? ⟨b, off + j * sz + i, none⟩ = some u := by
 rcases h.carry hb with ⟨rfl, _⟩ | ⟨b, off, c', e, _, _, hc⟩
 ·exact absurd hj (by simp)
 ·cases e
  exact ⟨b, off, rfl, hc j hj⟩
theorem flatG_len (hsz : ∀ x, (ec x).length = sz) : ∀ l : List α, (l.flatMap ec).length = l.length * sz
 | [] => by simp
 | x :: l => by rw [List.flatMap_cons, List.length_append, hsz, flatG_len hsz l, List.length_cons, Nat.add_mul]; omega
theorem flatG_get (hsz : ∀ x, (ec x).length = sz) : ∀ (l : List α) (j : Nat) (h : j < l.length) (i : Nat), i < sz → (l.flatMap ec)[j * sz + i]? = (ec l[j])[i]?
 | x :: l, 0, h, i, hi => by
  rw [List.flatMap_cons, List.getElem?_append_left (by rw [hsz]; omega)]; simp
 | x :: l, j + 1, h, i, hi => by
  have h0 := hsz x
  rw [List.flatMap_cons, List.getElem?_append_right (by rw [hsz, Nat.add_mul]; omega), hsz, show (j + 1) * sz + i - sz = j * sz + i by rw [Nat.add_mul]; omega]
  simpa using flatG_get hsz l j (by simpa using h) i hi
theorem flatG_at (hsz : ∀ x, (ec x).length = sz) {l : List α} {j : Nat} (h : j < l.length) {i : Nat} {u : Value} (hu : (ec l[j])[i]? = some u) : (l.flatMap ec)[j * sz + i]? = some u := by
 have hi : i < sz := by rw [← hsz l[j]]; exact (List.getElem?_eq_some_iff.1 hu).1
 rw [flatG_get hsz l j h i hi]; exact hu
theorem flatG_of (hsz : ∀ x, (ec x).length = sz) (h0 : 0 < sz) {l : List α} {k : Nat} {u : Value} (hu : (l.flatMap ec)[k]? = some u) : ∃ j, ∃ h : j < l.length, ∃ i, i < sz ∧ k = j * sz + i ∧ (ec l[j])[i]? = some u := by
 have hk := (List.getElem?_eq_some_iff.1 hu).1
 rw [flatG_len hsz] at hk
 have hj : k / sz < l.length := (Nat.div_lt_iff_lt_mul h0).2 hk
 have hi : k % sz < sz := Nat.mod_lt _ h0
 have e : k = k / sz * sz + k % sz := (Nat.div_add_mod' k sz).symm
 refine ⟨k / sz, hj, k % sz, hi, e, ?_⟩
 rw [← flatG_get hsz l (k / sz) hj (k % sz) hi, ← e]; exact hu
theorem OwG.rd (hsz : ∀ x, (ec x).length = sz) {w : World} {base : Nat} {v : Value} {l : List α} (h : OwG sz ec t w base v l) : RdG sz ec w v l := by
 rcases h.2 with ⟨rfl, hn⟩ | ⟨g, cap, cur, rfl, _, hg, hn, hm, hs, htake⟩
 ·exact .inl ⟨List.length_eq_zero_iff.1 hn, .inl rfl⟩
 ·refine .inr ⟨g, 0, cap, rfl, hn, hm, fun j hj i u hu => ?_⟩
  have := World.ownsRow.cells h (g := g) rfl (j * sz + i) u (flatG_at hsz hj hu)
  simpa [Addr.add_lit, Nat.add_assoc] using this
theorem OwG.form {w : World} {base : Nat} {v : Value} {l : List α} (h : OwG sz ec t w base v l) : ∃ a c, v = .slice a l.length c := by
 rcases h.2 with ⟨rfl, hn⟩ | ⟨g, cap, cur, rfl, _⟩
 ·rw [hn]; exact ⟨_, _, rfl⟩
 ·exact ⟨_, _, rfl⟩
theorem OwG.carry {w w' : World} {base : Nat} {v : Value} {l : List α} (h : OwG sz ec t w base v l) (hb : Below w.heap.size w w') : OwG sz ec t w' base v l := own_carry h hb
theorem OwG.mono {w : World} {base base' : Nat} {v : Value} {l : List α} (h : OwG sz ec t w base v l) (hb : base' ≤ base) : OwG sz ec t w base' v l := by
 refine ⟨h.1, ?_⟩
 rcases h.2 with h | ⟨g, cap, cur, e, h1, h2⟩
 ·exact .inl h
 ·exact .inr ⟨g, cap, cur, e, Nat.le_trans hb h1, h2⟩
theorem OwG.nil (w : World) (base : Nat) : OwG sz ec t w base (.slice none 0 0) ([] : List α) := World.ownsRow_nil w base _ _
def KeepG (t0 : TypeId) (w w' : World) : Prop := ∀ (k : Nat) (cs : Array Value) (t : TypeId) (fr : Nat × Nat), t ≠ t0 → w.heap[k]? = some (Obj.cells cs t fr) → w'.heap[k]? = some (Obj.cells cs t fr)
theorem KeepG.trans {t0 : TypeId} {w w1 w2 : World} (h : KeepG t0 w w1) (k : KeepG t0 w1 w2) : KeepG t0 w w2 := fun j cs t fr ht hj => k j cs t fr ht (h j cs t fr ht hj)
theorem KeepG.below {t0 : TypeId} {w w' : World} (h : Below w.heap.size w w') : KeepG t0 w w' := fun j cs t fr _ hj => (h.block j (Array.getElem?_eq_some_iff.1 hj).1).trans hj
theorem keepG_of {w w' : World} {base : Nat} {v : Value} {l : List α} (h : OwG sz ec t w base v l) (hg : w.grownBy w' v.ownBlock) : KeepG t w w' := by
 intro j cs t' fr ht hj
 rw [hg.block j (Array.getElem?_eq_some_iff.1 hj).1 ?_]
 ·exact hj
 ·intro e
  rcases h.2 with ⟨rfl, hn⟩ | ⟨g, cap, cur, rfl, _, hg2, _⟩
  ·cases e
  ·cases e
   rw [hj] at hg2
   cases hg2
   exact ht rfl
section
variable {P : Program} {ts : TypeId} {z : Value} {by_ : Nat}
theorem app_oneG (hsz : ∀ x, (ec x).length = sz) (h0 : 0 < sz) (hone : ∀ x, ∀ u ∈ ec x, u.oneCell' = true) (hts : P.underlying ts = some (.slice t)) (hinfo : (P.info? t).map (fun i => (i.zero, i.size, i.bytes)) = some (some z, sz, by_)) (hz : z.cells.size = sz)
  {w : World} {base : Nat} {v : Value} {l : List α} (h : OwG sz ec t w base v l) (hb : base ≤ w.heap.size) (hl : (l.length + 1) * by_ ≤ 140737488355328) (hl2 : l.length + 1 ≤ maxLen) (x : α) (cs : Array Value) (hcs : cs.toList = ec x) :
  ∃ g c w', (Builtin.append_ #[ts, ts] ts #[v, .slice (some ⟨w.heap.size, 0, none⟩) 1 1]).run P (w.alloc (.cells cs t)) = .ok (.slice (some ⟨g, 0, none⟩) (l.length + 1) c) w' ∧
   OwG sz ec t w' base (.slice (some ⟨g, 0, none⟩) (l.length + 1) c) (l ++ [x]) ∧ Below base w w' ∧ KeepG t w w' := by
 obtain ⟨w8, ew8⟩ : ∃ w8, w8 = w.alloc (.cells cs t) := ⟨_, rfl⟩
 have hn8 : ∀ j u, (ec x)[j]? = some u → w8.cell? ((⟨w.heap.size, 0, none⟩ : Addr).add j) = some u := by
  intro j u hj
  have := World.news_of_block (w := w.alloc (.cells cs t)) (heap_alloc_new w _) j u (by rw [← hcs] at hj; simpa using hj)
  rw [ew8]; simpa using this
 rw [← ew8]
 have hb8 : Below w.heap.size w w8 := by rw [ew8]; exact (Below.refl _ _).alloc (Nat.le_refl _) _
 obtain ⟨i0, hi, hz0, hz1, hz2⟩ := info_parts hinfo
 have q2 : w8.ownsRow base t sz v l.length (l.flatMap ec) := own_carry h hb8
 obtain ⟨v9, w9, hrun9, hown9, hg9, _⟩ := run_append_own (P := P) w8 base ts ts t i0 z sz by_ hts hi hz0 hz1 hz2 hz h0 _ _ _ q2 ⟨w.heap.size, 0, none⟩ 1 1 (ec x) (by rw [hsz]; omega) hn8 (hone x) hl2 hl (Nat.le_trans hb hb8.size)
 have hb9 : Below base w w9 := (hb8.mono hb).grown hg9 (Nat.le_trans hb hb8.size) fun k hk => (q2.lt k hk).1
 rcases hown9.2 with ⟨_, h1⟩ | ⟨g, cap, cur, h1, _⟩
 ·exact absurd h1 (by omega)
 ·subst h1
  refine ⟨g, cap, w9, hrun9, ?_, hb9, (KeepG.below hb8).trans (keepG_of (l := l) (ec := ec) q2 hg9)⟩
  have e : (l ++ [x]).flatMap ec = l.flatMap ec ++ ec x := by simp
  unfold OwG
  rw [e, List.length_append]
  exact hown9
theorem app_allG (hsz : ∀ x, (ec x).length = sz) (h0 : 0 < sz) (hone : ∀ x, ∀ u ∈ ec x, u.oneCell' = true) (hts : P.underlying ts = some (.slice t)) (hinfo : (P.info? t).map (fun i => (i.zero, i.size, i.bytes)) = some (some z, sz, by_)) (hz : z.cells.size = sz)
  {w : World} {base : Nat} {v : Value} {l : List α} (h : OwG sz ec t w base v l) (hb : base ≤ w.heap.size) {a : Option Addr} {n c : Nat} {m : List α} (hm : RdG sz ec w (.slice a n c) m) (hl : (l.length + m.length) * by_ ≤ 140737488355328) (hl2 : l.length + m.length ≤ maxLen) :
  ∃ b c' w', (Builtin.append_ #[ts, ts] ts #[v, .slice a n c]).run P w = .ok (.slice b (l ++ m).length c') w' ∧ OwG sz ec t w' base (.slice b (l ++ m).length c') (l ++ m) ∧ Below base w w' ∧ KeepG t w w' := by
 obtain rfl := hm.len
 obtain ⟨i0, hi, hz0, hz1, hz2⟩ := info_parts hinfo
 have q2 : w.ownsRow base t sz v l.length (l.flatMap ec) := h
 have key : ∀ ad : Addr, a = some ad → (∀ j u, (m.flatMap ec)[j]? = some u → w.cell? (ad.add j) = some u) → ∃ b c' w', (Builtin.append_ #[ts, ts] ts #[v, .slice a m.length c]).run P w = .ok (.slice b (l ++ m).length c') w' ∧ OwG sz ec t w' base (.slice b (l ++ m).length c') (l ++ m) ∧ Below base w w' ∧ KeepG t w w' := by
  rintro ad rfl hn8
  obtain ⟨v9, w9, hrun9, hown9, hg9, _⟩ := run_append_own (P := P) w base ts ts t i0 z sz by_ hts hi hz0 hz1 hz2 hz h0 _ _ _ q2 ad m.length c (m.flatMap ec) (flatG_len hsz m) hn8 (by
   intro u hu
   obtain ⟨x, _, hx⟩ := List.mem_flatMap.1 hu
   exact hone x u hx) hl2 hl hb
  have hb9 : Below base w w9 := (Below.refl _ _).grown hg9 hb fun k hk => (q2.lt k hk).1
  rw [← List.length_append, ← List.flatMap_append] at hown9
  have ho : OwG sz ec t w9 base v9 (l ++ m) := hown9
  obtain ⟨b, c', rfl⟩ := ho.form
  exact ⟨b, c', w9, hrun9, ho, hb9, keepG_of h hg9⟩
 rcases hm with ⟨rfl, e | ⟨x, d, e⟩⟩ | ⟨b, off, c', e, hc, hmm, hcell⟩
 ·cases e
  obtain ⟨b, c', rfl⟩ := h.form
  refine ⟨b, c', w, ?_, by simpa using h, Below.refl _ _, KeepG.below (Below.refl _ _)⟩
  rw [List.append_nil]
  exact run_append_owned_none (P := P) (w := w) base ts ts t i0 sz hts hi _ _ _ q2
 ·cases e
  exact key _ rfl (fun j u hj => by simp at hj)
 ·cases e
  refine key _ rfl fun k u hk => ?_
  obtain ⟨j, hj, i, hi2, e, hu⟩ := flatG_of hsz h0 hk
  have := hcell j hj i u hu
  rw [Addr.add_lit, e, ← Nat.add_assoc]; exact this
end
end
theorem ret_boolB {a b : Bool} (h : a = b) : Ending.returned (.bool a) = .returned (.bool b) := by rw [h]
theorem ret_i64B {a b : Int} (h : a = b) : Ending.returned (.int .i64 a) = .returned (.int .i64 b) := by rw [h]
def OwY (w : World) (base : Nat) (v : Value) (l : List UInt8) : Prop := w.ownsRow base 5 1 v l.length (u8v l)
theorem OwY.rd {w : World} {base : Nat} {v : Value} {l : List UInt8} (h : OwY w base v l) : Rd w v l := own_rd h
theorem OwY.carry {w w' : World} {base : Nat} {v : Value} {l : List UInt8} (h : OwY w base v l) (hb : Below w.heap.size w w') : OwY w' base v l := own_carry h hb
theorem OwY.form {w : World} {base : Nat} {v : Value} {l : List UInt8} (h : OwY w base v l) : ∃ a c, v = .slice a l.length c := by
 rcases h.2 with ⟨rfl, hn⟩ | ⟨g, cap, cur, rfl, _⟩
 ·rw [hn]; exact ⟨_, _, rfl⟩
 ·exact ⟨_, _, rfl⟩
theorem OwY.mono {w : World} {base base' : Nat} {v : Value} {l : List UInt8} (h : OwY w base v l) (hb : base' ≤ base) : OwY w base' v l := by
 refine ⟨h.1, ?_⟩
 rcases h.2 with h | ⟨g, cap, cur, e, h1, h2⟩
 ·exact .inl h
 ·exact .inr ⟨g, cap, cur, e, Nat.le_trans hb h1, h2⟩
theorem OwY.nil (w : World) (base : Nat) : OwY w base (.slice none 0 0) [] := World.ownsRow_nil w base _ _
theorem keepY_of {w w' : World} {base : Nat} {v : Value} {l : List UInt8} (h : OwY w base v l) (hg : w.grownBy w' v.ownBlock) : KeepG 5 w w' := by
 intro j cs t' fr ht hj
 rw [hg.block j (Array.getElem?_eq_some_iff.1 hj).1 ?_]
 ·exact hj
 ·intro e
  rcases h.2 with ⟨rfl, hn⟩ | ⟨g, cap, cur, rfl, _, hg2, _⟩
  ·cases e
  ·cases e
   rw [hj] at hg2
   cases hg2
   exact ht rfl
theorem app_y {w : World} {base : Nat} {v : Value} {l : List UInt8} (h : OwY w base v l) (hb : base ≤ w.heap.size) {vx : Value} {l2 : List UInt8} (h2 : Rd w vx l2) (hl : l.length + l2.length ≤ 1000000000) :
  ∃ a n c w', Hid (n = (l ++ l2).length) ∧ (Builtin.append_ #[23, 23] 23 #[v, vx]).run Tryz.prog w = .ok (.slice a n c) w' ∧ OwY w' base (.slice a n c) (l ++ l2) ∧ Below base w w' ∧ KeepG 5 w w' := by
 obtain ⟨i0, hi, hz0, hz1, hz2⟩ := info_parts Tryz.infoB
 have key : ∀ ad m c, vx = .slice (some ad) m c → m = l2.length → (∀ j u, (u8v l2)[j]? = some u → w.cell? (ad.add j) = some u) → ∃ a n c w', Hid (n = (l ++ l2).length) ∧ (Builtin.append_ #[23, 23] 23 #[v, vx]).run Tryz.prog w = .ok (.slice a n c) w' ∧ OwY w' base (.slice a n c) (l ++ l2) ∧ Below base w w' ∧ KeepG 5 w w' := by
  rintro ad m c rfl rfl hn8
  obtain ⟨v9, w9, hrun9, hown9, hg9, _⟩ := run_append_own (P := Tryz.prog) w base 23 23 5 i0 _ 1 1 Tryz.underlying23 hi hz0 hz1 hz2 rfl (by decide) _ _ _ h ad l2.length c (u8v l2) (by simp [u8v]) hn8 (u8v_oneCell l2) (by unfold maxLen; omega) (by omega) hb
  have hb9 : Below base w w9 := (Below.refl _ _).grown hg9 hb fun k hk => (h.lt k hk).1
  rw [← List.length_append, ← u8v_append] at hown9
  have ho : OwY w9 base v9 (l ++ l2) := hown9
  obtain ⟨b, c', rfl⟩ := ho.form
  exact ⟨b, _, c', w9, hide rfl, hrun9, ho, hb9, keepY_of h hg9⟩
 rcases h2 with ⟨rfl, rfl | ⟨x, d, rfl⟩⟩ | ⟨b, off, c', rfl, hc, hm, hcell⟩
 ·obtain ⟨b, c', rfl⟩ := h.form
  refine ⟨b, _, c', w, hide rfl, ?_, by simpa using h, Below.refl _ _, KeepG.below (Below.refl _ _)⟩
  rw [List.append_nil]
  exact run_append_owned_none (P := Tryz.prog) (w := w) base 23 23 5 i0 1 Tryz.underlying23 hi _ _ _ h
 ·exact key _ _ _ rfl rfl (fun j u hj => by simp [u8v] at hj)
 ·refine key _ _ _ rfl rfl fun j u hj => ?_
  obtain ⟨hj', rfl⟩ := u8v_getElem? l2 j u hj
  rw [Addr.add_lit]; exact hcell j hj'
theorem conv_y {w : World} {v : Value} {l : List UInt8} (h : Rd w v l) : (convert 23 9 v).run Tryz.prog w = .ok (.string (bs l)) w := conv_rd _ _ _ Tryz.underlying23 Tryz.underlying5 Tryz.underlying9 h
theorem wpList_runappY {P : Program} {w w' : World} {ops : Array Oper} {rest : List Oper} {o : Oper} {a : Act} {Q : Exit → Act → World → Prop} (hgd : o.guard = none) (s x : Operand) (t : TypeId)
  (ho : o.op = .call { callee := .builtin .append, args := #[s, x], argTypes := #[t, t] }) (hty : o.type = t) {v vx v' : Value} (hs : a.eval s = v) (hx : a.eval x = vx)
  (hrun : (Builtin.append_ #[t, t] t #[v, vx]).run P w = .ok v' w') (h : wpList P ops Q rest (a.put o.dst v') w') : wpList P ops Q (o :: rest) a w := by
 refine wpList_plain hgd fun K hK => ?_
 unfold Oper.wp execOp
 simp only [ho, hty, resolve, invoke, builtin, Sem.run_bind, Sem.run_pure, Result.andThen_ok, List.map_toArray, List.map_cons, List.map_nil, hs, hx, hrun]
 exact hK _ _ h
theorem small_y (n : Nat) (w : World) (hn : n < 18446744073709551616) : Calls Tryz.prog 86 #[.int .u64 n] w fun e w' => ∃ v, e = .returned v ∧ OwY w' w.heap.size v (sm n) ∧ Below w.heap.size w w' := small_any n w hn
theorem rsmall_y (n : Nat) (w : World) (hn : n < 18446744073709551616) : Calls Tryz.prog 133 #[.int .u64 n] w fun e w' => ∃ v, e = .returned v ∧ OwY w' w.heap.size v (sm n) ∧ Below w.heap.size w w' := rsmall_any n w hn
theorem text_y (s : List UInt8) (w : World) (hs : s.length ≤ 1000000) : Calls Tryz.prog 60 #[.string (bs s)] w fun e w' => ∃ v, e = .returned v ∧ OwY w' w.heap.size v (tx s) ∧ Below w.heap.size w w' := by
 have := text_any (bs s) w (by rw [bs_size]; omega)
 rwa [bs_toList] at this
theorem rtext_y (s : List UInt8) (w : World) (hs : s.length ≤ 1000000) : Calls Tryz.prog 63 #[.string (bs s)] w fun e w' => ∃ v, e = .returned v ∧ OwY w' w.heap.size v (tx s) ∧ Below w.heap.size w w' := by
 have := rtext_any (bs s) w (by rw [bs_size]; omega)
 rwa [bs_toList] at this
theorem belowX_drewN {B : Nat} {w w' : World} (h : Below B w w') (n : Nat) : Below B w (w'.drewN n) := ⟨h.os, h.tape, h.output, h.size, h.block⟩
def Bx (w : World) (p : Nat) (t : TypeId) (cs : Array Value) : Prop := w.heap[p]? = some (.cells cs t (0, 0))
theorem Bx.lt {w : World} {p : Nat} {t : TypeId} {cs : Array Value} (h : Bx w p t cs) : p < w.heap.size := (Array.getElem?_eq_some_iff.1 h).1
theorem Bx.carry {w w' : World} {p : Nat} {t : TypeId} {cs : Array Value} (h : Bx w p t cs) (hb : Below w.heap.size w w') : Bx w' p t cs := (hb.block _ h.lt).trans h
theorem Bx.keep {w w' : World} {p : Nat} {t t0 : TypeId} {cs : Array Value} (h : Bx w p t cs) (hk : KeepG t0 w w') (ht : t ≠ t0) : Bx w' p t cs := hk p _ _ _ ht h
theorem Bx.cell {w : World} {p : Nat} {t : TypeId} {cs : Array Value} (h : Bx w p t cs) (j : Nat) : w.cell? ⟨p, j, none⟩ = cs[j]? := cell_of_row w p j cs t (0, 0) h
theorem Bx.at {w : World} {p : Nat} {t : TypeId} {cs : Array Value} (h : Bx w p t cs) (j : Nat) {u : Value} (hu : cs[j]? = some u) : w.cell? ⟨p, j, none⟩ = some u := (h.cell j).trans hu
theorem Bx.fz {w : World} {p : Nat} {t : TypeId} {cs : Array Value} (h : Bx w p t cs) (j : Nat) : w.frozen? ⟨p, j, none⟩ = false := frozen_of_row w p j _ _ h
theorem Bx.new (w : World) (t : TypeId) (cs : Array Value) : Bx (w.alloc (.cells cs t)) w.heap.size t cs := heap_alloc_new w _
theorem Bx.put {w : World} {p : Nat} {t : TypeId} {cs : Array Value} (h : Bx w p t cs) (j : Nat) (v : Value) : Bx (w.setCell ⟨p, j, none⟩ v) p t (cs.setIfInBounds j v) := heap_setCell_same w p j cs t v h
theorem Bx.other {w : World} {p q : Nat} {t : TypeId} {cs : Array Value} (h : Bx w p t cs) (hne : p ≠ q) (j : Nat) (v : Value) : Bx (w.setCell ⟨q, j, none⟩ v) p t cs := (heap_setCell_other w ⟨q, j, none⟩ p v (fun e : p = q => hne e)).trans h
theorem keepX_set {w : World} {p : Nat} {t : TypeId} {cs : Array Value} (h : Bx w p t cs) (j : Nat) (v : Value) : KeepG t w (w.setCell ⟨p, j, none⟩ v) := by
 intro k cs' t' fr ht hk
 have hne : k ≠ p := by
  rintro rfl
  unfold Bx at h
  rw [h] at hk
  cases hk
  exact ht rfl
 exact (heap_setCell_other w ⟨p, j, none⟩ k v (fun e : k = p => hne e)).trans hk
theorem belowX_set {B : Nat} {W w : World} (h : Below B W w) {p : Nat} (hp : B ≤ p) (j : Nat) (v : Value) : Below B W (w.setCell ⟨p, j, none⟩ v) :=
 ⟨h.os, h.tape, h.output, by simpa using h.size, fun k hk => (heap_setCell_other w ⟨p, j, none⟩ k v (fun e : k = p => by omega)).trans (h.block k hk)⟩
theorem OwG.keep {α : Type} {sz : Nat} {ec : α → List Value} {t t0 : TypeId} {w w' : World} {base : Nat} {v : Value} {l : List α} (h : OwG sz ec t w base v l) (hk : KeepG t0 w w') (ht : t ≠ t0) : OwG sz ec t w' base v l := by
 refine ⟨h.1, ?_⟩
 rcases h.2 with h | ⟨g, cap, cur, e, h1, h2, h3⟩
 ·exact .inl h
 ·exact .inr ⟨g, cap, cur, e, h1, hk g _ _ _ ht h2, h3⟩
theorem rd_formX {w : World} {v : Value} {l : List UInt8} (h : Rd w v l) : ∃ a c, v = .slice a l.length c := by
 rcases h with ⟨rfl, rfl | ⟨a, c, rfl⟩⟩ | ⟨b, off, c, rfl, _⟩ <;> exact ⟨_, _, rfl⟩
theorem rd_cellX {w : World} {a : Option Addr} {n c : Nat} {l : List UInt8} (h : Rd w (.slice a n c) l) (j : Nat) (hj : j < l.length) : ∃ g off, a = some ⟨g, off, none⟩ ∧ w.cell? ⟨g, off + j, none⟩ = some (.int .u8 (l[j]).toNat) := by
 rcases h with ⟨rfl, _⟩ | ⟨b, off, c', e, _, _, hc⟩
 ·exact absurd hj (by simp)
 ·cases e
  exact ⟨b, off, rfl, hc j hj⟩
theorem subX_drop {b off n c k : Nat} {l : List UInt8} (hn : n = l.length) (hc : n ≤ c) (hm : c ≤ maxLen) (hk : k ≤ n) (hkc : k ≠ c) : ∀ wx, Rd wx (.slice (some ⟨b, off, none⟩) n c) l → Rd wx (.slice (some ⟨b, off + k, none⟩) (l.drop k).length (c - k)) (l.drop k) := by
 subst hn
 have hl : (l.drop k).length = l.length - k := List.length_drop
 intro wx h
 rcases h with ⟨h, _⟩ | ⟨b', off', c', e, h1, h2, h3⟩
 ·have : l.drop k = [] := by rw [h]; simp
  rw [this]
  exact .inl ⟨rfl, .inr ⟨_, _, rfl⟩⟩
 ·cases e
  refine .inr ⟨b, off + k, c - k, rfl, by omega, by omega, fun j hj => ?_⟩
  rw [List.getElem_drop, Nat.add_assoc]
  exact h3 (k + j) (by omega)
theorem sizeY (wx : World) : (sizeOf (Tryz.prog.elem 23)).run Tryz.prog wx = .ok 1 wx := by
 rw [show Tryz.prog.elem 23 = 5 by kernel_rfl]
 obtain ⟨i0, hi, hz0, hz1, hz2⟩ := info_parts Tryz.infoB
 simp [sizeOf, typeInfo, hi, hz1]
theorem sliceY {w : World} {a : Option Addr} {n c : Nat} {l : List UInt8} (h : Rd w (.slice a n c) l) (k : Nat) (hk : k ≤ l.length) :
  ∃ a2 c2, (∀ wx, (Instr.slice 23 (.slice a n c) (some (.int .i64 k)) none none).run Tryz.prog wx = .ok (.slice a2 (n - k) c2) wx) ∧ ∀ wx, Rd wx (.slice a n c) l → Rd wx (.slice a2 (n - k) c2) (l.drop k) := by
 obtain ⟨a', c', e⟩ := rd_formX h
 cases e
 have run : ∀ wx, (Instr.slice 23 (.slice a l.length c) (some (.int .i64 k)) none none).run Tryz.prog wx = .ok (sliced a k l.length c 1) wx := by
  intro wx
  rw [run_slice_l wx 23 a l.length c (by kernel_rfl) .i64 k (by omega) (by omega), sizeY wx]
  simp [Result.andThen]
 unfold sliced at run
 rcases h with ⟨rfl, e | ⟨x, d, e⟩⟩ | ⟨b, off, c', e, h1, h2, h3⟩
 ·cases e
  obtain rfl : k = 0 := by simpa using hk
  exact ⟨none, 0, by simpa using run, fun wx _ => by simpa using (show Rd wx (.slice none 0 0) [] from .inl ⟨rfl, .inl rfl⟩)⟩
 ·cases e
  obtain rfl : k = 0 := by simpa using hk
  by_cases hc : c = 0
  ·exact ⟨some x, c, by simpa [hc] using run, fun wx _ => by simpa using (show Rd wx (.slice (some x) 0 c) [] from .inl ⟨rfl, .inr ⟨_, _, rfl⟩⟩)⟩
  ·exact ⟨some (x.add 0), c, by simpa [hc] using run, fun wx _ => by simpa using (show Rd wx (.slice (some (x.add 0)) 0 c) [] from .inl ⟨rfl, .inr ⟨_, _, rfl⟩⟩)⟩
 ·cases e
  by_cases hck : c = k
  ·refine ⟨some ⟨b, off, none⟩, c - k, by simpa [hck] using run, fun wx _ => ?_⟩
   have e1 : l.drop k = [] := List.drop_of_length_le (by omega)
   rw [e1, show l.length - k = 0 by omega]
   exact .inl ⟨rfl, .inr ⟨_, _, rfl⟩⟩
  ·refine ⟨some ⟨b, off + k, none⟩, c - k, by simpa [hck, Addr.add_lit] using run, fun wx hx => ?_⟩
   have := subX_drop rfl h1 h2 hk (Ne.symm hck) wx hx
   rwa [List.length_drop] at this
theorem rd_takeX {w : World} {a : Option Addr} {n c : Nat} {l : List UInt8} (h : Rd w (.slice a n c) l) (k : Nat) (hk : k ≤ l.length) : n ≤ c ∧ Rd w (.slice a k c) (l.take k) := by
 rcases h with ⟨rfl, e | ⟨x, d, e⟩⟩ | ⟨b, off, c', e, h1, h2, h3⟩
 ·cases e
  obtain rfl : k = 0 := by simpa using hk
  exact ⟨Nat.le_refl _, .inl ⟨rfl, .inl rfl⟩⟩
 ·cases e
  obtain rfl : k = 0 := by simpa using hk
  exact ⟨Nat.zero_le _, .inl ⟨rfl, .inr ⟨_, _, rfl⟩⟩⟩
 ·cases e
  have e1 : (l.take k).length = k := by rw [List.length_take]; omega
  refine ⟨h1, .inr ⟨b, off, c, by rw [e1], by omega, h2, fun j hj => ?_⟩⟩
  rw [List.getElem_take]
  exact h3 j (by omega)
theorem wpList_slY {P : Program} {w : World} {ops : Array Oper} {rest : List Oper} {o : Oper} {a : Act} {Q : Exit → Act → World → Prop} (hgd : o.guard = none) (x lo : Operand) (t : TypeId) (ht : P.underlying t = some (.slice (P.elem t)))
  (ho : o.op = .slice t x (some lo) none none) {v vl v' : Value} (hx : a.eval x = v) (hlo : a.eval lo = vl) (hrun : ∀ wx, (Instr.slice t v (some vl) none none).run P wx = .ok v' wx) (h : wpList P ops Q rest (a.put o.dst v') w) : wpList P ops Q (o :: rest) a w := by
 refine wpList_plain hgd fun K hK => ?_
 unfold Oper.wp execOp
 simp only [ho, Option.map_some, Option.map_none, hx, hlo, run_sliceAt_slice w t _ _ _ _ ht, Sem.run_bind, hrun w, Result.andThen_ok, Sem.run_pure]
 exact hK _ _ h
def slLn9 : Value → Nat
 | .slice _ n _ => n
 | _ => 0
theorem splice_padM (l : List UInt8) : splice (List.replicate 128 0) 0 (l.take 128) = padM (l.take 128) := by
 rw [pad_splice]
 unfold padB padM
 rw [List.length_take]
 congr 2
 omega
theorem whN_go (n k : Nat) : k < whN n ↔ k = 0 ∨ 128 * k < n := by unfold whN; omega
theorem blocks_mf (a : Option Addr) (n c : Nat) (b : List UInt8) (w : World) (hrd : Rd w (.slice a n c) b) (hn : n = b.length) (hl : b.length ≤ 1000000) :
  Calls Tryz.prog 43 #[.slice a n c] w fun e w' => ∃ v, e = .returned v ∧ OwBB w' w.heap.size v (blkM b) ∧ Below w.heap.size w w' := by
 have hm : n ≤ 1000000 := by omega
 have HR := hide hrd
 have HN := hide hn
 have HWT := hide (show whN n ≤ 1000000 by unfold whN; omega)
 clear hrd hn hl
 go_enter Tryz.func43, Tryz.ntmps43
 go_wp2
 go_loopw [0, 3] (fun bv v wr => ∃ (k m : Nat) (ab av : Option Addr) (cb cv : Nat), k ≤ whN n ∧ m = n - 128 * k ∧ bv = .slice ab m cb ∧ v = .slice av k cv ∧ Hid (Rd w (.slice ab m cb) (b.drop (128 * k))) ∧ Hid (OwBB wr w.heap.size (.slice av k cv) ((blkM b).take k)) ∧ Hid (Below w.heap.size w wr)) (fun _ v _ => whN n - slLn9 v)
 case atStart => exact ⟨0, n, a, none, c, 0, Nat.zero_le _, by omega, rfl, rfl, hide (by rw [Nat.mul_zero, List.drop_zero]; exact HR.out), hide (by rw [List.take_zero]; exact OwBB.nil _ _), hide (Below.refl _ _)⟩
 case round =>
  obtain ⟨k, m, ab, av, cb, cv, hk, hmk, rfl, rfl, hrd, hown, hbel⟩ := hrel
  by_cases hgo : k < whN n
  ·have hkl : k < (blkM b).length := by rw [blkM_len, ← HN.out]; exact hgo
   have HT := hide (show (blkM b).take (k + 1) = (blkM b).take k ++ [padM ((b.drop (128 * k)).take 128)] by
    rw [List.take_succ_eq_append_getElem hkl, blkM_get])
   have HTL := hide (show ((blkM b).take k).length = k by rw [List.length_take]; omega)
   have hdl : (b.drop (128 * k)).length = m := by rw [List.length_drop, ← HN.out]; omega
   obtain ⟨p, hp⟩ : ∃ p, p = ((b.drop (128 * k)).take 128).length := ⟨_, rfl⟩
   have hpm : p = min 128 m := by rw [hp, List.length_take, hdl]
   have HP := hide hp.symm
   obtain ⟨a2, c2, hsl, hsr⟩ := sliceY hrd.out p (by omega)
   have HS2 := hide (show Rd w (.slice a2 (m - p) c2) (b.drop (128 * (k + 1))) by
    have h9 := hsr w hrd.out
    rw [List.drop_drop] at h9
    rcases Nat.lt_or_ge m 128 with h8 | h8
    ·have e1 : b.drop (128 * k + p) = [] := List.drop_eq_nil_of_le (by rw [List.length_drop] at hdl; omega)
     have e2 : b.drop (128 * (k + 1)) = [] := List.drop_eq_nil_of_le (by rw [List.length_drop] at hdl; omega)
     rw [e2]; rw [e1] at h9; exact h9
    ·rw [show 128 * (k + 1) = 128 * k + p by omega]
     exact h9)
   have HPM := hide hpm
   have HMK := hide hmk
   obtain ⟨w2, hmk2, hO2, hb2⟩ := make128 wr
   have hbsz := hbel.out.size
   have HB2 := hide (show Below w.heap.size w w2 from hbel.out.trans (hb2.mono hbsz))
   have HO2 := hide hO2
   have HRS2 := hide (hrd.out.carry HB2.out)
   have HBs := hide hb2
   have HAPP := hide (fun (w3 : World) (hg3 : w2.grownBy w3 (some wr.heap.size)) (hO3 : OwB w3 wr.heap.size (.slice (some ⟨wr.heap.size, 0, none⟩) 128 128) (splice (List.replicate 128 0) 0 ((b.drop (128 * k)).take 128))) => by
    have hb3 : Below wr.heap.size wr w3 := HBs.out.grown hg3 HBs.out.size (by intro k hk; cases hk; omega)
    rw [splice_padM] at hO3
    have hpl : (padM ((b.drop (128 * k)).take 128)).length = 128 := padM_len (by rw [HP.out]; omega)
    obtain ⟨g9, c9, w9, hrun, ho9, hb9⟩ := app_blk (hown.out.carry hb3) (Nat.le_trans hbsz hb3.size) (by rw [HTL.out]; have := HWT.out; omega) (some ⟨wr.heap.size, 0, none⟩) 128 128 _ (hO3.mono hbsz)
    rw [HTL.out] at hrun ho9
    rw [← HT.out] at ho9
    exact (⟨g9, c9, w9, hrun, ho9, (hbel.out.trans (hb3.mono hbel.out.size)).trans hb9⟩ : ∃ g9 c9 w9, (Builtin.append_ #[89, 89] 89 #[.slice av k cv, .slice (some ⟨w3.heap.size, 0, none⟩) 1 1]).run Tryz.prog (w3.alloc (.cells #[.slice (some ⟨wr.heap.size, 0, none⟩) 128 128] 23)) = .ok (.slice (some ⟨g9, 0, none⟩) (k + 1) c9) w9 ∧ OwBB w9 w.heap.size (.slice (some ⟨g9, 0, none⟩) (k + 1) c9) ((blkM b).take (k + 1)) ∧ Below w.heap.size w w9))
   have hmd : n - 128 * (k + 1) = m - p := by omega
   have HMD := hide hmd.symm
   have hcase : k = 0 ∨ (((k : Int) == 0) = false ∧ (k == 0) = false ∧ 0 < m ∧ (0 : Int) < m) := by
    rcases (whN_go n k).1 hgo with h | h
    ·exact .inl h
    ·by_cases h0 : k = 0
     ·exact .inl h0
     ·exact .inr ⟨by simpa using h0, by simpa using h0, by omega, by omega⟩
   clear hO2 hb2 hsr hp hpm hmk hdl hkl hmd hbsz hm
   rcases hcase with hk0 | ⟨hk1, hk2, hm0, hm1⟩
   ·subst hk0
    go_wp2_with (first | (refine wpList_copyF w2 rfl (.tmp 15) (.tmp 16) 23 rfl Tryz.underlying23 Tryz.sizeB wr.heap.size wr.heap.size 128 128 0 128 128 rfl _ _ rfl HRS2.out _ HO2.out (by simp) ?_; intro w3 hg3 hO3; obtain ⟨g9, c9, w9, hrun, ho9, hb9⟩ := HAPP.out w3 hg3 hO3; have HO9 := hide ho9; have HB9 := hide hb9; clear hg3 hO3 ho9 hb9; rw [HP.out]) | (refine wpList_slY rfl (.tmp 14) (.tmp 17) 23 (by kernel_rfl) rfl rfl rfl hsl ?_) | (at_builtin; refine wpList_runappE rfl (.tmp 19) (.tmp 21) 89 rfl rfl rfl rfl hrun ?_))
    go_roundw
    case rel => exact ⟨0 + 1, m - p, a2, _, c2, c9, hgo, HMD.out, rfl, rfl, HS2, HO9, HB9⟩
    case measure => simp only [slLn9]; omega
   ·go_wp2_with (first | (refine wpList_copyF w2 rfl (.tmp 15) (.tmp 16) 23 rfl Tryz.underlying23 Tryz.sizeB wr.heap.size wr.heap.size 128 128 0 128 128 rfl _ _ rfl HRS2.out _ HO2.out (by simp) ?_; intro w3 hg3 hO3; obtain ⟨g9, c9, w9, hrun, ho9, hb9⟩ := HAPP.out w3 hg3 hO3; have HO9 := hide ho9; have HB9 := hide hb9; clear hg3 hO3 ho9 hb9; rw [HP.out]) | (refine wpList_slY rfl (.tmp 14) (.tmp 17) 23 (by kernel_rfl) rfl rfl rfl hsl ?_) | (at_builtin; refine wpList_runappE rfl (.tmp 19) (.tmp 21) 89 rfl rfl rfl rfl hrun ?_))
    go_roundw
    case rel => exact ⟨k + 1, m - p, a2, _, c2, c9, hgo, HMD.out, rfl, rfl, HS2, HO9, HB9⟩
    case measure => simp only [slLn9]; omega
  ·obtain rfl : k = whN n := by omega
   have hno := fun h => hgo ((whN_go n (whN n)).2 h)
   have h9 : ¬ 128 * whN n < n := fun h => hno (.inr h)
   obtain rfl : m = 0 := by omega
   have hk1 : ((whN n : Int) == 0) = false := by
    have : whN n ≠ 0 := fun h => hno (.inl h)
    simpa using this
   have hk2 : (whN n == 0) = false := by
    have : whN n ≠ 0 := fun h => hno (.inl h)
    simpa using this
   have HO := hide (show OwBB wr w.heap.size (.slice av (whN n) cv) (blkM b) by
    have := hown.out
    rwa [List.take_of_length_le (by rw [blkM_len, ← HN.out]; exact Nat.le_refl _)] at this)
   generalize whN n = kk at *
   clear hown hno hgo
   go_wp2
   go_ret
   exact ⟨_, rfl, HO.out, hbel.out⟩
def DkB (w : World) (q : Nat) : Prop := ∃ y0 y1 y2, Bq w q 27 #[y0, y1, y2]
theorem DkB.carry {w w' : World} {r : Nat} (h : DkB w r) (hb : Below w.heap.size w w') : DkB w' r := by
 obtain ⟨v0, v1, v2, h⟩ := h
 exact ⟨v0, v1, v2, h.carry hb⟩
theorem DkB.new (w : World) : DkB (w.alloc (.cells #[.slice none 0 0, .slice none 0 0, .slice none 0 0] 27)) w.heap.size := ⟨_, _, _, Bq.new _ _ _⟩
end Go.Proofs.YtmeaiocohalphaaGreatDoor
set_option linter.unusedVariables false
namespace Go.Proofs.YtmeaiocohalphaaGreatDoor
def ab7 : List Fl := [([97], [(34, 1)])]
def ma (x : List UInt8) : Fsd := ((x, [], []), 1, ab7, [])
section
variable {x : List UInt8}
end
end Go.Proofs.YtmeaiocohalphaaGreatDoor
namespace Go.Proofs.YtmeaiocohalphaaGreatDoor
open Go.RowKit
set_option linter.unusedVariables false
set_option linter.unusedSimpArgs false
def CellAt (w : World) (b o : Nat) (v : Value) : Prop := w.cell? ⟨b, o, none⟩ = some v
theorem CellAt.carry {w w' : World} {b o : Nat} {v : Value} (h : CellAt w b o v) (hb : Below w.heap.size w w') : CellAt w' b o v := keeps_cell _ _ _ _ h hb
theorem wf_ok {f : Fsd} (h : okFs f) : WfX f := by
 have h4 := ((okD_iff f.1).1 (okFs_disk h).1).2.2.1
 have hk := (chkF_may (kept_chk h)).2
 refine ⟨(okFs_size h).2, ?_, ?_⟩
 ·intro g hg x hx
  have := extP_all (okFs_may h).2.2.1 x ((mem_sub hg).subset hx)
  unfold wfX
  omega
 ·intro g hg x hx
  have := extP_all hk.2.2.1 x ((mem_sub hg).subset hx)
  unfold wfX
  omega
def BelW (w0 w : World) : Prop := Below w0.heap.size w0 w
theorem BelW.refl (w : World) : BelW w w := Below.refl _ _
theorem BelW.carry {w0 w w' : World} (h : BelW w0 w) (hb : Below w.heap.size w w') : BelW w0 w' := Below.trans h (hb.mono (Below.size h))
theorem BelW.size {w0 w : World} (h : BelW w0 w) : w0.heap.size ≤ w.heap.size := Below.size h
theorem fsv_val {x y : FsV} (h : x.val = y.val) : x = y := by
 cases x
 cases y
 simp at h
 simp [h]
 omega
theorem puts_wf {f : Fsd} {s : List UInt8} {at0 : Int} {l : List (List UInt8)} (hw : WfX f) : ∀ k, (putsN f s at0 l k).2 = 0 → WfX (putsN f s at0 l k).1
 | 0, _ => hw
 | k + 1, h => by
  rw [putsN] at h ⊢
  by_cases h0 : (putsN f s at0 l k).2 = 0
  ·rw [if_neg (fun e => e h0)] at h ⊢
   exact wf_ok (put_spec h).1
  ·rw [if_pos h0] at h; exact absurd h h0
end Go.Proofs.YtmeaiocohalphaaGreatDoor

/-
  What code.Text, code.Cut, bytes.Clone and the document's Text and Cut do.
-/
import Derived.Test.YtmeaiocohalphaaDoorRead
import Derived.Deep.RegionHeld3
import Derived.Lib.SliceRun
namespace Go.Proofs.YtmeaiocohalphaaDoor
open Go.RowKit

set_option maxHeartbeats 400000 in
set_option maxRecDepth 100000 in
theorem text_any (s : ByteArray) (w : World) (hs : s.size ≤ 1000000000) :
    Calls Tryd.prog 27 #[.string s] w fun e w' => ∃ v, e = .returned v ∧ w'.ownsRow w.heap.size 5 1 v (tx s.data.toList).length (u8v (tx s.data.toList)) ∧ Below w.heap.size w w' := by
  have hl : s.data.toList.length = s.size := by rw [Array.length_toList]; rfl
  have hl10 := sm_len_le10 (n := s.size) (by omega)
  go_enter Tryd.func27, Tryd.ntmps27
  go_wp2_with fail
  refine (small_any s.size _ (by omega)).mono ?_
  rintro e w1 ⟨v, rfl, hown, hbel⟩
  go_wp2_with (at_builtin; go_must (refine wpList_appstr w w1 rfl (.tmp 6) (.tmp 7) 25 9 rfl w.heap.size 5 Tryd.underlying25 Tryd.underlying9 Tryd.infoB _ _ hown rfl hbel (Nat.le_refl _) s rfl (by omega) ?_); intro v' w2 hown1 hbel1)
  go_ret
  unfold tx
  rw [hl]
  exact ⟨_, rfl, hown1, hbel1⟩

set_option maxHeartbeats 400000 in
set_option maxRecDepth 100000 in
theorem rtext_any (s : ByteArray) (w : World) (hs : s.size ≤ 1000000000) :
    Calls Tryd.prog 16 #[.string s] w fun e w' => ∃ v, e = .returned v ∧ w'.ownsRow w.heap.size 5 1 v (tx s.data.toList).length (u8v (tx s.data.toList)) ∧ Below w.heap.size w w' := by
  have hl : s.data.toList.length = s.size := by rw [Array.length_toList]; rfl
  have hl10 := sm_len_le10 (n := s.size) (by omega)
  go_enter Tryd.func16, Tryd.ntmps16
  go_wp2_with fail
  refine (rsmall_any s.size _ (by omega)).mono ?_
  rintro e w1 ⟨v, rfl, hown, hbel⟩
  go_wp2_with (at_builtin; go_must (refine wpList_appstr w w1 rfl (.tmp 6) (.tmp 7) 25 9 rfl w.heap.size 5 Tryd.underlying25 Tryd.underlying9 Tryd.infoB _ _ hown rfl hbel (Nat.le_refl _) s rfl (by omega) ?_); intro v' w2 hown1 hbel1)
  go_ret
  unfold tx
  rw [hl]
  exact ⟨_, rfl, hown1, hbel1⟩

set_option maxHeartbeats 400000 in
set_option maxRecDepth 100000 in
theorem clone_row1 (b off c : Nat) (l : List UInt8) (w : World) (hl : l.length ≤ 1000000000) (hcell : ∀ j, (h : j < l.length) → w.cell? ⟨b, off + j, none⟩ = some (.int .u8 (l[j]).toNat)) :
    Calls Tryd.prog 56 #[.slice (some ⟨b, off, none⟩) l.length c] w fun e w' => ∃ v, e = .returned v ∧ w'.ownsRow w.heap.size 5 1 v l.length (u8v l) ∧ Below w.heap.size w w' := by
  have HC : Hid (∀ j, (h : j < l.length) → w.cell? ⟨b, off + j, none⟩ = some (.int .u8 (l[j]).toNat)) := hcell
  clear hcell
  have hq := fun wx => Lib.run_eql_slice_nil (P := Tryd.prog) wx 25 5 (some ⟨b, off, none⟩) l.length c 0 0 Tryd.underlying25
  go_enter Tryd.func56, Tryd.ntmps56
  go_wp2_with (at_builtin; go_must (refine wpList_apps w (w.alloc (.cells #[] 5)) rfl (.tmp 5) (.tmp 6) 25 rfl w.heap.size 5 Tryd.underlying25 Tryd.infoB _ [] (World.ownsRow_made w #[] 0 (Nat.le_refl _) (by decide) rfl) rfl ((Below.refl _ _).alloc (Nat.le_refl _) _) (Nat.le_refl _) b off c l.length l rfl rfl (fun j h => (World.cell?_alloc_lt _ _ _ (World.block_lt_of_cell? w _ (HC.out j h))).trans (HC.out j h)) (by simp; omega) ?_); intro v' w1 hown1 hbel1 _)
  go_ret
  exact ⟨_, rfl, hown1, hbel1⟩

theorem clone_at (b off c m : Nat) (l : List UInt8) (w : World) (hm : l.length = m) (hl : m ≤ 1000000000) (hcell : ∀ j, (h : j < l.length) → w.cell? ⟨b, off + j, none⟩ = some (.int .u8 (l[j]).toNat)) :
    Calls Tryd.prog 56 #[.slice (some ⟨b, off, none⟩) m c] w fun e w' => ∃ v, e = .returned v ∧ w'.ownsRow w.heap.size 5 1 v l.length (u8v l) ∧ Below w.heap.size w w' := by
  subst hm
  exact clone_row1 b off c l w hl hcell

def CutV (w w' : World) (v : Value) (l : List UInt8) : Prop :=
  (ct l = none ∧ v = .tuple #[.string ByteArray.empty, .slice none 0 0, .int .i64 8]) ∨
  ∃ t r x, ct l = some (t, r) ∧ v = .tuple #[.string (bs t), x, .int .i64 0] ∧ w'.ownsRow w.heap.size 5 1 x r.length (u8v r)

set_option maxHeartbeats 400000 in
set_option maxRecDepth 100000 in
theorem cut_nil (a : Option Addr) (c : Nat) (w : World) :
    Calls Tryd.prog 48 #[.slice a 0 c] w fun e w' => ∃ v, e = .returned v ∧ CutV w w' v [] ∧ Below w.heap.size w w' := by
  go_enter Tryd.func48, Tryd.ntmps48
  go_wp2_with fail
  refine (read_nil a c _).mono ?_
  rintro e w1 ⟨rfl, rfl⟩
  unfold rdV
  go_wp2
  go_ret3
  exact ⟨_, rfl, .inl ⟨rfl, rfl⟩, Below.refl _ _⟩

set_option maxHeartbeats 400000 in
set_option maxRecDepth 100000 in
theorem cut_row (b off c : Nat) (l : List UInt8) (w : World) (hl : l.length ≤ 1000000000) (hlc : l.length ≤ c) (hcm : c ≤ maxLen) (hcell : ∀ j, (h : j < l.length) → w.cell? ⟨b, off + j, none⟩ = some (.int .u8 (l[j]).toNat)) :
    Calls Tryd.prog 48 #[.slice (some ⟨b, off, none⟩) l.length c] w fun e w' => ∃ v, e = .returned v ∧ CutV w w' v l ∧ Below w.heap.size w w' := by
  have HC : Hid (∀ j, (h : j < l.length) → w.cell? ⟨b, off + j, none⟩ = some (.int .u8 (l[j]).toNat)) := hcell
  clear hcell
  go_enter Tryd.func48, Tryd.ntmps48
  go_wp2_with fail
  refine (read_row b off c l _ HC.out).mono ?_
  rintro e w1 ⟨rfl, rfl⟩
  cases hr : rd l with
  | none =>
    have HR : Hid (rd l = none) := hr
    clear hr
    unfold rdV
    go_wp2
    go_ret3
    exact ⟨_, rfl, .inl ⟨ct_none HR.out, rfl⟩, Below.refl _ _⟩
  | some p =>
    obtain ⟨n, k⟩ := p
    obtain ⟨hk0, hkl, hk10, hn64⟩ := rd_fits hr
    have HR : Hid (rd l = some (n, k)) := hr
    clear hr
    unfold rdV
    by_cases hn : n ≤ l.length - k
    · have HCT : Hid (ct l = some ((l.drop k).take n, l.drop (k + n))) := ct_some HR.out hn
      have hlt : ((l.drop k).take n).length = n := by simp; omega
      have hld : (l.drop (k + n)).length = l.length - k - n := by simp; omega
      by_cases hck : k = c
      · subst hck
        obtain rfl : n = 0 := by omega
        have hR : Rd w1 (.slice (some ⟨b, off, none⟩) 0 0) [] := .inl ⟨rfl, .inr ⟨_, _, rfl⟩⟩
        have hconv : ∀ wx, Rd wx (.slice (some ⟨b, off, none⟩) 0 0) [] → (convert 25 9 (.slice (some ⟨b, off, none⟩) 0 0)).run Tryd.prog wx = .ok (.string (bs [])) wx := fun wx h => conv_rd _ _ _ Tryd.underlying25 Tryd.underlying5 Tryd.underlying9 h
        have hL2 : (l.drop k).length = 0 := by simp; omega
        have HL2 : Hid ((l.drop k).length = 0) := hL2
        have HC2 : Hid (∀ j, (h : j < (l.drop k).length) → w1.cell? ⟨b, off + j, none⟩ = some (.int .u8 ((l.drop k)[j]).toNat)) := fun j h => by
          exfalso; omega
        have HCU : Hid (ct l = some ([], l.drop k)) := by
          have := HCT.out
          rw [List.take_zero, Nat.add_zero] at this
          exact this
        clear hlt hld hL2 HCT
        go_wp2
        go_region_held3 (fun wx => Rd wx (.slice (some ⟨b, off, none⟩) 0 0) []) (first | assumption | exact Rd.carry (by assumption) (by assumption)) ((go_at_call 56; refine (clone_at b off 0 0 (l.drop k) _ HL2.out (by omega) (by exact HC2.out)).mono ?_; rintro e w2 ⟨v2, rfl, hown2, hbel2⟩))
        go_wp2
        go_ret3
        exact ⟨_, rfl, .inr ⟨_, _, _, HCU.out, rfl, hown2⟩, (Below.refl _ _).drew.trans hbel2⟩
      · by_cases hcn : c - k = n
        · have hR : Rd w1 (.slice (some ⟨b, off + k, none⟩) n n) ((l.drop k).take n) := .inr ⟨b, off + k, n, by rw [hlt], by omega, by omega, fun j hj => by
            rw [show off + k + j = off + (k + j) by omega, HC.out (k + j) (by omega)]; simp⟩
          have hconv : ∀ wx, Rd wx (.slice (some ⟨b, off + k, none⟩) n n) ((l.drop k).take n) → (convert 25 9 (.slice (some ⟨b, off + k, none⟩) n n)).run Tryd.prog wx = .ok (.string (bs ((l.drop k).take n))) wx := fun wx h => conv_rd _ _ _ Tryd.underlying25 Tryd.underlying5 Tryd.underlying9 h
          have hL2 : (l.drop (k + n)).length = l.length - k - n := by omega
          have HL2 : Hid ((l.drop (k + n)).length = l.length - k - n) := hL2
          have HC2 : Hid (∀ j, (h : j < (l.drop (k + n)).length) → w1.cell? ⟨b, off + k + j, none⟩ = some (.int .u8 ((l.drop (k + n))[j]).toNat)) := fun j h => by
            first | (rw [show off + k + j = off + (k + n + j) by omega, HC.out (k + n + j) (by omega)]; simp; done) | (exfalso; omega)
          have hb1 : (n : Int) ≤ ((c - k : Nat) : Int) := by omega
          clear hlt hld hL2
          go_wp2
          go_region_held3 (fun wx => Rd wx (.slice (some ⟨b, off + k, none⟩) n n) ((l.drop k).take n)) (first | assumption | exact Rd.carry (by assumption) (by assumption)) ((go_at_call 56; refine (clone_at b (off + k) (0) (l.length - k - n) (l.drop (k + n)) _ HL2.out (by omega) (by exact HC2.out)).mono ?_; rintro e w2 ⟨v2, rfl, hown2, hbel2⟩))
          go_wp2
          go_ret3
          exact ⟨_, rfl, .inr ⟨_, _, _, HCT.out, rfl, hown2⟩, (Below.refl _ _).drew.trans hbel2⟩
        · have hR : Rd w1 (.slice (some ⟨b, off + k, none⟩) n (c - k)) ((l.drop k).take n) := .inr ⟨b, off + k, (c - k), by rw [hlt], by omega, by omega, fun j hj => by
            rw [show off + k + j = off + (k + j) by omega, HC.out (k + j) (by omega)]; simp⟩
          have hconv : ∀ wx, Rd wx (.slice (some ⟨b, off + k, none⟩) n (c - k)) ((l.drop k).take n) → (convert 25 9 (.slice (some ⟨b, off + k, none⟩) n (c - k))).run Tryd.prog wx = .ok (.string (bs ((l.drop k).take n))) wx := fun wx h => conv_rd _ _ _ Tryd.underlying25 Tryd.underlying5 Tryd.underlying9 h
          have hL2 : (l.drop (k + n)).length = l.length - k - n := by omega
          have HL2 : Hid ((l.drop (k + n)).length = l.length - k - n) := hL2
          have HC2 : Hid (∀ j, (h : j < (l.drop (k + n)).length) → w1.cell? ⟨b, off + k + n + j, none⟩ = some (.int .u8 ((l.drop (k + n))[j]).toNat)) := fun j h => by
            first | (rw [show off + k + n + j = off + (k + n + j) by omega, HC.out (k + n + j) (by omega)]; simp; done) | (exfalso; omega)
          have hb1 : (n : Int) ≤ ((c - k : Nat) : Int) := by omega
          clear hlt hld hL2
          go_wp2
          go_region_held3 (fun wx => Rd wx (.slice (some ⟨b, off + k, none⟩) n (c - k)) ((l.drop k).take n)) (first | assumption | exact Rd.carry (by assumption) (by assumption)) ((go_at_call 56; refine (clone_at b (off + k + n) (c - k - n) (l.length - k - n) (l.drop (k + n)) _ HL2.out (by omega) (by exact HC2.out)).mono ?_; rintro e w2 ⟨v2, rfl, hown2, hbel2⟩))
          go_wp2
          go_ret3
          exact ⟨_, rfl, .inr ⟨_, _, _, HCT.out, rfl, hown2⟩, (Below.refl _ _).drew.trans hbel2⟩
    · go_wp2
      all_goals (go_ret3; exact ⟨_, rfl, .inl ⟨ct_long HR.out hn, rfl⟩, Below.refl _ _⟩)

theorem read1_any {v : Value} {l : List UInt8} (w : World) (h : Rd w v l) :
    Calls Tryd.prog 47 #[v] w fun e w' => e = .returned (rdV (rd l)) ∧ w' = w := by
  rcases h with ⟨rfl, rfl | ⟨ad, c, rfl⟩⟩ | ⟨b, off, c, rfl, hc, hm, hcell⟩
  · exact read_nil _ _ w
  · exact read_nil _ _ w
  · exact read_row b off c l w hcell
theorem rread1_any {v : Value} {l : List UInt8} (w : World) (hl : l.length ≤ 1000000000) (h : Rd w v l) :
    Calls Tryd.prog 35 #[v] w fun e w' => e = .returned (rdV (rd l)) ∧ w' = w := by
  rcases h with ⟨rfl, rfl | ⟨ad, c, rfl⟩⟩ | ⟨b, off, c, rfl, hc, hm, hcell⟩
  · exact rread_nil _ _ w
  · exact rread_nil _ _ w
  · exact rread_row b off c l w (by omega) hcell
theorem ccut_any {v : Value} {l : List UInt8} (w : World) (hl : l.length ≤ 1000000000) (h : Rd w v l) :
    Calls Tryd.prog 48 #[v] w fun e w' => ∃ v, e = .returned v ∧ CutV w w' v l ∧ Below w.heap.size w w' := by
  rcases h with ⟨rfl, rfl | ⟨ad, c, rfl⟩⟩ | ⟨b, off, c, rfl, hc, hm, hcell⟩
  · exact cut_nil _ _ w
  · exact cut_nil _ _ w
  · exact cut_row b off c l w hl hc hm hcell
def cutT (l : List UInt8) : ByteArray := match ct l with | none => ByteArray.empty | some (t, _) => bs t
def cutEr (l : List UInt8) : Int := match ct l with | none => 8 | some _ => 0
def cutR (l : List UInt8) : List UInt8 := match ct l with | none => [] | some (_, r) => r
theorem cutV_form {w w' : World} {v : Value} {l : List UInt8} (h : CutV w w' v l) : ∃ x, v = .tuple #[.string (cutT l), x, .int .i64 (cutEr l)] ∧ w'.ownsRow w.heap.size 5 1 x (cutR l).length (u8v (cutR l)) := by
  rcases h with ⟨h, rfl⟩ | ⟨t, r, x, h, rfl, hx⟩
  · exact ⟨.slice none 0 0, by simp [cutT, cutEr, h], by simp only [cutR, h]; exact World.ownsRow_nil _ _ _ _⟩
  · exact ⟨x, by simp [cutT, cutEr, h], by simp only [cutR, h]; exact hx⟩
end Go.Proofs.YtmeaiocohalphaaDoor

/-
  What code.Text, code.Cut, bytes.Clone and the document's Text and Cut do.
-/
import Derived.Test.YtnigdbhjaoeblaaGreatRmTop
import Derived.Test.YtnigdbhjaoeblaaGreatMathRd
import Derived.Test.YtnigdbhjaoeblaaGreatRows
import Derived.Test.YtnigdbhjaoeblaaGreatKit
import Derived.Test.YtnigdbhjaoeblaaGreatBase
import Derived.WalkKit
import Derived.WalkSpells
import Derived.WalkLawsBesides
import Derived.Deep.QuietTactic
import Derived.BigQuiet
import Derived.Deep.RegionHeld3
import Derived.Lib.SliceRun
namespace Go.Proofs.YtnigdbhjaoeblaaGreat
open Go.RowKit
set_option linter.unusedVariables false
set_option linter.unusedSimpArgs false

theorem run_appE {P : Program} {o : Oper} {a : Act} {s x : Operand} {t : TypeId} {v y v' : Value} {w w' : World} (ho : o.op = .call { callee := .builtin .append, args := #[s, x], argTypes := #[t, t] }) (hs : a.eval s = v) (hx : a.eval x = y) (hrun : (Builtin.append_ #[t, t] o.type #[v, y]).run P w = .ok v' w') :
    (execOp a.eval o).run P w = .ok (.value v') w' := by
  simp [execOp, ho, resolve, invoke, builtin, hs, hx, hrun, Result.andThen]

set_option maxHeartbeats 1000000 in
theorem same_ext (a b : Option Addr) (n c m d : Nat) (l k : List Ex) (w : World) (h1 : RdE w (.slice a n c) l) (h2 : RdE w (.slice b m d) k) (hn : n = l.length) (hm : m = k.length) :
    Calls Tryz.prog 188 #[.slice a n c, .slice b m d] w fun e w' => e = .returned (.bool (decide (l = k))) ∧ Below w.heap.size w w' := by
  have hnm : n ≤ maxLen := hn ▸ h1.len_le
  unfold maxLen at hnm
  have H1 := hide h1
  have H2 := hide h2
  have HN := hide hn
  have HM := hide hm
  clear h1 h2 hn hm
  by_cases g1 : n = m
  · subst g1
    go_enter Tryz.func188, Tryz.ntmps188
    go_wp2
    go_loopw [5] (fun i wr => ∃ j : Nat, j ≤ n ∧ i = .int .i64 j ∧ Hid (l.take j = k.take j) ∧ Below w.heap.size w wr) (fun i _ => n - (intOf i).toNat)
    case atStart => exact ⟨0, Nat.zero_le _, rfl, hide (by simp), Below.refl _ _⟩
    case round =>
      obtain ⟨j, hj, rfl, he, hbel⟩ := hrel
      by_cases hlt : j < n
      · have hlt' : (j : Int) < n := by omega
        have hjl : j < l.length := by have := HN.out; omega
        have hjk : j < k.length := by have := HM.out; omega
        obtain ⟨b1, off1, rfl, q0, q1⟩ := (H1.out.carry hbel).at j hjl
        obtain ⟨b2, off2, rfl, p0, p1⟩ := (H2.out.carry hbel).at j hjk
        have hw1 : wrap64 ((j : Int) + 1) = (j : Int) + 1 := by unfold wrap64; omega
        by_cases hx : l[j] = k[j]
        · have HE := hide (show l.take (j + 1) = k.take (j + 1) by rw [take_snoc l j hjl, take_snoc k j hjk, he.out, hx])
          rw [hx] at q0 q1
          clear hx
          go_wp2
          go_quiet (fail)
          go_wp2
          go_roundw
          case rel => exact ⟨j + 1, by omega, rfl, HE, below_drewN hbel _⟩
          case measure => simp only [intOf]; omega
        · have HE := hide (show decide (l = k) = false by
            rw [decide_eq_false_iff_not]
            rintro rfl
            exact hx rfl)
          have hne : ¬ ((l[j]).1 = (k[j]).1 ∧ (l[j]).2 = (k[j]).2) := fun h => hx (Prod.ext h.1 h.2)
          clear hx
          generalize (l[j]).1 = z1 at *
          generalize (l[j]).2 = z2 at *
          generalize (k[j]).1 = z3 at *
          generalize (k[j]).2 = z4 at *
          by_cases hz : z1 = z3
          · subst hz
            have hne1 : ¬ z2 = z4 := fun h => hne ⟨rfl, h⟩
            have hne' : (z2 == z4) = false := by simpa using hne1
            clear hne
            go_wp2
            go_quiet (fail)
            go_wp2
            go_ret
            exact ⟨by rw [HE.out]; rfl, below_drewN hbel _⟩
          · have hne' : (z1 == z3) = false := by simpa using hz
            clear hne
            go_wp2
            go_quiet (fail)
            go_wp2
            go_ret
            exact ⟨by rw [HE.out]; rfl, below_drewN hbel _⟩
      · have hd : decide ((j : Int) < n) = false := by simpa using (by omega : ¬ (j : Int) < n)
        have HE := hide (show decide (l = k) = true by
          rw [decide_eq_true_iff]
          have := he.out
          rwa [List.take_of_length_le (by have := HN.out; omega), List.take_of_length_le (by have := HM.out; omega)] at this)
        go_wp2
        go_ret
        exact ⟨by rw [HE.out]; rfl, hbel⟩
  · have HE := hide (show decide (l = k) = false by
      rw [decide_eq_false_iff_not]
      rintro rfl
      have := HN.out
      have := HM.out
      omega)
    have g1' : ((n : Int) == (m : Int)) = false := by simpa using (by omega : ¬ (n : Int) = m)
    go_enter Tryz.func188, Tryz.ntmps188
    go_wp2
    go_ret
    exact ⟨by rw [HE.out]; rfl, Below.refl _ _⟩

end Go.Proofs.YtnigdbhjaoeblaaGreat
namespace Go.Proofs.YtnigdbhjaoeblaaGreat
open Go.RowKit

set_option maxHeartbeats 400000 in
set_option maxRecDepth 100000 in
theorem small_any (n : Nat) (w : World) (hn : n < 18446744073709551616) :
    Calls Tryz.prog 247 #[.int .u64 n] w fun e w' => ∃ v, e = .returned v ∧ w'.ownsRow w.heap.size 5 1 v (sm n).length (u8v (sm n)) ∧ Below w.heap.size w w' := by
  have hl10 := sm_len_le10 hn
  go_enter Tryz.func247, Tryz.ntmps247
  go_wp2
  go_loopw [0, 3] (fun x v wr => ∃ (m : Nat) (pre : List UInt8), m ≤ n ∧ x = .int .u64 m ∧ sm n = pre ++ sm m ∧ wr.ownsRow w.heap.size 5 1 v pre.length (u8v pre) ∧ Below w.heap.size w wr)
    (fun x _ _ => (intOf x).toNat)
  case atStart => exact ⟨n, [], Nat.le_refl _, rfl, rfl, World.ownsRow_nil _ _ _ _, Below.refl _ _⟩
  case round =>
    obtain ⟨m, pre, hm, rfl, hpre, hown, hbel⟩ := hrel
    have HP : Hid (sm n = pre ++ sm m) := hpre
    have hlp : pre.length ≤ 10 := by have := congrArg List.length hpre; simp at this; omega
    clear hpre
    by_cases hlt : 128 ≤ m
    · go_wp2_with (at_builtin; go_must (refine wpList_app1 w wr rfl (.tmp 8) (.tmp 12) 23 rfl w.heap.size 5 Tryz.underlying23 Tryz.infoB _ pre hown rfl hbel (Nat.le_refl _) _ _ (or128 m) rfl (by omega) ?_); intro v' w1 hown1 hbel1)
      go_roundw
      case rel => exact ⟨m / 128, pre ++ [UInt8.ofNat (m % 128 + 128)], by omega, by go_num, by rw [HP.out, sm_ge hlt]; simp, hown1, hbel1⟩
      case measure => simp [intOf] <;> omega
    · go_wp2_with (at_builtin; go_must (refine wpList_app1 w wr rfl (.tmp 14) (.tmp 17) 23 rfl w.heap.size 5 Tryz.underlying23 Tryz.infoB _ pre hown rfl hbel (Nat.le_refl _) _ (UInt8.ofNat m) (by first | exact u8_mod m | exact u8_id m (by omega)) rfl (by omega) ?_); intro v' w1 hown1 hbel1)
      go_ret
      have e : sm n = pre ++ [UInt8.ofNat m] := by rw [HP.out, sm_lt (by omega)]
      rw [e]
      exact ⟨_, rfl, hown1, hbel1⟩

end Go.Proofs.YtnigdbhjaoeblaaGreat
namespace Go.Proofs.YtnigdbhjaoeblaaGreat
open Go.RowKit

set_option maxHeartbeats 400000 in
set_option maxRecDepth 100000 in
theorem read_nil (a : Option Addr) (c : Nat) (w : World) :
    Calls Tryz.prog 250 #[.slice a 0 c] w fun e w' => e = .returned (rdV none) ∧ w' = w := by
  go_enter Tryz.func250, Tryz.ntmps250
  go_wp2
  go_loop [5, 10] (fun n i => n = .int .u64 0 ∧ i = .int .i64 0) (fun _ _ => 0)
  case atStart => exact ⟨rfl, rfl⟩
  case round =>
    obtain ⟨rfl, rfl⟩ := hrel
    go_wp2
    go_ret3
    exact ⟨rfl, rfl⟩

set_option maxHeartbeats 400000 in
set_option maxRecDepth 100000 in
theorem read_row (b off c : Nat) (l : List UInt8) (w : World) (hcell : ∀ j, (h : j < l.length) → w.cell? ⟨b, off + j, none⟩ = some (.int .u8 (l[j]).toNat)) :
    Calls Tryz.prog 250 #[.slice (some ⟨b, off, none⟩) l.length c] w fun e w' => e = .returned (rdV (rd l)) ∧ w' = w := by
  go_enter Tryz.func250, Tryz.ntmps250
  go_wp2
  go_loop [5, 10] (fun n i => ∃ (k acc : Nat), k ≤ l.length ∧ k ≤ 9 ∧ n = .int .u64 acc ∧ i = .int .i64 k ∧ acc < 128 ^ k ∧ rd l = rdGo (l.drop k) k acc) (fun _ i => l.length - (intOf i).toNat)
  case atStart => exact ⟨0, 0, Nat.zero_le _, Nat.zero_le _, rfl, rfl, by decide, by simp [rd]⟩
  case round =>
    obtain ⟨k, acc, hk, hk9, rfl, rfl, hacc, hrd⟩ := hrel
    have HR : Hid (rd l = rdGo (l.drop k) k acc) := hrd
    have HA : Hid (acc < 128 ^ k) := hacc
    clear hrd hacc
    by_cases hlt : k < l.length
    · have hc := hcell k hlt
      have HD : Hid (l.drop k = l[k] :: l.drop (k + 1)) := List.drop_eq_getElem_cons hlt
      obtain ⟨x, hx⟩ : ∃ x, x = l[k] := ⟨_, rfl⟩
      rw [← hx] at hc HD
      clear hcell hx
      have hb := x.toNat_lt
      go_wp2
      · obtain rfl : k = 9 := by omega
        go_ret3
        rw [HR.out, HD.out, rdGo_big (by omega)]
        exact ⟨rfl, rfl⟩
      · obtain rfl : k = 9 := by omega
        go_ret3
        rw [HR.out, HD.out, rdGo_zero (by omega) (by omega)]
        exact ⟨rfl, rfl⟩
      · obtain rfl : k = 9 := by omega
        go_ret3
        rw [HR.out, HD.out, rdGo_last (by omega) (by omega) (by omega)]
        exact ⟨by rw [or_nine acc x.toNat HA.out (by omega)]; rfl, rfl⟩
      · go_round
        case rel => exact ⟨k + 1, acc + x.toNat % 128 * 128 ^ k, by omega, by omega, by rw [or_more acc k x.toNat HA.out (by omega)], by go_num, acc_next HA.out, by rw [HR.out, HD.out, rdGo_more (by omega) (by omega)]⟩
        case measure => simp [intOf] <;> omega
      · go_ret3
        rw [HR.out, HD.out, rdGo_zero (by omega) (by omega)]
        exact ⟨rfl, rfl⟩
      · obtain rfl : k = 0 := by omega
        go_ret3
        rw [HR.out, HD.out, rdGo_last (by omega) (by omega) (by omega)]
        obtain rfl : acc = 0 := by have := HA.out; omega
        exact ⟨by simp [rdV, *]; rfl, rfl⟩
      · go_ret3
        rw [HR.out, HD.out, rdGo_last (by omega) (by omega) (by omega)]
        exact ⟨by rw [or_more acc k x.toNat HA.out (by omega), Nat.mod_eq_of_lt (by omega)]; rfl, rfl⟩
    · go_wp2
      go_ret3
      have e : l.drop k = [] := List.drop_eq_nil_of_le (by omega)
      rw [HR.out, e]
      exact ⟨rfl, rfl⟩

end Go.Proofs.YtnigdbhjaoeblaaGreat
namespace Go.Proofs.YtnigdbhjaoeblaaGreat
open Go.RowKit

set_option maxHeartbeats 400000 in
set_option maxRecDepth 100000 in
theorem text_any (s : ByteArray) (w : World) (hs : s.size ≤ 1000000000) :
    Calls Tryz.prog 248 #[.string s] w fun e w' => ∃ v, e = .returned v ∧ w'.ownsRow w.heap.size 5 1 v (tx s.data.toList).length (u8v (tx s.data.toList)) ∧ Below w.heap.size w w' := by
  have hl : s.data.toList.length = s.size := by rw [Array.length_toList]; rfl
  have hl10 := sm_len_le10 (n := s.size) (by omega)
  go_enter Tryz.func248, Tryz.ntmps248
  go_wp2_with fail
  refine (small_any s.size _ (by omega)).mono ?_
  rintro e w1 ⟨v, rfl, hown, hbel⟩
  go_wp2_with (at_builtin; go_must (refine wpList_appstr w w1 rfl (.tmp 6) (.tmp 7) 23 9 rfl w.heap.size 5 Tryz.underlying23 Tryz.underlying9 Tryz.infoB _ _ hown rfl hbel (Nat.le_refl _) s rfl (by omega) ?_); intro v' w2 hown1 hbel1)
  go_ret
  unfold tx
  rw [hl]
  exact ⟨_, rfl, hown1, hbel1⟩

set_option maxHeartbeats 400000 in
set_option maxRecDepth 100000 in
theorem clone_row1 (b off c : Nat) (l : List UInt8) (w : World) (hl : l.length ≤ 1000000000) (hcell : ∀ j, (h : j < l.length) → w.cell? ⟨b, off + j, none⟩ = some (.int .u8 (l[j]).toNat)) :
    Calls Tryz.prog 127 #[.slice (some ⟨b, off, none⟩) l.length c] w fun e w' => ∃ v, e = .returned v ∧ w'.ownsRow w.heap.size 5 1 v l.length (u8v l) ∧ Below w.heap.size w w' := by
  have HC : Hid (∀ j, (h : j < l.length) → w.cell? ⟨b, off + j, none⟩ = some (.int .u8 (l[j]).toNat)) := hcell
  clear hcell
  have hq := fun wx => Lib.run_eql_slice_nil (P := Tryz.prog) wx 23 5 (some ⟨b, off, none⟩) l.length c 0 0 Tryz.underlying23
  go_enter Tryz.func127, Tryz.ntmps127
  go_wp2_with (at_builtin; go_must (refine wpList_apps w (w.alloc (.cells #[] 5)) rfl (.tmp 5) (.tmp 6) 23 rfl w.heap.size 5 Tryz.underlying23 Tryz.infoB _ [] (World.ownsRow_made w #[] 0 (Nat.le_refl _) (by decide) rfl) rfl ((Below.refl _ _).alloc (Nat.le_refl _) _) (Nat.le_refl _) b off c l.length l rfl rfl (fun j h => (World.cell?_alloc_lt _ _ _ (World.block_lt_of_cell? w _ (HC.out j h))).trans (HC.out j h)) (by simp; omega) ?_); intro v' w1 hown1 hbel1 _)
  go_ret
  exact ⟨_, rfl, hown1, hbel1⟩

theorem clone_at (b off c m : Nat) (l : List UInt8) (w : World) (hm : l.length = m) (hl : m ≤ 1000000000) (hcell : ∀ j, (h : j < l.length) → w.cell? ⟨b, off + j, none⟩ = some (.int .u8 (l[j]).toNat)) :
    Calls Tryz.prog 127 #[.slice (some ⟨b, off, none⟩) m c] w fun e w' => ∃ v, e = .returned v ∧ w'.ownsRow w.heap.size 5 1 v l.length (u8v l) ∧ Below w.heap.size w w' := by
  subst hm
  exact clone_row1 b off c l w hl hcell

/-- What a call of Cut answers. -/
def CutV (w w' : World) (v : Value) (l : List UInt8) : Prop :=
  (ct l = none ∧ v = .tuple #[.string ByteArray.empty, .slice none 0 0, .int .i64 8]) ∨
  ∃ t r x, ct l = some (t, r) ∧ v = .tuple #[.string (bs t), x, .int .i64 0] ∧ w'.ownsRow w.heap.size 5 1 x r.length (u8v r)

set_option maxHeartbeats 400000 in
set_option maxRecDepth 100000 in
theorem cut_nil (a : Option Addr) (c : Nat) (w : World) :
    Calls Tryz.prog 251 #[.slice a 0 c] w fun e w' => ∃ v, e = .returned v ∧ CutV w w' v [] ∧ Below w.heap.size w w' := by
  go_enter Tryz.func251, Tryz.ntmps251
  go_wp2_with fail
  refine (read_nil a c _).mono ?_
  rintro e w1 ⟨rfl, rfl⟩
  unfold rdV
  go_wp2
  go_ret3
  exact ⟨_, rfl, .inl ⟨rfl, rfl⟩, Below.refl _ _⟩

set_option maxHeartbeats 400000 in
set_option maxRecDepth 100000 in
theorem cut_row (b off c : Nat) (l : List UInt8) (w : World) (hl : l.length ≤ 1000000000) (hlc : l.length ≤ c) (hcm : c ≤ maxLen) (hcell : ∀ j, (h : j < l.length) → w.cell? ⟨b, off + j, none⟩ = some (.int .u8 (l[j]).toNat)) :
    Calls Tryz.prog 251 #[.slice (some ⟨b, off, none⟩) l.length c] w fun e w' => ∃ v, e = .returned v ∧ CutV w w' v l ∧ Below w.heap.size w w' := by
  have HC : Hid (∀ j, (h : j < l.length) → w.cell? ⟨b, off + j, none⟩ = some (.int .u8 (l[j]).toNat)) := hcell
  clear hcell
  go_enter Tryz.func251, Tryz.ntmps251
  go_wp2_with fail
  refine (read_row b off c l _ HC.out).mono ?_
  rintro e w1 ⟨rfl, rfl⟩
  cases hr : rd l with
  | none =>
    have HR : Hid (rd l = none) := hr
    clear hr
    unfold rdV
    go_wp2
    go_ret3
    exact ⟨_, rfl, .inl ⟨ct_none HR.out, rfl⟩, Below.refl _ _⟩
  | some p =>
    obtain ⟨n, k⟩ := p
    obtain ⟨hk0, hkl, hk10, hn64⟩ := rd_fits hr
    have HR : Hid (rd l = some (n, k)) := hr
    clear hr
    unfold rdV
    by_cases hn : n ≤ l.length - k
    · have HCT : Hid (ct l = some ((l.drop k).take n, l.drop (k + n))) := ct_some HR.out hn
      have hlt : ((l.drop k).take n).length = n := by simp; omega
      have hld : (l.drop (k + n)).length = l.length - k - n := by simp; omega
      by_cases hck : k = c
      · subst hck
        obtain rfl : n = 0 := by omega
        have hR : Rd w1 (.slice (some ⟨b, off, none⟩) 0 0) [] := .inl ⟨rfl, .inr ⟨_, _, rfl⟩⟩
        have hconv : ∀ wx, Rd wx (.slice (some ⟨b, off, none⟩) 0 0) [] → (convert 23 9 (.slice (some ⟨b, off, none⟩) 0 0)).run Tryz.prog wx = .ok (.string (bs [])) wx := fun wx h => conv_rd _ _ _ Tryz.underlying23 Tryz.underlying5 Tryz.underlying9 h
        have hL2 : (l.drop k).length = 0 := by simp; omega
        have HL2 : Hid ((l.drop k).length = 0) := hL2
        have HC2 : Hid (∀ j, (h : j < (l.drop k).length) → w1.cell? ⟨b, off + j, none⟩ = some (.int .u8 ((l.drop k)[j]).toNat)) := fun j h => by
          exfalso; omega
        have HCU : Hid (ct l = some ([], l.drop k)) := by
          have := HCT.out
          rw [List.take_zero, Nat.add_zero] at this
          exact this
        clear hlt hld hL2 HCT
        go_wp2
        go_region_held3 (fun wx => Rd wx (.slice (some ⟨b, off, none⟩) 0 0) []) (first | assumption | exact Rd.carry (by assumption) (by assumption)) ((go_at_call 127; refine (clone_at b off 0 0 (l.drop k) _ HL2.out (by omega) (by exact HC2.out)).mono ?_; rintro e w2 ⟨v2, rfl, hown2, hbel2⟩))
        go_wp2
        go_ret3
        exact ⟨_, rfl, .inr ⟨_, _, _, HCU.out, rfl, hown2⟩, (Below.refl _ _).drew.trans hbel2⟩
      · by_cases hcn : c - k = n
        · have hR : Rd w1 (.slice (some ⟨b, off + k, none⟩) n n) ((l.drop k).take n) := .inr ⟨b, off + k, n, by rw [hlt], by omega, by omega, fun j hj => by
            rw [show off + k + j = off + (k + j) by omega, HC.out (k + j) (by omega)]; simp⟩
          have hconv : ∀ wx, Rd wx (.slice (some ⟨b, off + k, none⟩) n n) ((l.drop k).take n) → (convert 23 9 (.slice (some ⟨b, off + k, none⟩) n n)).run Tryz.prog wx = .ok (.string (bs ((l.drop k).take n))) wx := fun wx h => conv_rd _ _ _ Tryz.underlying23 Tryz.underlying5 Tryz.underlying9 h
          have hL2 : (l.drop (k + n)).length = l.length - k - n := by omega
          have HL2 : Hid ((l.drop (k + n)).length = l.length - k - n) := hL2
          have HC2 : Hid (∀ j, (h : j < (l.drop (k + n)).length) → w1.cell? ⟨b, off + k + j, none⟩ = some (.int .u8 ((l.drop (k + n))[j]).toNat)) := fun j h => by
            first | (rw [show off + k + j = off + (k + n + j) by omega, HC.out (k + n + j) (by omega)]; simp; done) | (exfalso; omega)
          have hb1 : (n : Int) ≤ ((c - k : Nat) : Int) := by omega
          clear hlt hld hL2
          go_wp2
          go_region_held3 (fun wx => Rd wx (.slice (some ⟨b, off + k, none⟩) n n) ((l.drop k).take n)) (first | assumption | exact Rd.carry (by assumption) (by assumption)) ((go_at_call 127; refine (clone_at b (off + k) (0) (l.length - k - n) (l.drop (k + n)) _ HL2.out (by omega) (by exact HC2.out)).mono ?_; rintro e w2 ⟨v2, rfl, hown2, hbel2⟩))
          go_wp2
          go_ret3
          exact ⟨_, rfl, .inr ⟨_, _, _, HCT.out, rfl, hown2⟩, (Below.refl _ _).drew.trans hbel2⟩
        · have hR : Rd w1 (.slice (some ⟨b, off + k, none⟩) n (c - k)) ((l.drop k).take n) := .inr ⟨b, off + k, (c - k), by rw [hlt], by omega, by omega, fun j hj => by
            rw [show off + k + j = off + (k + j) by omega, HC.out (k + j) (by omega)]; simp⟩
          have hconv : ∀ wx, Rd wx (.slice (some ⟨b, off + k, none⟩) n (c - k)) ((l.drop k).take n) → (convert 23 9 (.slice (some ⟨b, off + k, none⟩) n (c - k))).run Tryz.prog wx = .ok (.string (bs ((l.drop k).take n))) wx := fun wx h => conv_rd _ _ _ Tryz.underlying23 Tryz.underlying5 Tryz.underlying9 h
          have hL2 : (l.drop (k + n)).length = l.length - k - n := by omega
          have HL2 : Hid ((l.drop (k + n)).length = l.length - k - n) := hL2
          have HC2 : Hid (∀ j, (h : j < (l.drop (k + n)).length) → w1.cell? ⟨b, off + k + n + j, none⟩ = some (.int .u8 ((l.drop (k + n))[j]).toNat)) := fun j h => by
            first | (rw [show off + k + n + j = off + (k + n + j) by omega, HC.out (k + n + j) (by omega)]; simp; done) | (exfalso; omega)
          have hb1 : (n : Int) ≤ ((c - k : Nat) : Int) := by omega
          clear hlt hld hL2
          go_wp2
          go_region_held3 (fun wx => Rd wx (.slice (some ⟨b, off + k, none⟩) n (c - k)) ((l.drop k).take n)) (first | assumption | exact Rd.carry (by assumption) (by assumption)) ((go_at_call 127; refine (clone_at b (off + k + n) (c - k - n) (l.length - k - n) (l.drop (k + n)) _ HL2.out (by omega) (by exact HC2.out)).mono ?_; rintro e w2 ⟨v2, rfl, hown2, hbel2⟩))
          go_wp2
          go_ret3
          exact ⟨_, rfl, .inr ⟨_, _, _, HCT.out, rfl, hown2⟩, (Below.refl _ _).drew.trans hbel2⟩
    · go_wp2
      all_goals (go_ret3; exact ⟨_, rfl, .inl ⟨ct_long HR.out hn, rfl⟩, Below.refl _ _⟩)

theorem read1_any {v : Value} {l : List UInt8} (w : World) (h : Rd w v l) :
    Calls Tryz.prog 250 #[v] w fun e w' => e = .returned (rdV (rd l)) ∧ w' = w := by
  rcases h with ⟨rfl, rfl | ⟨ad, c, rfl⟩⟩ | ⟨b, off, c, rfl, hc, hm, hcell⟩
  · exact read_nil _ _ w
  · exact read_nil _ _ w
  · exact read_row b off c l w hcell
theorem ccut_any {v : Value} {l : List UInt8} (w : World) (hl : l.length ≤ 1000000000) (h : Rd w v l) :
    Calls Tryz.prog 251 #[v] w fun e w' => ∃ v, e = .returned v ∧ CutV w w' v l ∧ Below w.heap.size w w' := by
  rcases h with ⟨rfl, rfl | ⟨ad, c, rfl⟩⟩ | ⟨b, off, c, rfl, hc, hm, hcell⟩
  · exact cut_nil _ _ w
  · exact cut_nil _ _ w
  · exact cut_row b off c l w hl hc hm hcell
/-- What Cut answers, in one form. -/
def cutT (l : List UInt8) : ByteArray := match ct l with | none => ByteArray.empty | some (t, _) => bs t
def cutEr (l : List UInt8) : Int := match ct l with | none => 8 | some _ => 0
def cutR (l : List UInt8) : List UInt8 := match ct l with | none => [] | some (_, r) => r
theorem cutV_form {w w' : World} {v : Value} {l : List UInt8} (h : CutV w w' v l) : ∃ x, v = .tuple #[.string (cutT l), x, .int .i64 (cutEr l)] ∧ w'.ownsRow w.heap.size 5 1 x (cutR l).length (u8v (cutR l)) := by
  rcases h with ⟨h, rfl⟩ | ⟨t, r, x, h, rfl, hx⟩
  · exact ⟨.slice none 0 0, by simp [cutT, cutEr, h], by simp only [cutR, h]; exact World.ownsRow_nil _ _ _ _⟩
  · exact ⟨x, by simp [cutT, cutEr, h], by simp only [cutR, h]; exact hx⟩
end Go.Proofs.YtnigdbhjaoeblaaGreat

/-
  What super's number and its closure do: four bytes of a row are put, or read.
-/
import Derived.Test.YtlibnefibeikcaaRSame
import Derived.Test.YtlibnefibeikcaaRegP
import Derived.Test.YtlibnefibeikcaaMathSl
namespace Go.Proofs.Ytlibnefibeikcaa
open Go.RowKit
set_option linter.unusedVariables false
set_option linter.unusedSimpArgs false

theorem OwB.at {w : World} {base g n c : Nat} {l : List UInt8} (h : OwB w base (.slice (some ⟨g, 0, none⟩) n c) l) (j : Nat) (hj : j < l.length) : w.cell? ⟨g, j, none⟩ = some (.int .u8 (l[j]).toNat) := by
  have hx : (u8v l)[j]? = some (.int .u8 (l[j]).toNat) := by simp [u8v, List.getElem?_eq_getElem hj]
  have := World.ownsRow.cells h (g := g) rfl _ _ hx
  rw [Addr.add_lit] at this
  simpa using this
theorem OwB.len {w : World} {base g n c : Nat} {l : List UInt8} (h : OwB w base (.slice (some ⟨g, 0, none⟩) n c) l) : n = l.length := by
  obtain ⟨a, c', e⟩ := h.form
  cases e; rfl
theorem OwB.fz {w : World} {base g n c : Nat} {l : List UInt8} (h : OwB w base (.slice (some ⟨g, 0, none⟩) n c) l) (j : Nat) : w.frozen? ⟨g, j, none⟩ = false := by
  obtain rfl := h.len
  exact World.ownsRow.frozenAt h j
theorem OwB.stored {w : World} {base g n c : Nat} {l : List UInt8} (h : OwB w base (.slice (some ⟨g, 0, none⟩) n c) l) (j : Nat) (b : UInt8) :
    OwB (w.setCell ⟨g, j, none⟩ (.int .u8 b.toNat)) base (.slice (some ⟨g, 0, none⟩) n c) (l.set j b) ∧ w.grownBy (w.setCell ⟨g, j, none⟩ (.int .u8 b.toNat)) (some g) := by
  obtain rfl := h.len
  obtain ⟨h1, h2⟩ := World.ownsRow.stored h j (.int .u8 b.toNat)
  refine ⟨?_, h2⟩
  unfold OwB
  rw [List.length_set]
  have : u8v (l.set j b) = (u8v l).set j (.int .u8 b.toNat) := by simp [u8v, List.map_set]
  rw [this]; exact h1

theorem splice_step (data l : List UInt8) (o k : Nat) (hk : k < l.length) (hf : o + l.length ≤ data.length) : (splice data o (l.take k)).set (o + k) l[k] = splice data o (l.take (k + 1)) := by
  unfold splice
  have e1 : (data.take o).length = o := by simp; omega
  have e2 : (l.take k).length = k := by simp; omega
  have e3 : (l.take (k + 1)).length = k + 1 := by simp; omega
  rw [List.set_append_right _ _ (by omega), e1, show o + k - o = k by omega, List.set_append_right _ _ (by omega), e2, Nat.sub_self, e3]
  have hd : o + k < data.length := by omega
  rw [List.drop_eq_getElem_cons hd, List.set_cons_zero, List.take_succ_eq_append_getElem hk, List.append_assoc]
  rfl

end Go.Proofs.Ytlibnefibeikcaa
namespace Go.Proofs.Ytlibnefibeikcaa
open Go.RowKit
set_option linter.unusedVariables false
set_option linter.unusedSimpArgs false

set_option maxHeartbeats 1000000 in
set_option maxRecDepth 100000 in
theorem number_any (g off n c k : Nat) (w : World) (hk : k + 4 ≤ n) (hc : n ≤ c) (hm : c ≤ maxLen) :
    Calls Try.prog 63 #[.slice (some ⟨g, off, none⟩) n c, .int .i64 k] w fun e w' => e = .returned (.func (.func 76) #[] #[.pointer (some ⟨w.heap.size, 0, none⟩)]) ∧ Below w.heap.size w w' ∧ w'.cell? ⟨w.heap.size, 0, none⟩ = some (.slice (some ⟨g, off + k, none⟩) 4 (c - k)) ∧ w'.heap.size = w.heap.size + 1 := by
  have hw : wrap64 ((k : Int) + 4) = ((k + 4 : Nat) : Int) := by unfold wrap64; unfold maxLen at hm; omega
  have h1 : ((k + 4 : Nat) : Int) ≤ c := by omega
  have h2 : ¬ k = c := by omega
  have h3 : k + 4 ≤ c := by omega
  have h4 : k + 4 - k = 4 := by omega
  go_enter Try.func63, Try.ntmps63
  go_wp2
  go_ret
  rw [h4]
  exact ⟨rfl, (Below.refl _ _).alloc (Nat.le_refl _) _, by simp, by simp⟩

theorem put_arith {j : Nat} (h : j < 4) : ∃ m : Nat, m = 8 * j ∧ wrap64 (8 * (j : Int)) = (m : Int) ∧ IntKind.i64.wrap (8 * (j : Int)) = (m : Int) ∧ (m : Int) ≤ 32 := by
  refine ⟨8 * j, rfl, ?_, ?_, by omega⟩
  · unfold wrap64; omega
  · rw [IntKind.wrap_i64]; omega

theorem put_byte (x j m : Nat) (hm : m = 8 * j) (h : j < 4) : IntKind.u8.wrap ((x : Int) / 2 ^ m) = (((le4 x)[j]'(by rw [le4_len]; exact h)).toNat : Int) := by
  rw [le4_get x j h, hm, IntKind.wrap_u8', UInt8.toNat_ofNat']
  have e : ((2 : Int) ^ (8 * j)) = ((2 ^ (8 * j) : Nat) : Int) := by rw [Int.natCast_pow]; rfl
  rw [e, ← Int.natCast_ediv]
  generalize x / 2 ^ (8 * j) = y
  omega
theorem cell_other {w w' : World} {k g : Nat} {v : Value} {o : Nat} (hg : w.grownBy w' (some g)) (hc : w.cell? ⟨k, o, none⟩ = some v) (hne : k ≠ g) : w'.cell? ⟨k, o, none⟩ = some v := by
  rw [← hc]; unfold World.cell?; rw [show w'.heap[k]? = w.heap[k]? from hg.block _ (World.block_lt_of_cell? w _ hc) (by simpa using hne)]

set_option maxHeartbeats 1000000 in
set_option maxRecDepth 100000 in
theorem put_any (base g n c k kp cp : Nat) (l : List UInt8) (x : Nat) (w : World) (hown : OwB w base (.slice (some ⟨g, 0, none⟩) n c) l) (hcell : w.cell? ⟨kp, 0, none⟩ = some (.slice (some ⟨g, k, none⟩) 4 cp)) (hne : kp ≠ g) (hk : k + 4 ≤ l.length) (hx : x < 4294967296) :
    Calls Try.prog 76 #[.bool true, .int .u32 x, .pointer (some ⟨kp, 0, none⟩)] w fun e w' => (∃ v, e = .returned v) ∧ w.grownBy w' (some g) ∧ OwB w' base (.slice (some ⟨g, 0, none⟩) n c) (splice l k (le4 x)) := by
  have HOWN := hide hown
  have HKL := hide hk
  have HX := hide hx
  have hkb : kp < w.heap.size := World.block_lt_of_cell? w _ hcell
  clear hown hk hx
  go_enter Try.func76, Try.ntmps76
  go_wp2
  go_loopw [6, 10] (fun t i wr => ∃ (j : Nat) (z : Int), j ≤ 4 ∧ i = .int .i64 j ∧ t = .int .u32 z ∧ Hid (OwB wr base (.slice (some ⟨g, 0, none⟩) n c) (splice l k ((le4 x).take j))) ∧ w.grownBy wr (some g)) (fun _ i _ => 4 - (intOf i).toNat)
  case atStart =>
    refine ⟨0, 0, Nat.zero_le _, rfl, rfl, ?_, World.grownBy.refl _ _⟩
    show OwB _ _ _ _
    have e : splice l k ((le4 x).take 0) = l := by simp [splice]
    rw [e]; exact HOWN.out
  case round =>
    obtain ⟨j, z, hj, rfl, rfl, ho, hgr⟩ := hrel
    by_cases hlt : j < 4
    · have hlt' : (j : Int) < 4 := by omega
      obtain ⟨m, em, a1, a2, a3⟩ := put_arith hlt
      have EM := hide em
      clear em
      have hc : wr.cell? ⟨kp, 0, none⟩ = some (.slice (some ⟨g, k, none⟩) 4 cp) := cell_other hgr hcell hne
      have hfz := ho.out.fz (k + j)
      have hcl := ho.out.at (k + j) (by rw [length_splice]; have := HKL.out; omega; have := HKL.out; simp [le4_len]; omega)
      obtain ⟨bk, hbk, ebk⟩ : ∃ bk : UInt8, IntKind.u8.wrap ((x : Int) / 2 ^ m) = (bk.toNat : Int) ∧ bk = (le4 x)[j]'(by rw [le4_len]; exact hlt) := ⟨_, put_byte x j m EM.out hlt, rfl⟩
      have EB := hide ebk
      clear ebk
      have hK : Keeps (fun wx => wx.cell? ⟨kp, 0, none⟩ = some (.slice (some ⟨g, k, none⟩) 4 cp)) := keeps_cell _ _
      go_wp2
      refine regL_begin hK 8 (by kernel_rfl) hc ?_
      intro hS
      refine regL_take (i := 0) (v := ?qav0) rfl (by kernel_rfl) (by kernel_rfl) (by kernel_rfl) rfl (by kernel_rfl) (by kernel_rfl) (by rfl) ?qay0 hS ?qar0
      case qay0 => (rintro wx x1; go_simp; all_goals (with_reducible rfl))
      try simp only [Act.put, List.setIfInBounds_toArray, List.set_cons_zero, List.set_cons_succ]
      refine regL_take (i := 1) (v := ?qav1) rfl (by kernel_rfl) (by kernel_rfl) (by kernel_rfl) rfl (by kernel_rfl) (by kernel_rfl) (by rfl) ?qay1 hS ?qar1
      case qay1 => (rintro wx x1; go_simp; all_goals (with_reducible rfl))
      try simp only [Act.put, List.setIfInBounds_toArray, List.set_cons_zero, List.set_cons_succ]
      refine regL_take (i := 2) (v := ?qav2) rfl (by kernel_rfl) (by kernel_rfl) (by kernel_rfl) rfl (by kernel_rfl) (by kernel_rfl) (by rfl) ?qay2 hS ?qar2
      case qay2 => (rintro wx x1; go_simp; all_goals (with_reducible rfl))
      try simp only [Act.put, List.setIfInBounds_toArray, List.set_cons_zero, List.set_cons_succ]
      refine regL_take (i := 3) (v := ?qav3) rfl (by kernel_rfl) (by kernel_rfl) (by kernel_rfl) rfl (by kernel_rfl) (by kernel_rfl) (by rfl) ?qay3 hS ?qar3
      case qay3 => (rintro wx x1; go_simp; all_goals (with_reducible rfl))
      try simp only [Act.put, List.setIfInBounds_toArray, List.set_cons_zero, List.set_cons_succ]
      refine regL_take (i := 4) (v := ?qav4) rfl (by kernel_rfl) (by kernel_rfl) (by kernel_rfl) rfl (by kernel_rfl) (by kernel_rfl) (by rfl) ?qay4 hS ?qar4
      case qay4 => (rintro wx x1; go_simp; all_goals (with_reducible rfl))
      try simp only [Act.put, List.setIfInBounds_toArray, List.set_cons_zero, List.set_cons_succ]
      refine regL_take (i := 5) (v := ?qav5) rfl (by kernel_rfl) (by kernel_rfl) (by kernel_rfl) rfl (by kernel_rfl) (by kernel_rfl) (by rfl) ?qay5 hS ?qar5
      case qay5 => (rintro wx x1; go_simp; all_goals (with_reducible rfl))
      try simp only [Act.put, List.setIfInBounds_toArray, List.set_cons_zero, List.set_cons_succ]
      refine regL_take (i := 6) (v := ?qav6) rfl (by kernel_rfl) (by kernel_rfl) (by kernel_rfl) rfl (by kernel_rfl) (by kernel_rfl) (by rfl) ?qay6 hS ?qar6
      case qay6 => (rintro wx x1; go_simp; all_goals (with_reducible rfl))
      try simp only [Act.put, List.setIfInBounds_toArray, List.set_cons_zero, List.set_cons_succ]
      refine regL_take (i := 7) (v := ?qav7) rfl (by kernel_rfl) (by kernel_rfl) (by kernel_rfl) rfl (by kernel_rfl) (by kernel_rfl) (by rfl) ?qay7 hS ?qar7
      case qay7 => (rintro wx x1; go_simp; all_goals (with_reducible rfl))
      try simp only [Act.put, List.setIfInBounds_toArray, List.set_cons_zero, List.set_cons_succ]
      refine regL_last (i := 8) (w' := wr.drew.setCell ⟨g, k + j, none⟩ (.int .u8 bk.toNat)) rfl (by kernel_rfl) (by kernel_rfl) (by rfl) (by go_simp) ?_
      try simp only [Act.put, List.setIfInBounds_toArray, List.set_cons_zero, List.set_cons_succ]
      refine wpAnyL_done (by kernel_rfl) ?_ _
      refine NoPanic.normal ?_
      clear hS hK hbk hcl
      obtain ⟨o1, o2⟩ := ho.out.stored (k + j) bk
      rw [EB.out, splice_step _ _ _ _ (by rw [le4_len]; exact hlt) (by rw [le4_len]; exact HKL.out), ← EB.out] at o1
      have o1' : OwB (wr.drew.setCell ⟨g, k + j, none⟩ (.int .u8 bk.toNat)) base (.slice (some ⟨g, 0, none⟩) n c) (splice l k ((le4 x).take (j + 1))) := o1.carry (Below.refl _ _).drew
      have hG : w.grownBy (wr.drew.setCell ⟨g, k + j, none⟩ (.int .u8 bk.toNat)) (some g) := grown_trans (grown_trans hgr o2) (grown_none (grown_of_below (Below.refl _ _).drew) _)
      have hcs := cell_other hG hcell hne
      have hcb := o1'.at (k + j) (by rw [length_splice]; have := HKL.out; omega; have := HKL.out; simp [le4_len]; omega)
      obtain ⟨bz, hbz⟩ : ∃ bz : Int, bz = (((splice l k ((le4 x).take (j + 1)))[k + j]'(by rw [length_splice]; have := HKL.out; omega; have := HKL.out; simp [le4_len]; omega)).toNat : Int) := ⟨_, rfl⟩
      rw [← hbz] at hcb
      clear hbz
      have HO1 := hide o1'
      clear o1 o1' o2 hfz hc ho
      generalize wr.drew.setCell ⟨g, k + j, none⟩ (.int .u8 bk.toNat) = ws at *
      go_wp2
      go_roundw
      case rel => exact ⟨j + 1, _, by omega, by go_num, rfl, HO1, hG⟩
      case measure => simp [intOf] <;> omega
    · have hlt' : decide ((j : Int) < 4) = false := by simpa using (by omega : ¬ (j : Int) < 4)
      obtain rfl : j = 4 := by omega
      go_wp2
      go_ret
      refine ⟨⟨_, rfl⟩, hgr, ?_⟩
      have := ho.out
      rwa [List.take_of_length_le (by rw [le4_len]; omega)] at this

theorem get_or (j m u : Nat) (b : UInt8) (hm : m = 8 * j) (hj : j < 4) (hu : u < 256 ^ j) : bits .or .u32 (u : Int) ((b.toNat : Int) % 4294967296 * 2 ^ m % 4294967296) = ((u + b.toNat * 256 ^ j : Nat) : Int) := by
  have hb := b.toNat_lt
  have hp : (256 : Nat) ^ j = 2 ^ m := by rw [hm, Nat.pow_mul]
  rw [hp] at hu ⊢
  have hle : (2 : Nat) ^ m ≤ 2 ^ 24 := Nat.pow_le_pow_right (by decide) (by omega)
  have hlt : b.toNat * 2 ^ m < 4294967296 := by
    have : b.toNat * 2 ^ m ≤ 255 * 2 ^ m := Nat.mul_le_mul_right _ (by omega)
    omega
  have e : ((b.toNat : Int) * 2 ^ m) = ((b.toNat * 2 ^ m : Nat) : Int) := by rw [Int.natCast_mul, Int.natCast_pow]; rfl
  rw [show (b.toNat : Int) % 4294967296 = b.toNat by omega, e]
  have e2 : ((b.toNat * 2 ^ m : Nat) : Int) % 4294967296 = ((b.toNat * 2 ^ m : Nat) : Int) := by omega
  rw [e2, u32_or_nat _ _ (by omega) hlt, Nat.or_comm, nat_join m _ _ (by simp) hu, Nat.add_comm]

set_option maxHeartbeats 1000000 in
set_option maxRecDepth 100000 in
theorem get_any (g off kp cp : Nat) (b : List UInt8) (w : World) (hb : b.length = 4) (hrd : Rd w (.slice (some ⟨g, off, none⟩) 4 cp) b) (hcell : w.cell? ⟨kp, 0, none⟩ = some (.slice (some ⟨g, off, none⟩) 4 cp)) :
    Calls Try.prog 76 #[.bool false, .int .u32 0, .pointer (some ⟨kp, 0, none⟩)] w fun e w' => e = .returned (.int .u32 (un4 b)) ∧ w' = w := by
  have HB := hide hb
  have hcs : ∀ j, (h : j < b.length) → w.cell? ⟨g, off + j, none⟩ = some (.int .u8 (b[j]).toNat) := by
    rcases hrd with ⟨rfl, _⟩ | ⟨b', off', c', e, _, _, hc⟩
    · exact absurd hb (by decide)
    · simp only [Value.slice.injEq, Option.some.injEq, Addr.mk.injEq] at e
      obtain ⟨⟨rfl, rfl, _⟩, _, rfl⟩ := e
      exact hc
  have HC := hide hcs
  clear hb hrd hcs
  go_enter Try.func76, Try.ntmps76
  go_wp2
  go_loop [6, 10] (fun t i => ∃ j : Nat, j ≤ 4 ∧ i = .int .i64 j ∧ t = .int .u32 (un4 (b.take j))) (fun _ i => 4 - (intOf i).toNat)
  case atStart => exact ⟨0, Nat.zero_le _, rfl, rfl⟩
  case round =>
    obtain ⟨j, hj, rfl, rfl⟩ := hrel
    by_cases hlt : j < 4
    · have hlt' : (j : Int) < 4 := by omega
      obtain ⟨m, em, a1, a2, a3⟩ := put_arith hlt
      have EM := hide em
      clear em
      have hjb : j < b.length := by rw [HB.out]; exact hlt
      have hc := HC.out j hjb
      obtain ⟨u, hu⟩ : ∃ u : Nat, u = un4 (b.take j) := ⟨_, rfl⟩
      have HU := hide (show un4 (b.take (j + 1)) = u + (b[j]).toNat * 256 ^ j by rw [hu]; exact un4_take b j hjb)
      have HL := hide (show u < 256 ^ j by
        rw [hu]; have := un4_lt (b.take j); rwa [List.length_take, Nat.min_eq_left (by omega)] at this)
      rw [← hu]
      obtain ⟨y, hy⟩ : ∃ y : UInt8, y = b[j] := ⟨_, rfl⟩
      rw [← hy] at hc
      have HY := hide hy
      clear hu hy
      go_wp2
      go_round
      case rel => exact ⟨j + 1, by omega, by go_num, by rw [HU.out, ← get_or j m u _ EM.out hlt HL.out, ← HY.out]⟩
      case measure => simp [intOf] <;> omega
    · obtain rfl : j = 4 := by omega
      go_wp2
      go_ret
      refine ⟨?_, rfl⟩
      rw [List.take_of_length_le (by rw [HB.out]; omega)]
      rfl

end Go.Proofs.Ytlibnefibeikcaa

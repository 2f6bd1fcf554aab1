/-
  What the document's four, number, Block, Of, Where and Latest do.
-/
import Derived.Test.YtmeaiocohalphaaGreatDoorSLat
import Derived.BigQuiet
set_option maxHeartbeats 1000000
set_option maxRecDepth 100000
namespace Go.Proofs.YtmeaiocohalphaaGreatDoor
open Go.RowKit
set_option linter.unusedVariables false
set_option linter.unusedSimpArgs false
theorem OwB_lit (w : World) (l : List UInt8) (h : l.length ≤ maxLen) (cs : Array Value) (hc : cs.toList = u8v l) : OwB (w.alloc (.cells cs 5)) w.heap.size (.slice (some ⟨w.heap.size, 0, none⟩) l.length l.length) l := by
 show World.ownsRow _ _ _ _ _ _ _
 have hl : cs.size = l.length := by rw [← Array.length_toList, hc]; simp [u8v]
 refine ⟨by simp [u8v], .inr ⟨w.heap.size, l.length, cs, rfl, Nat.le_refl _, heap_alloc_new _ _, Nat.le_refl _, h, by simp [hl], ?_⟩⟩
 rw [hc, List.take_of_length_le (by simp [u8v])]
theorem four_cells (n : Nat) (h : n < 4294967296) : #[Value.int .u8 ((n : Int) % 256), .int .u8 ((n : Int) / 256 % 256), .int .u8 ((n : Int) / 65536 % 256), .int .u8 ((n : Int) / 16777216)].toList = u8v (le4 n) := by
 simp only [u8v, le4, List.map_cons, List.map_nil, UInt8.toNat_ofNat']
 have e1 : ((n % 256 % 2 ^ 8 : Nat) : Int) = (n : Int) % 256 := by omega
 have e2 : ((n / 256 % 256 % 2 ^ 8 : Nat) : Int) = (n : Int) / 256 % 256 := by omega
 have e3 : ((n / 65536 % 256 % 2 ^ 8 : Nat) : Int) = (n : Int) / 65536 % 256 := by omega
 have e4 : ((n / 16777216 % 256 % 2 ^ 8 : Nat) : Int) = (n : Int) / 16777216 := by omega
 rw [e1, e2, e3, e4]
theorem rfour_any (n : Nat) (w : World) (hn : n < 4294967296) :
  Calls Tryz.prog 271 #[.int .u32 n] w fun e w' => ∃ v, e = .returned v ∧ OwB w' w.heap.size v (le4 n) ∧ Below w.heap.size w w' := by
 go_enter Tryz.func271, Tryz.ntmps271
 go_wp2
 go_ret
 exact ⟨_, rfl, OwB_lit w (le4 n) (by unfold maxLen; rw [le4_len]; decide) _ (four_cells n hn), (Below.refl _ _).alloc (Nat.le_refl _) _⟩
def slLen : Value → Nat
 | .slice _ n _ => n
 | _ => 0
theorem un4_four {b : List UInt8} (h : b.length = 4) : ∃ b0 b1 b2 b3 : UInt8, b = [b0, b1, b2, b3] := by
 match b, h with
 | [b0, b1, b2, b3], _ => exact ⟨b0, b1, b2, b3, rfl⟩
theorem un4_num (b0 b1 b2 b3 : UInt8) : ((((b0.toNat : Int) + (b1.toNat : Int) % 4294967296 * 256 + (b2.toNat : Int) % 4294967296 * 65536) % 4294967296 + (b3.toNat : Int) % 4294967296 * 16777216 % 4294967296) % 4294967296) = (un4 [b0, b1, b2, b3] : Nat) := by
 have h0 := b0.toNat_lt
 have h1 := b1.toNat_lt
 have h2 := b2.toNat_lt
 have h3 := b3.toNat_lt
 simp only [un4]
 omega
theorem rnum_any (g off cp : Nat) (b : List UInt8) (w : World) (hb : b.length = 4) (hrd : Rd w (.slice (some ⟨g, off, none⟩) 4 cp) b) :
  Calls Tryz.prog 241 #[.slice (some ⟨g, off, none⟩) 4 cp] w fun e w' => e = .returned (.int .u32 (un4 b)) ∧ Below w.heap.size w w' := by
 have hcs : ∀ j, (h : j < b.length) → w.cell? ⟨g, off + j, none⟩ = some (.int .u8 (b[j]).toNat) := by
  rcases hrd with ⟨rfl, _⟩ | ⟨b', off', c', e, _, _, hc⟩
  ·exact absurd hb (by decide)
  ·simp only [Value.slice.injEq, Option.some.injEq, Addr.mk.injEq] at e
   obtain ⟨⟨rfl, rfl, _⟩, _, rfl⟩ := e
   exact hc
 obtain ⟨b0, b1, b2, b3, rfl⟩ := un4_four hb
 have c0 : w.cell? ⟨g, off, none⟩ = some (.int .u8 b0.toNat) := hcs 0 (by simp)
 have c1 : w.cell? ⟨g, off + 1, none⟩ = some (.int .u8 b1.toNat) := hcs 1 (by simp)
 have c2 : w.cell? ⟨g, off + 2, none⟩ = some (.int .u8 b2.toNat) := hcs 2 (by simp)
 have c3 : w.cell? ⟨g, off + 3, none⟩ = some (.int .u8 b3.toNat) := hcs 3 (by simp)
 clear hcs hrd hb
 go_enter Tryz.func241, Tryz.ntmps241
 go_wp2
 go_quiet (fail)
 go_wp2
 go_ret
 exact ⟨congrArg (fun x => Ending.returned (.int .u32 x)) (un4_num b0 b1 b2 b3), below_drewN (Below.refl _ _) _⟩
theorem rwhere_any (gen : Nat) (w : World) (hg : gen < 4294967296) :
  Calls Tryz.prog 119 #[.int .u32 gen] w fun e w' => e = .returned (.tuple #[.int .i64 (gen % 2 : Nat), .int .i64 (2 + gen % 2 * 16 : Nat)]) ∧ w' = w := by
 rcases (by omega : gen % 2 = 0 ∨ gen % 2 = 1) with h | h
 ·have h' : (gen : Int) % 2 = 0 := by omega
  have h'' : Int.tmod (gen : Int) 2 = 0 := by rw [Int.tmod_eq_emod_of_nonneg (by omega)]; exact h'
  rw [h]
  go_enter Tryz.func119, Tryz.ntmps119
  go_wp2
  go_ret2
  exact ⟨rfl, rfl⟩
 ·have h' : (gen : Int) % 2 = 1 := by omega
  have h'' : Int.tmod (gen : Int) 2 = 1 := by rw [Int.tmod_eq_emod_of_nonneg (by omega)]; exact h'
  rw [h]
  go_enter Tryz.func119, Tryz.ntmps119
  go_wp2
  go_ret2
  exact ⟨rfl, rfl⟩
theorem rblock3_any (gen : Nat) (size : Int) (w : World) (hg : gen < 4294967296) :
  Calls Tryz.prog 242 #[.int .u32 gen, .int .i64 size] w fun e w' => ∃ bv, e = .returned (.tuple #[bv, .int .i64 (blockS gen size).2]) ∧ OwB w' w.heap.size bv (blockS gen size).1 ∧ Below w.heap.size w w' := by
 by_cases h0 : gen = 0
 ·have HE := hide (show blockS gen size = ([], 2) by unfold blockS; rw [if_pos (.inl h0)])
  have h0' : (gen : Int) = 0 := by omega
  go_enter Tryz.func242, Tryz.ntmps242
  go_wp2
  go_ret2
  rw [HE.out]
  exact ⟨_, rfl, World.ownsRow_nil _ _ _ _, Below.refl _ _⟩
 ·have h0' : ¬ (gen : Int) = 0 := by omega
  by_cases h1 : size < 0
  ·have HE := hide (show blockS gen size = ([], 2) by unfold blockS; rw [if_pos (.inr (.inl h1))])
   go_enter Tryz.func242, Tryz.ntmps242
   go_wp2
   go_ret2
   rw [HE.out]
   exact ⟨_, rfl, World.ownsRow_nil _ _ _ _, Below.refl _ _⟩
  ·have h1' : decide (size < 0) = false := by simpa using h1
   by_cases h2 : 2048 < size
   ·have HE := hide (show blockS gen size = ([], 2) by unfold blockS; rw [if_pos (.inr (.inr h2))])
    go_enter Tryz.func242, Tryz.ntmps242
    go_wp2
    go_ret2
    rw [HE.out]
    exact ⟨_, rfl, World.ownsRow_nil _ _ _ _, Below.refl _ _⟩
   ·have h2' : decide (2048 < size) = false := by simpa using h2
    obtain ⟨s, rfl⟩ : ∃ s : Nat, size = s := ⟨size.toNat, by omega⟩
    have hs : s ≤ 2048 := by omega
    have HE := hide (show blockS gen s = (le4 gen ++ (le4 s ++ List.replicate 120 0), 0) by rw [blockS_of h0 (by omega) (by omega)]; rfl)
    have hws : IntKind.u32.wrap (s : Int) = s := by rw [IntKind.wrap_u32']; omega
    have hws' : (s : Int) % 4294967296 = s := by omega
    go_enter Tryz.func242, Tryz.ntmps242
    go_wp2_with fail
    refine (rfour_any gen _ hg).mono ?_
    rintro e w1 ⟨v1, rfl, hO1, hb1⟩
    go_wp2_with fail
    refine (rfour_any s _ (by omega)).mono ?_
    rintro e w2 ⟨v2, rfl, hO2, hb2⟩
    have hO1' := hO1.carry hb2
    have hB2 : Below w.heap.size w w2 := hb1.trans (hb2.mono hb1.size)
    have HR2 := hide hO2.rd
    clear hO1 hO2 hb1 hb2 h0 h1 h2 h0' h1' h2'
    go_wp2_with (at_builtin; go_must (refine wpList_apprd w w2 rfl (.tmp 18) (.tmp 21) 23 rfl w.heap.size 5 Tryz.underlying23 Tryz.infoB _ (le4 gen) hO1' rfl hB2 (Nat.le_refl _) _ (le4 s) HR2.out rfl (by simp [le4_len]) ?_); intro v3 w3 hO3 hb3)
    go_loopw [6] (fun x wr => ∃ k : Nat, k ≤ 120 ∧ wr.ownsRow w.heap.size 5 1 x (le4 gen ++ le4 s ++ List.replicate k 0).length (u8v (le4 gen ++ le4 s ++ List.replicate k 0)) ∧ Below w.heap.size w wr) (fun x _ => 128 - slLen x)
    case atStart => exact ⟨0, Nat.zero_le _, by simpa using hO3, hb3⟩
    case round =>
     obtain ⟨k, hk, hO, hb⟩ := hrel
     have hO' : OwB wr w.heap.size _ (le4 gen ++ le4 s ++ List.replicate k 0) := hO
     obtain ⟨a, c, rfl⟩ := hO'.form
     obtain ⟨n, en⟩ : ∃ n, n = (le4 gen ++ le4 s ++ List.replicate k 0).length := ⟨_, rfl⟩
     have hn : n = 8 + k := by rw [en]; simp [le4_len]; omega
     have hO2 : wr.ownsRow w.heap.size 5 1 (.slice a n c) (le4 gen ++ le4 s ++ List.replicate k 0).length (u8v (le4 gen ++ le4 s ++ List.replicate k 0)) := by rw [en]; exact hO
     rw [← en]
     have EN := hide en
     clear hO hO' en
     by_cases hlt : k < 120
     ·have hlt' : (n : Int) < 128 := by omega
      have HN := hide hn
      clear hn
      go_wp2_with (at_builtin; go_must (refine wpList_app1 w wr rfl (.tmp 26) (.tmp 27) 23 rfl w.heap.size 5 Tryz.underlying23 Tryz.infoB _ _ hO2 rfl hb (Nat.le_refl _) _ 0 rfl rfl (by rw [← EN.out, HN.out]; omega) ?_); intro v4 w4 hO4 hb4)
      have e : le4 gen ++ le4 s ++ List.replicate k 0 ++ [0] = le4 gen ++ le4 s ++ List.replicate (k + 1) 0 := by rw [List.append_assoc _ (List.replicate k 0) [0], ← List.replicate_succ']
      rw [e] at hO4
      have hO4' : OwB w4 w.heap.size _ (le4 gen ++ le4 s ++ List.replicate (k + 1) 0) := hO4
      obtain ⟨a4, c4, e4⟩ := hO4'.form
      have hl4 : (le4 gen ++ le4 s ++ List.replicate (k + 1) 0).length = n + 1 := by rw [HN.out]; simp [le4_len]; omega
      rw [hl4] at e4
      subst e4
      go_roundw
      case rel => exact ⟨k + 1, by omega, hO4, hb4⟩
      case measure => simp [slLen] <;> omega
     ·obtain rfl : k = 120 := by omega
      have hlt' : decide ((n : Int) < 128) = false := by simpa using (by omega : ¬ (n : Int) < 128)
      have HO := hide hO2
      clear hO2 hn
      go_wp2
      go_ret2
      rw [HE.out]
      refine ⟨_, rfl, ?_, hb⟩
      show World.ownsRow _ _ _ _ _ _ _
      rw [← List.append_assoc]
      exact HO.out
theorem rof_any (b : List UInt8) (v : Value) (w : World) (hrd : Rd w v b) :
  Calls Tryz.prog 192 #[v] w fun e w' => e = .returned (.tuple #[.int .u32 (ofS b).1, .int .i64 (ofS b).2.1, .int .i64 (ofS b).2.2]) ∧ Below w.heap.size w w' := by
 obtain ⟨a, c, rfl⟩ := hrd.form
 by_cases hl : b.length = 128
 ·rw [hl] at hrd ⊢
  obtain ⟨g, off, rfl, -, hnc, hr1⟩ := rd_sub hrd 0 4 (by omega) (by omega)
  obtain ⟨g', off', e', -, -, hr2⟩ := rd_sub hrd 4 8 (by omega) (by omega)
  cases e'
  have e1 : (b.drop 0).take (4 - 0) = b.take 4 := rfl
  have e2 : (b.drop 4).take (8 - 4) = (b.drop 4).take 4 := rfl
  rw [e1] at hr1
  rw [e2] at hr2
  have hr1 : Rd w (.slice (some ⟨g, off, none⟩) 4 c) (b.take 4) := hr1
  have hr2 : Rd w (.slice (some ⟨g, off + 4, none⟩) 4 (c - 4)) ((b.drop 4).take 4) := hr2
  have l1 : (b.take 4).length = 4 := by rw [List.length_take]; omega
  have l2 : ((b.drop 4).take 4).length = 4 := by rw [List.length_take, List.length_drop]; omega
  obtain ⟨G, eG⟩ : ∃ G, G = un4 (b.take 4) := ⟨_, rfl⟩
  obtain ⟨Z, eZ⟩ : ∃ Z, Z = un4 ((b.drop 4).take 4) := ⟨_, rfl⟩
  have hG : G < 4294967296 := by rw [eG]; have := un4_lt (b.take 4); rw [l1] at this; omega
  have hZ : Z < 4294967296 := by rw [eZ]; have := un4_lt ((b.drop 4).take 4); rw [l2] at this; omega
  have HOF := hide (show ofS b = if (blockS G Z).2 ≠ 0 ∨ b ≠ (blockS G Z).1 then (0, 0, 8) else (G, Z, 0) by unfold ofS; rw [if_neg (by omega), ← eG, ← eZ])
  have HR := hide hrd
  have HR1 := hide hr1
  have HR2 := hide hr2
  have HL1 := hide l1
  have HL2 := hide l2
  have EG := hide eG
  have EZ := hide eZ
  have hwz : IntKind.i64.wrap (Z : Int) = Z := by rw [IntKind.wrap_i64]; omega
  have hc4 : (4 : Int) ≤ c := by omega
  have hc8 : (8 : Int) ≤ c := by omega
  have hn8 : 8 ≤ c := by omega
  have hn4 : 4 ≤ c := by omega
  have hc0 : ¬ c = 0 := by omega
  have hc44 : ¬ c = 4 := by omega
  have hc4' : ¬ 4 = c := by omega
  clear hl hrd hr1 hr2 e1 e2 l1 l2 eG eZ
  have hK : Keeps (fun wx => Rd wx (.slice (some ⟨g, off, none⟩) 4 c) (b.take 4) ∧ Rd wx (.slice (some ⟨g, off + 4, none⟩) 4 (c - 4)) ((b.drop 4).take 4) ∧ Below w.heap.size w wx) := fun w1 w2 h hb => ⟨h.1.carry hb, h.2.1.carry hb, h.2.2.trans (hb.mono h.2.2.size)⟩
  go_enter Tryz.func192, Tryz.ntmps192
  go_wp2
  refine reg_begin hK (by kernel_rfl) ⟨HR1.out, HR2.out, Below.refl _ _⟩ ?_
  intro hS
  refine reg_plan [0, 1, 3, 4] (fuel := 4) (a' := ?qaa1) (by kernel_rfl) (by kernel_rfl) (by kernel_rfl) ?qap1 hS ?qan1
  case qap1 =>
   iterate 4 (apply Yl.cons rfl rfl; focus (rintro wx ⟨x1, x2, x3⟩; go_simp; all_goals (with_reducible rfl)); try simp only [Act.put, List.setIfInBounds_toArray, List.set_cons_zero, List.set_cons_succ])
   exact Yl.nil
  refine reg_callv hK (i := 2) (v := .int .u32 G) rfl (by kernel_rfl) (by rfl) (by go_simp) hS ((rnum_any g off c _ _ HL1.out hS.1).mono fun e wy ⟨h1, h2⟩ => ⟨h1.trans (by rw [EG.out]), h2⟩) ?_
  clear hS
  intro w14 hS
  try simp only [Act.put, List.setIfInBounds_toArray, List.set_cons_zero, List.set_cons_succ]
  refine reg_callv hK (i := 5) (v := .int .u32 Z) rfl (by kernel_rfl) (by rfl) (by go_simp) hS ((rnum_any g (off + 4) (c - 4) _ _ HL2.out hS.2.1).mono fun e wy ⟨h1, h2⟩ => ⟨h1.trans (by rw [EZ.out]), h2⟩) ?_
  clear hS
  intro w17 hS
  try simp only [Act.put, List.setIfInBounds_toArray, List.set_cons_zero, List.set_cons_succ]
  refine reg_plan [6, 7] (fuel := 0) (a' := ?qaa2) (by kernel_rfl) (by kernel_rfl) (by kernel_rfl) ?qap2 hS ?qan2
  case qap2 =>
   iterate 2 (apply Yl.cons rfl rfl; focus (rintro wx ⟨x1, x2, x3⟩; go_simp; all_goals (with_reducible rfl)); try simp only [Act.put, List.setIfInBounds_toArray, List.set_cons_zero, List.set_cons_succ])
   exact Yl.nil
  refine wpAnyH_done (by kernel_rfl) ?_ _
  refine NoPanic.normal ?_
  try simp only [Act.put, List.setIfInBounds_toArray, List.set_cons_zero, List.set_cons_succ]
  obtain ⟨-, -, hB2⟩ := hS
  clear hc4 hc8 hn8 hn4 hc0 hc44 hc4' hK
  by_cases hz : 2048 < Z
  ·have hz' : (2048 : Int) < Z := by omega
   have HE := hide (show ofS b = (0, 0, 8) by rw [HOF.out, if_pos (.inl (by unfold blockS; rw [if_pos (.inr (.inr hz'))]; decide))])
   go_wp2
   go_ret3
   rw [HE.out]
   exact ⟨rfl, hB2⟩
  have hz' : decide ((2048 : Int) < Z) = false := by simpa using (by omega : ¬ (2048 : Int) < Z)
  go_wp2_with fail
  refine (rblock3_any G Z _ hG).mono ?_
  rintro e w3 ⟨bv, rfl, hO3, hb3⟩
  have hB3 : Below w.heap.size w w3 := hB2.trans (hb3.mono hB2.size)
  have HO3 := hide hO3
  clear hO3 hb3 hz'
  by_cases hok : (blockS G Z).2 = 0
  ·rw [hok]
   have h1 := conv_rd (P := Tryz.prog) 23 5 9 Tryz.underlying23 Tryz.underlying5 Tryz.underlying9 HO3.out.rd
   have h2 := conv_rd (P := Tryz.prog) 23 5 9 Tryz.underlying23 Tryz.underlying5 Tryz.underlying9 (HR.out.carry hB3)
   by_cases heq : b = (blockS G Z).1
   ·have HE := hide (show ofS b = (G, Z, 0) by rw [HOF.out, if_neg (by rw [hok]; simp [← heq])])
    rw [← heq] at h1
    clear heq
    go_wp2
    go_ret3
    rw [HE.out]
    exact ⟨rfl, hB3⟩
   ·have HE := hide (show ofS b = (0, 0, 8) by rw [HOF.out, if_pos (.inr heq)])
    have hne2 : ((bs (blockS G Z).1).toList == (bs b).toList) = false := by
     rw [bs_beq]; simp; intro h; exact heq h.symm
    clear heq
    go_wp2
    go_ret3
    rw [HE.out]
    exact ⟨rfl, hB3⟩
  ·have HE := hide (show ofS b = (0, 0, 8) by rw [HOF.out, if_pos (.inl hok)])
   rw [show (blockS G Z).2 = 2 by rw [blockS_err hok]]
   go_wp2
   go_ret3
   rw [HE.out]
   exact ⟨rfl, hB3⟩
 ·have HE := hide (show ofS b = (0, 0, 3) by unfold ofS; rw [if_pos hl])
  have hl' : ¬ (b.length : Int) = 128 := by omega
  go_enter Tryz.func192, Tryz.ntmps192
  go_wp2
  go_ret3
  rw [HE.out]
  exact ⟨rfl, Below.refl _ _⟩
theorem rlatest_any {d : Dk} {v : Value} (w : World) (hD : RdD w v d) :
  Calls Tryz.prog 118 #[v] w fun e w' => e = .returned (.tuple #[.int .u32 (latestS d).1, .int .i64 (latestS d).2.1, .int .i64 (latestS d).2.2]) ∧ Below w.heap.size w w' := by
 obtain ⟨a1, c1, a2, c2, a3, c3, rfl, h1, _, _⟩ := hD.form
 have hn1 : d.1.length ≤ maxLen := h1.len_le
 have HD := hide hD
 have H1 := hide h1
 clear hD h1
 generalize e1 : d.1.length = n1 at *
 generalize e2 : d.2.1.length = n2 at *
 generalize e3 : d.2.2.length = n3 at *
 have E1 := hide e1
 clear e1 e2 e3
 obtain ⟨q, eq⟩ : ∃ q, q = n1 / 128 := ⟨_, rfl⟩
 have HQ := hide (show q = mny d by rw [mny, E1.out, eq])
 have HC := hide (fun wx => eq ▸ rmany_any a1 a2 a3 n1 c1 n2 c2 n3 c3 hn1 wx : ∀ wx, Calls Tryz.prog 116 #[.agg #[.slice a1 n1 c1, .slice a2 n2 c2, .slice a3 n3 c3]] wx fun e w' => e = .returned (.int .i64 q) ∧ Below wx.heap.size wx w')
 clear eq
 obtain ⟨w1, ew⟩ : ∃ w1, w.alloc (.cells #[.slice a1 n1 c1, .slice a2 n2 c2, .slice a3 n3 c3] 27) = w1 := ⟨_, rfl⟩
 have hb1 : Below w.heap.size w w1 := by rw [← ew]; exact (Below.refl _ _).alloc (Nat.le_refl _) _
 have hd1 : w1.heap[w.heap.size]? = some (.cells #[.slice a1 n1 c1, .slice a2 n2 c2, .slice a3 n3 c3] 27 (0, 0)) := by rw [← ew]; exact heap_alloc_new _ _
 obtain ⟨k0, k1, k2, -⟩ := cells3 hd1
 go_enter Tryz.func118, Tryz.ntmps118
 go_wp2_with fail
 refine (rcheck_any (d := d) _ (HD.out.carry hb1)).mono ?_
 rintro e w2 ⟨rfl, hb2⟩
 have hB2 : Below w.heap.size w w2 := hb1.trans (hb2.mono hb1.size)
 have hd2 := keeps_block _ _ _ _ hd1 hb2
 clear ew k0 k1 k2 hb1 hb2 hd1
 obtain ⟨k0, k1, k2, -⟩ := cells3 hd2
 rcases chk_cases d with ⟨hok, hck⟩ | ⟨hok, hck⟩
 ·rw [hck]
  have HCK := hide hck
  have HOK := hide hok
  clear hck hok
  go_wp2_with fail
  refine (HC.out _).mono ?_
  rintro e w3 ⟨rfl, hb3⟩
  have hB3 : Below w.heap.size w w3 := hB2.trans (hb3.mono hB2.size)
  have hd3 := keeps_block _ _ _ _ hd2 hb3
  clear k0 k1 k2 hb3 hd2 hB2
  by_cases hq : q ≤ 34
  ·have HE := hide (show latestS d = (0, 0, 70) by unfold latestS; rw [if_neg (by rw [HCK.out]; decide), if_pos (by rw [← HQ.out]; exact hq)])
   have hq' : (q : Int) ≤ 34 := by omega
   go_wp2
   go_ret3
   rw [HE.out]
   exact ⟨rfl, hB3⟩
  ·have HE := hide (show latestS d = if (accS d 2).1 = 0 then (0, 0, 70) else ((accS d 2).1, (accS d 2).2, 0) by unfold latestS; rw [if_neg (by rw [HCK.out]; decide), if_neg (by rw [← HQ.out]; exact hq)]; rfl)
   have hq' : decide ((q : Int) ≤ 34) = false := by simpa using (by omega : ¬ (q : Int) ≤ 34)
   have HM := hide (show 34 < mny d by rw [← HQ.out]; omega)
   clear hq
   go_wp2
   clear hq'
   go_loopw [6, 7, 8] (fun g s i wr => ∃ k : Nat, k ≤ 2 ∧ i = .int .i64 k ∧ g = .int .u32 (accS d k).1 ∧ s = .int .i64 (accS d k).2 ∧ Below w3.heap.size w3 wr) (fun _ _ i _ => 2 - (intOf i).toNat)
   case atStart => exact ⟨0, Nat.zero_le _, rfl, rfl, rfl, Below.refl _ _⟩
   case round =>
    obtain ⟨k, hk, rfl, rfl, rfl, hbr⟩ := hrel
    have hBr : Below w.heap.size w wr := hB3.trans (hbr.mono hB3.size)
    obtain ⟨r, er⟩ : ∃ r, r = accS d k := ⟨_, rfl⟩
    rw [← er]
    have HR := hide er
    clear er
    by_cases hlt : k < 2
    ·have hlt' : (k : Int) < 2 := by omega
     have hdr := keeps_block _ _ _ _ hd3 hbr
     obtain ⟨l0, l1, l2, -⟩ := cells3 hdr
     have hlen : d.1.length = 128 * mny d := by
      have := ((okD_iff d).1 HOK.out).1
      unfold mny; omega
     have hlen1 : n1 = 128 * mny d := by rw [← E1.out]; exact hlen
     have hmm := HM.out
     obtain ⟨b9, o9, rfl, -, hnc, hrd⟩ := rd_sub (H1.out.carry hBr) (k * 128) ((k + 1) * 128) (by omega) (by omega)
     have eb : (d.1.drop (k * 128)).take ((k + 1) * 128 - k * 128) = blk d.1 k := by
      unfold blk; rw [show (k + 1) * 128 - k * 128 = 128 by omega, Nat.mul_comm]
     rw [eb] at hrd
     have hx : k * 128 + 128 - k * 128 = 128 := by omega
     rw [show (k + 1) * 128 - k * 128 = 128 by omega] at hrd
     have HRD := hide hrd
     have hh3 : k * 128 + 128 ≤ c1 := by omega
     have hh2 : ¬ k * 128 = c1 := by omega
     obtain ⟨hw1, -, -⟩ := wrapk k (by omega)
     have hw2 : wrap64 (((k * 128 : Nat) : Int) + 128) = ((k * 128 + 128 : Nat) : Int) := by unfold wrap64; omega
     obtain ⟨o, eo⟩ : ∃ o, o = ofS (blk d.1 k) := ⟨_, rfl⟩
     have HEO := hide eo
     have ho1 : o.1 < 4294967296 := by rw [eo]; exact (ofS_lt _).1
     have HO0 := hide (show o.2.2 ≠ 0 → o.1 = 0 ∧ o.2.1 = 0 by rw [eo]; exact ofS_err)
     clear eo hrd eb hlen hlen1 hmm
     go_wp2_with fail
     refine (rof_any (blk d.1 k) _ _ HRD.out).mono ?_
     rw [← HEO.out]
     rintro e w4 ⟨rfl, hb4⟩
     have hb4' : Below w3.heap.size w3 w4 := hbr.trans (hb4.mono hbr.size)
     clear hb4 l0 l1 l2 hdr hw1 hw2 hh2 hh3 hx hnc
     go_wp2_with fail
     refine (rwhere_any o.1 _ ho1).mono ?_
     rintro e w5 ⟨rfl, rfl⟩
     by_cases hoz : o.2.2 = 0
     ·by_cases hp : o.1 % 2 = k
      ·have hp' : ((o.1 % 2 : Nat) : Int) = k := by omega
       have hls : lastS d k = (o.1, o.2.1) := by unfold lastS; rw [← HEO.out, if_pos hp]
       by_cases hgt : r.1 < o.1
       ·have hgt' : (r.1 : Int) < o.1 := by omega
        have HA := hide (show accS d (k + 1) = (o.1, o.2.1) by show laterS (accS d k) (lastS d k) = _; rw [← HR.out, hls]; unfold laterS; rw [if_pos hgt])
        rw [hoz]
        clear hls hp
        go_wp2
        go_roundw
        case rel => exact ⟨k + 1, by omega, by go_num, by rw [HA.out], by rw [HA.out], hb4'⟩
        case measure => simp [intOf] <;> omega
       ·have hgt' : decide ((r.1 : Int) < o.1) = false := by simpa using (by omega : ¬ (r.1 : Int) < o.1)
        have HA := hide (show accS d (k + 1) = r by show laterS (accS d k) (lastS d k) = r; rw [← HR.out, hls]; unfold laterS; rw [if_neg hgt])
        rw [hoz]
        clear hls hp
        go_wp2
        go_roundw
        case rel => exact ⟨k + 1, by omega, by go_num, by rw [HA.out], by rw [HA.out], hb4'⟩
        case measure => simp [intOf] <;> omega
      ·have hp' : ¬ ((o.1 % 2 : Nat) : Int) = k := by omega
       have HA := hide (show accS d (k + 1) = r by show laterS (accS d k) (lastS d k) = r; rw [← HR.out]; unfold lastS; rw [← HEO.out, if_neg hp]; unfold laterS; rw [if_neg (by simp)])
       rw [hoz]
       clear hp
       go_wp2
       go_roundw
       case rel => exact ⟨k + 1, by omega, by go_num, by rw [HA.out], by rw [HA.out], hb4'⟩
       case measure => simp [intOf] <;> omega
     ·obtain ⟨z1, z2⟩ := HO0.out hoz
      have HA := hide (show accS d (k + 1) = r by
       show laterS (accS d k) (lastS d k) = r
       rw [← HR.out]; unfold lastS; rw [← HEO.out, z1, z2]
       unfold laterS
       split <;> (rw [if_neg (by simp)]))
      clear z1 z2
      go_wp2
      go_roundw
      case rel => exact ⟨k + 1, by omega, by go_num, by rw [HA.out], by rw [HA.out], hb4'⟩
      case measure => simp [intOf] <;> omega
    ·have hlt' : decide ((k : Int) < 2) = false := by simpa using (by omega : ¬ (k : Int) < 2)
     obtain rfl : k = 2 := by omega
     rw [← HR.out] at HE
     by_cases hz : r.1 = 0
     ·have HE' := hide (HE.out.trans (if_pos hz))
      have hz' : (r.1 : Int) = 0 := by omega
      go_wp2
      go_ret3
      rw [HE'.out]
      exact ⟨rfl, hBr⟩
     ·have HE' := hide (HE.out.trans (if_neg hz))
      have hz' : ¬ (r.1 : Int) = 0 := by omega
      clear hz
      go_wp2
      go_ret3
      rw [HE'.out]
      exact ⟨rfl, hBr⟩
 ·rw [hck]
  have HE := hide (show latestS d = (0, 0, 20) by unfold latestS; rw [if_pos (by rw [hck]; decide), hck])
  clear hck hok
  go_wp2
  go_ret3
  rw [HE.out]
  exact ⟨rfl, hB2⟩
end Go.Proofs.YtmeaiocohalphaaGreatDoor

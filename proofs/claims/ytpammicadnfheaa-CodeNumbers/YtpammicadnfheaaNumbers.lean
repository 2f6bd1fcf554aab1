/-
  What the statement CodeNumbers does: it answers true, and changes nothing that was there.
-/
import Derived.Test.YtpammicadnfheaaCut
import Derived.Test.YtpammicadnfheaaReg
namespace Go.Proofs.Ytpammicadnfheaa
open Go.RowKit

abbrev Try.underlyingB := Try.underlying5

theorem small_rd (n : Nat) (w : World) (hn : n < 18446744073709551616) : Calls Try.prog 16 #[.int .u64 n] w fun e w' => ∃ v, e = .returned v ∧ Rd w' v (sm n) ∧ Below w.heap.size w w' :=
  (small_any n w hn).mono fun _ _ ⟨v, h1, h2, h3⟩ => ⟨v, h1, own_rd h2, h3⟩
theorem rsmall_rd (n : Nat) (w : World) (hn : n < 18446744073709551616) : Calls Try.prog 21 #[.int .u64 n] w fun e w' => ∃ v, e = .returned v ∧ Rd w' v (sm n) ∧ Below w.heap.size w w' :=
  (rsmall_any n w hn).mono fun _ _ ⟨v, h1, h2, h3⟩ => ⟨v, h1, own_rd h2, h3⟩
theorem text_rd (s : ByteArray) (w : World) (hs : s.size ≤ 1000000000) : Calls Try.prog 17 #[.string s] w fun e w' => ∃ v, e = .returned v ∧ Rd w' v (tx s.data.toList) ∧ Below w.heap.size w w' :=
  (text_any s w hs).mono fun _ _ ⟨v, h1, h2, h3⟩ => ⟨v, h1, own_rd h2, h3⟩
theorem rtext_rd (s : ByteArray) (w : World) (hs : s.size ≤ 1000000000) : Calls Try.prog 22 #[.string s] w fun e w' => ∃ v, e = .returned v ∧ Rd w' v (tx s.data.toList) ∧ Below w.heap.size w w' :=
  (rtext_any s w hs).mono fun _ _ ⟨v, h1, h2, h3⟩ => ⟨v, h1, own_rd h2, h3⟩

set_option maxHeartbeats 1000000 in
set_option maxRecDepth 100000 in
theorem numbers_any (n : Nat) (s : ByteArray) (vb : Value) (a2 : Option Addr) (c2 : Nat) (l : List UInt8) (w : World) (hn : n < 18446744073709551616) (hvb : vb = .slice a2 l.length c2) (hb : Rd w vb l) :
    Calls Try.prog 4 #[.int .u64 n, .string s, .slice a2 l.length c2] w fun e w' => e = .returned (.bool true) ∧ Below w.heap.size w w' := by
  have HV : Hid (vb = .slice a2 l.length c2) := hvb
  clear hvb
  by_cases hs0 : s.size ≤ 100000
  · by_cases hl0 : l.length ≤ 100000
    · have hs : s.size ≤ 1000000000 := by omega
      have hb' : Rd w (.slice a2 l.length c2) l := HV.out ▸ hb
      go_enter Try.func4, Try.ntmps4
      go_wp2_with (at_builtin; go_must (refine wpList_apprd w w rfl _ (.tmp 29) 26 rfl w.heap.size 5 Try.underlying26 Try.infoB _ [] (World.ownsRow_nil _ _ _ _) rfl (Below.refl _ _) (Nat.le_refl _) _ l hb' rfl (by simp; omega) ?_); intro vin w1 hown1 hbel1)
      simp only [List.nil_append] at hown1
      have hin := own_rd hown1
      have hbr := hb'.carry hbel1
      obtain ⟨x8, x9, x10, hrd⟩ := rdV_form (rd l)
      have HRD : Hid (rdV (rd l) = .tuple #[.int .u64 x8, .int .i64 x9, .int .i64 x10]) := hrd
      clear hrd hb hb'
      refine (read_any _ hin).mono ?_
      rintro e w2 ⟨rfl, rfl⟩
      rw [HRD.out]
      go_wp2_with fail
      refine (rread_any _ (by omega) hbr).mono ?_
      rintro e w2 ⟨rfl, rfl⟩
      rw [HRD.out]
      go_wp2_with fail
      refine (cut_any _ (by omega) hin).mono ?_
      rintro e w3 ⟨vc, rfl, hcv, hbel3⟩
      obtain ⟨y, rfl, hy⟩ := cutV_form hcv
      clear hcv
      go_wp2_with fail
      refine (rcut_any _ (by omega) (hbr.carry hbel3)).mono ?_
      rintro e w4 ⟨vc, rfl, hcv, hbel4⟩
      obtain ⟨y', rfl, hy'⟩ := cutV_form hcv
      clear hcv
      go_wp2_with fail
      have hK : Keeps (fun wx => (Rd wx y (cutR l) ∧ Rd wx y' (cutR l)) ∧ Below w4.heap.size w4 wx) := ((keeps_rd _ _).and (keeps_rd _ _)).and (keeps_below w4)
      refine reg_begin hK (by kernel_rfl) ⟨⟨(own_rd hy).carry hbel4, own_rd hy'⟩, Below.refl _ _⟩ ?_
      intro hS
      refine reg_take (i := 0) (v := ?qv0) rfl (by kernel_rfl) (by kernel_rfl) (by kernel_rfl) (by rfl) ?qy0 hS ?qr0
      case qy0 => (intro wx hx; go_simp; all_goals (with_reducible rfl))
      try simp only [Act.put, List.setIfInBounds_toArray, List.set_cons_zero, List.set_cons_succ]
      refine reg_take (i := 3) (v := ?qv3) rfl (by kernel_rfl) (by kernel_rfl) (by kernel_rfl) (by rfl) ?qy3 hS ?qr3
      case qy3 => (intro wx hx; go_simp; all_goals (with_reducible rfl))
      try simp only [Act.put, List.setIfInBounds_toArray, List.set_cons_zero, List.set_cons_succ]
      refine reg_call hK (i := 1) (R := fun v w => Rd w v (sm n)) rfl (by kernel_rfl) (by rfl) (by go_simp) hS (small_rd n _ hn) (fun v => keeps_rd v _) ?_
      intro v56 w56 hKn hRn hSn
      clear hK hS
      have hK := hKn
      have hS := hSn
      clear hKn hSn
      try simp only [Act.put, List.setIfInBounds_toArray, List.set_cons_zero, List.set_cons_succ]
      refine reg_take (i := 2) (v := .string (bs (sm n))) rfl (by kernel_rfl) (by kernel_rfl) (by kernel_rfl) (by rfl) (fun wx hx => yield_conv rfl Try.underlying26 Try.underlyingB Try.underlying9 rfl (hx.2)) hS ?_
      try simp only [Act.put, List.setIfInBounds_toArray, List.set_cons_zero, List.set_cons_succ]
      refine reg_call hK (i := 4) (R := fun v w => Rd w v (sm n)) rfl (by kernel_rfl) (by rfl) (by go_simp) hS (rsmall_rd n _ hn) (fun v => keeps_rd v _) ?_
      intro v59 w59 hKn hRn hSn
      clear hK hS
      have hK := hKn
      have hS := hSn
      clear hKn hSn
      try simp only [Act.put, List.setIfInBounds_toArray, List.set_cons_zero, List.set_cons_succ]
      refine reg_take (i := 5) (v := .string (bs (sm n))) rfl (by kernel_rfl) (by kernel_rfl) (by kernel_rfl) (by rfl) (fun wx hx => yield_conv rfl Try.underlying26 Try.underlyingB Try.underlying9 rfl (hx.2)) hS ?_
      try simp only [Act.put, List.setIfInBounds_toArray, List.set_cons_zero, List.set_cons_succ]
      refine reg_take (i := 6) (v := ?qv6) rfl (by kernel_rfl) (by kernel_rfl) (by kernel_rfl) (by rfl) ?qy6 hS ?qr6
      case qy6 => (intro wx hx; go_simp; all_goals (with_reducible rfl))
      try simp only [Act.put, List.setIfInBounds_toArray, List.set_cons_zero, List.set_cons_succ]
      refine reg_take (i := 7) (v := ?qv7) rfl (by kernel_rfl) (by kernel_rfl) (by kernel_rfl) (by rfl) ?qy7 hS ?qr7
      case qy7 => (intro wx hx; go_simp; all_goals (with_reducible rfl))
      try simp only [Act.put, List.setIfInBounds_toArray, List.set_cons_zero, List.set_cons_succ]
      refine reg_take (i := 8) (v := ?qv8) rfl (by kernel_rfl) (by kernel_rfl) (by kernel_rfl) (by rfl) ?qy8 hS ?qr8
      case qy8 => (intro wx hx; go_simp; all_goals (with_reducible rfl))
      try simp only [Act.put, List.setIfInBounds_toArray, List.set_cons_zero, List.set_cons_succ]
      refine reg_take (i := 11) (v := ?qv11) rfl (by kernel_rfl) (by kernel_rfl) (by kernel_rfl) (by rfl) ?qy11 hS ?qr11
      case qy11 => (intro wx hx; go_simp; all_goals (with_reducible rfl))
      try simp only [Act.put, List.setIfInBounds_toArray, List.set_cons_zero, List.set_cons_succ]
      refine reg_call hK (i := 9) (R := fun v w => Rd w v (tx s.data.toList)) rfl (by kernel_rfl) (by rfl) (by go_simp) hS (text_rd s _ hs) (fun v => keeps_rd v _) ?_
      intro v64 w64 hKn hRn hSn
      clear hK hS
      have hK := hKn
      have hS := hSn
      clear hKn hSn
      try simp only [Act.put, List.setIfInBounds_toArray, List.set_cons_zero, List.set_cons_succ]
      refine reg_take (i := 10) (v := .string (bs (tx s.data.toList))) rfl (by kernel_rfl) (by kernel_rfl) (by kernel_rfl) (by rfl) (fun wx hx => yield_conv rfl Try.underlying26 Try.underlyingB Try.underlying9 rfl (hx.2)) hS ?_
      try simp only [Act.put, List.setIfInBounds_toArray, List.set_cons_zero, List.set_cons_succ]
      refine reg_call hK (i := 12) (R := fun v w => Rd w v (tx s.data.toList)) rfl (by kernel_rfl) (by rfl) (by go_simp) hS (rtext_rd s _ hs) (fun v => keeps_rd v _) ?_
      intro v67 w67 hKn hRn hSn
      clear hK hS
      have hK := hKn
      have hS := hSn
      clear hKn hSn
      try simp only [Act.put, List.setIfInBounds_toArray, List.set_cons_zero, List.set_cons_succ]
      refine reg_take (i := 13) (v := .string (bs (tx s.data.toList))) rfl (by kernel_rfl) (by kernel_rfl) (by kernel_rfl) (by rfl) (fun wx hx => yield_conv rfl Try.underlying26 Try.underlyingB Try.underlying9 rfl (hx.2)) hS ?_
      try simp only [Act.put, List.setIfInBounds_toArray, List.set_cons_zero, List.set_cons_succ]
      refine reg_take (i := 14) (v := ?qv14) rfl (by kernel_rfl) (by kernel_rfl) (by kernel_rfl) (by rfl) ?qy14 hS ?qr14
      case qy14 => (intro wx hx; go_simp; all_goals (with_reducible rfl))
      try simp only [Act.put, List.setIfInBounds_toArray, List.set_cons_zero, List.set_cons_succ]
      refine reg_take (i := 15) (v := ?qv15) rfl (by kernel_rfl) (by kernel_rfl) (by kernel_rfl) (by rfl) ?qy15 hS ?qr15
      case qy15 => (intro wx hx; go_simp; all_goals (with_reducible rfl))
      try simp only [Act.put, List.setIfInBounds_toArray, List.set_cons_zero, List.set_cons_succ]
      refine reg_take (i := 16) (v := ?qv16) rfl (by kernel_rfl) (by kernel_rfl) (by kernel_rfl) (by rfl) ?qy16 hS ?qr16
      case qy16 => (intro wx hx; go_simp; all_goals (with_reducible rfl))
      try simp only [Act.put, List.setIfInBounds_toArray, List.set_cons_zero, List.set_cons_succ]
      refine reg_take (i := 17) (v := ?qv17) rfl (by kernel_rfl) (by kernel_rfl) (by kernel_rfl) (by rfl) ?qy17 hS ?qr17
      case qy17 => (intro wx hx; go_simp; all_goals (with_reducible rfl))
      try simp only [Act.put, List.setIfInBounds_toArray, List.set_cons_zero, List.set_cons_succ]
      refine reg_take (i := 18) (v := ?qv18) rfl (by kernel_rfl) (by kernel_rfl) (by kernel_rfl) (by rfl) ?qy18 hS ?qr18
      case qy18 => (intro wx hx; go_simp; all_goals (with_reducible rfl))
      try simp only [Act.put, List.setIfInBounds_toArray, List.set_cons_zero, List.set_cons_succ]
      refine reg_take (i := 19) (v := ?qv19) rfl (by kernel_rfl) (by kernel_rfl) (by kernel_rfl) (by rfl) ?qy19 hS ?qr19
      case qy19 => (intro wx hx; go_simp; all_goals (with_reducible rfl))
      try simp only [Act.put, List.setIfInBounds_toArray, List.set_cons_zero, List.set_cons_succ]
      refine reg_take (i := 20) (v := ?qv20) rfl (by kernel_rfl) (by kernel_rfl) (by kernel_rfl) (by rfl) ?qy20 hS ?qr20
      case qy20 => (intro wx hx; go_simp; all_goals (with_reducible rfl))
      try simp only [Act.put, List.setIfInBounds_toArray, List.set_cons_zero, List.set_cons_succ]
      refine reg_take (i := 21) (v := ?qv21) rfl (by kernel_rfl) (by kernel_rfl) (by kernel_rfl) (by rfl) ?qy21 hS ?qr21
      case qy21 => (intro wx hx; go_simp; all_goals (with_reducible rfl))
      try simp only [Act.put, List.setIfInBounds_toArray, List.set_cons_zero, List.set_cons_succ]
      refine reg_take (i := 22) (v := ?qv22) rfl (by kernel_rfl) (by kernel_rfl) (by kernel_rfl) (by rfl) ?qy22 hS ?qr22
      case qy22 => (intro wx hx; go_simp; all_goals (with_reducible rfl))
      try simp only [Act.put, List.setIfInBounds_toArray, List.set_cons_zero, List.set_cons_succ]
      refine reg_take (i := 23) (v := ?qv23) rfl (by kernel_rfl) (by kernel_rfl) (by kernel_rfl) (by rfl) ?qy23 hS ?qr23
      case qy23 => (intro wx hx; go_simp; all_goals (with_reducible rfl))
      try simp only [Act.put, List.setIfInBounds_toArray, List.set_cons_zero, List.set_cons_succ]
      refine reg_take (i := 24) (v := ?qv24) rfl (by kernel_rfl) (by kernel_rfl) (by kernel_rfl) (by rfl) ?qy24 hS ?qr24
      case qy24 => (intro wx hx; go_simp; all_goals (with_reducible rfl))
      try simp only [Act.put, List.setIfInBounds_toArray, List.set_cons_zero, List.set_cons_succ]
      refine reg_take (i := 25) (v := ?qv25) rfl (by kernel_rfl) (by kernel_rfl) (by kernel_rfl) (by rfl) ?qy25 hS ?qr25
      case qy25 => (intro wx hx; go_simp; all_goals (with_reducible rfl))
      try simp only [Act.put, List.setIfInBounds_toArray, List.set_cons_zero, List.set_cons_succ]
      refine reg_take (i := 26) (v := ?qv26) rfl (by kernel_rfl) (by kernel_rfl) (by kernel_rfl) (by rfl) ?qy26 hS ?qr26
      case qy26 => (intro wx hx; go_simp; all_goals (with_reducible rfl))
      try simp only [Act.put, List.setIfInBounds_toArray, List.set_cons_zero, List.set_cons_succ]
      refine reg_take (i := 27) (v := ?qv27) rfl (by kernel_rfl) (by kernel_rfl) (by kernel_rfl) (by rfl) ?qy27 hS ?qr27
      case qy27 => (intro wx hx; go_simp; all_goals (with_reducible rfl))
      try simp only [Act.put, List.setIfInBounds_toArray, List.set_cons_zero, List.set_cons_succ]
      refine reg_take (i := 28) (v := ?qv28) rfl (by kernel_rfl) (by kernel_rfl) (by kernel_rfl) (by rfl) ?qy28 hS ?qr28
      case qy28 => (intro wx hx; go_simp; all_goals (with_reducible rfl))
      try simp only [Act.put, List.setIfInBounds_toArray, List.set_cons_zero, List.set_cons_succ]
      refine reg_take (i := 29) (v := ?qv29) rfl (by kernel_rfl) (by kernel_rfl) (by kernel_rfl) (by rfl) ?qy29 hS ?qr29
      case qy29 => (intro wx hx; go_simp; all_goals (with_reducible rfl))
      try simp only [Act.put, List.setIfInBounds_toArray, List.set_cons_zero, List.set_cons_succ]
      refine reg_take (i := 30) (v := ?qv30) rfl (by kernel_rfl) (by kernel_rfl) (by kernel_rfl) (by rfl) ?qy30 hS ?qr30
      case qy30 => (intro wx hx; go_simp; all_goals (with_reducible rfl))
      try simp only [Act.put, List.setIfInBounds_toArray, List.set_cons_zero, List.set_cons_succ]
      refine reg_take (i := 31) (v := ?qv31) rfl (by kernel_rfl) (by kernel_rfl) (by kernel_rfl) (by rfl) ?qy31 hS ?qr31
      case qy31 => (intro wx hx; go_simp; all_goals (with_reducible rfl))
      try simp only [Act.put, List.setIfInBounds_toArray, List.set_cons_zero, List.set_cons_succ]
      refine reg_take (i := 32) (v := ?qv32) rfl (by kernel_rfl) (by kernel_rfl) (by kernel_rfl) (by rfl) ?qy32 hS ?qr32
      case qy32 => (intro wx hx; go_simp; all_goals (with_reducible rfl))
      try simp only [Act.put, List.setIfInBounds_toArray, List.set_cons_zero, List.set_cons_succ]
      refine reg_take (i := 33) (v := ?qv33) rfl (by kernel_rfl) (by kernel_rfl) (by kernel_rfl) (by rfl) ?qy33 hS ?qr33
      case qy33 => (intro wx hx; go_simp; all_goals (with_reducible rfl))
      try simp only [Act.put, List.setIfInBounds_toArray, List.set_cons_zero, List.set_cons_succ]
      refine reg_take (i := 34) (v := ?qv34) rfl (by kernel_rfl) (by kernel_rfl) (by kernel_rfl) (by rfl) ?qy34 hS ?qr34
      case qy34 => (intro wx hx; go_simp; all_goals (with_reducible rfl))
      try simp only [Act.put, List.setIfInBounds_toArray, List.set_cons_zero, List.set_cons_succ]
      refine reg_take (i := 35) (v := ?qv35) rfl (by kernel_rfl) (by kernel_rfl) (by kernel_rfl) (by rfl) ?qy35 hS ?qr35
      case qy35 => (intro wx hx; go_simp; all_goals (with_reducible rfl))
      try simp only [Act.put, List.setIfInBounds_toArray, List.set_cons_zero, List.set_cons_succ]
      refine reg_take (i := 36) (v := ?qv36) rfl (by kernel_rfl) (by kernel_rfl) (by kernel_rfl) (by rfl) ?qy36 hS ?qr36
      case qy36 => (intro wx hx; go_simp; all_goals (with_reducible rfl))
      try simp only [Act.put, List.setIfInBounds_toArray, List.set_cons_zero, List.set_cons_succ]
      refine reg_take (i := 37) (v := ?qv37) rfl (by kernel_rfl) (by kernel_rfl) (by kernel_rfl) (by rfl) ?qy37 hS ?qr37
      case qy37 => (intro wx hx; go_simp; all_goals (with_reducible rfl))
      try simp only [Act.put, List.setIfInBounds_toArray, List.set_cons_zero, List.set_cons_succ]
      refine reg_take (i := 38) (v := .string (bs (cutR l))) rfl (by kernel_rfl) (by kernel_rfl) (by kernel_rfl) (by rfl) (fun wx hx => yield_conv rfl Try.underlying26 Try.underlyingB Try.underlying9 rfl (hx.1.1.1.1.1.1)) hS ?_
      try simp only [Act.put, List.setIfInBounds_toArray, List.set_cons_zero, List.set_cons_succ]
      refine reg_take (i := 39) (v := ?qv39) rfl (by kernel_rfl) (by kernel_rfl) (by kernel_rfl) (by rfl) ?qy39 hS ?qr39
      case qy39 => (intro wx hx; go_simp; all_goals (with_reducible rfl))
      try simp only [Act.put, List.setIfInBounds_toArray, List.set_cons_zero, List.set_cons_succ]
      refine reg_take (i := 40) (v := .string (bs (cutR l))) rfl (by kernel_rfl) (by kernel_rfl) (by kernel_rfl) (by rfl) (fun wx hx => yield_conv rfl Try.underlying26 Try.underlyingB Try.underlying9 rfl (hx.1.1.1.1.1.2)) hS ?_
      try simp only [Act.put, List.setIfInBounds_toArray, List.set_cons_zero, List.set_cons_succ]
      refine reg_take (i := 41) (v := ?qv41) rfl (by kernel_rfl) (by kernel_rfl) (by kernel_rfl) (by rfl) ?qy41 hS ?qr41
      case qy41 => (intro wx hx; go_simp; all_goals (with_reducible rfl))
      try simp only [Act.put, List.setIfInBounds_toArray, List.set_cons_zero, List.set_cons_succ]
      refine reg_take (i := 42) (v := ?qv42) rfl (by kernel_rfl) (by kernel_rfl) (by kernel_rfl) (by rfl) ?qy42 hS ?qr42
      case qy42 => (intro wx hx; go_simp; all_goals (with_reducible rfl))
      try simp only [Act.put, List.setIfInBounds_toArray, List.set_cons_zero, List.set_cons_succ]
      refine reg_take (i := 43) (v := ?qv43) rfl (by kernel_rfl) (by kernel_rfl) (by kernel_rfl) (by rfl) ?qy43 hS ?qr43
      case qy43 => (intro wx hx; go_simp; all_goals (with_reducible rfl))
      try simp only [Act.put, List.setIfInBounds_toArray, List.set_cons_zero, List.set_cons_succ]
      refine reg_take (i := 44) (v := ?qv44) rfl (by kernel_rfl) (by kernel_rfl) (by kernel_rfl) (by rfl) ?qy44 hS ?qr44
      case qy44 => (intro wx hx; go_simp; all_goals (with_reducible rfl))
      try simp only [Act.put, List.setIfInBounds_toArray, List.set_cons_zero, List.set_cons_succ]
      refine reg_take (i := 45) (v := ?qv45) rfl (by kernel_rfl) (by kernel_rfl) (by kernel_rfl) (by rfl) ?qy45 hS ?qr45
      case qy45 => (intro wx hx; go_simp; all_goals (with_reducible rfl))
      try simp only [Act.put, List.setIfInBounds_toArray, List.set_cons_zero, List.set_cons_succ]
      refine reg_take (i := 46) (v := ?qv46) rfl (by kernel_rfl) (by kernel_rfl) (by kernel_rfl) (by rfl) ?qy46 hS ?qr46
      case qy46 => (intro wx hx; go_simp; all_goals (with_reducible rfl))
      try simp only [Act.put, List.setIfInBounds_toArray, List.set_cons_zero, List.set_cons_succ]
      refine reg_take (i := 47) (v := ?qv47) rfl (by kernel_rfl) (by kernel_rfl) (by kernel_rfl) (by rfl) ?qy47 hS ?qr47
      case qy47 => (intro wx hx; go_simp; all_goals (with_reducible rfl))
      try simp only [Act.put, List.setIfInBounds_toArray, List.set_cons_zero, List.set_cons_succ]
      refine wpAnyH_done (by kernel_rfl) ?_ _
      refine NoPanic.normal ?_
      have hbelr : Below w4.heap.size w4 w67 := hS.1.1.1.1.2
      have hy67 := own_carry (own_carry hy hbel4) hbelr
      have hbel67 : Below w2.heap.size w2 w67 := keeps_below w2 _ _ (keeps_below w2 _ _ hbel3 hbel4) hbelr
      have hrl := cutR_le l
      clear hK hS hy hy' hbel3 hbel4 hbelr hRn
      obtain ⟨r, hr⟩ : ∃ r, r = cutR l := ⟨_, rfl⟩
      rw [← hr] at hy67 hrl
      clear hr
      have hconv1 : ∀ wx, Below w2.heap.size w2 wx → (convert 26 9 vin).run Try.prog wx = .ok (.string (bs l)) wx := fun wx h => conv_rd _ _ _ Try.underlying26 Try.underlying5 Try.underlying9 (hin.carry h)
      have hconv2 : ∀ wx, Below w2.heap.size w2 wx → (convert 26 9 (.slice a2 l.length c2)).run Try.prog wx = .ok (.string (bs l)) wx := fun wx h => conv_rd _ _ _ Try.underlying26 Try.underlying5 Try.underlying9 (hbr.carry h)
      have hbw : Below w.heap.size w w2 := hbel1
      clear hin hbr hown1
      rcases hy67.2 with ⟨rfl, hn0⟩ | ⟨g, cap, cur, rfl, hg1, hg2, hg3⟩
      · go_wp2
        go_loop [20] (fun i => i = .int .i64 0) (fun _ => 0)
        case atStart => rfl
        case round =>
          obtain rfl := hrel
          go_wp2
          go_ret
          exact ⟨rfl, keeps_below w _ _ hbw hbel67⟩
      · go_wp2
        go_loopw [20] (fun i wr => ∃ (k : Nat) (xs : List UInt8), k ≤ r.length ∧ xs.length = r.length ∧ i = .int .i64 k ∧ wr.ownsRow w2.heap.size 5 1 (.slice (some ⟨g, 0, none⟩) r.length cap) r.length (u8v xs) ∧ Below w2.heap.size w2 wr) (fun i _ => r.length - (intOf i).toNat)
        case atStart => exact ⟨0, r, Nat.zero_le _, rfl, rfl, hy67, hbel67⟩
        case round =>
          obtain ⟨k, xs, hk, hxl, rfl, hown, hbel⟩ := hrel
          by_cases hlt : k < r.length
          · have hcell : wr.cell? ⟨g, k, none⟩ = some (.int .u8 (xs[k]'(by omega)).toNat) := by
              rw [hown.cellAt k (by omega)]
              simp [u8v, List.getElem?_eq_getElem (show k < xs.length by omega)]
            have hfz := hown.frozenAt k
            obtain ⟨x, hx⟩ : ∃ x, x = xs[k]'(by omega) := ⟨_, rfl⟩
            rw [← hx] at hcell
            have hxb := x.toNat_lt
            clear hx hy67 hbel67 hg2 hg3
            go_wp2
            go_roundw
            case rel =>
              refine ⟨k + 1, xs.set k (UInt8.ofNat (x.toNat + 1)), by omega, by simp [hxl], by go_num, ?_, hbel.setCell hg1 _⟩
              have h := (hown.stored k (.int .u8 (UInt8.ofNat (x.toNat + 1)).toNat)).1
              rw [show u8v (xs.set k (UInt8.ofNat (x.toNat + 1))) = (u8v xs).set k (.int .u8 (UInt8.ofNat (x.toNat + 1)).toNat) from by simp [u8v, List.map_set]]
              rw [UInt8.toNat_ofNat'] at h ⊢
              exact h
            case measure => simp [intOf] <;> omega
          · go_wp2
            go_ret
            exact ⟨rfl, keeps_below w _ _ hbw hbel⟩
    · have hl0' : (100000 : Int) < l.length := by omega
      go_enter Try.func4, Try.ntmps4
      go_wp2
      go_ret
      exact ⟨rfl, Below.refl _ _⟩
  · have hl0' : (100000 : Int) < s.size := by omega
    go_enter Try.func4, Try.ntmps4
    go_wp2
    go_ret
    exact ⟨rfl, Below.refl _ _⟩
end Go.Proofs.Ytpammicadnfheaa

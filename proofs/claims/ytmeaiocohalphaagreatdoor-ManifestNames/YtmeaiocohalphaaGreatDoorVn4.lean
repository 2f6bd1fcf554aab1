/-
  What sieve.May and sieve.Make do.
-/
import Derived.Test.YtmeaiocohalphaaGreatDoorVn1
import Derived.Test.YtmeaiocohalphaaGreatDoorMathMf
import Derived.Shelf.Bytes.WriteAny
import Derived.Shelf.Bytes.Bytes
import Derived.Lib.BufferOld
import Derived.WalkKit
import Derived.Laws.BitsAllLaws
import Derived.BigQuiet
import Derived.Test.YtmeaiocohalphaaGreatDoorDMay
import Derived.Test.YtmeaiocohalphaaGreatDoorRegT
set_option maxHeartbeats 4000000
set_option maxRecDepth 100000
namespace Go.Proofs.YtmeaiocohalphaaGreatDoor
open Go.RowKit Go.Shelf
set_option linter.unusedVariables false
set_option linter.unusedSimpArgs false
def Tryz.laysM180_ren : Go.Shelf.Ren := ⟨fun | 180 => 85 | 251 => 162 | 252 => 163 | 181 => 224 | 184 => 225 | 290 => 226 | 324 => 263 | n => n, fun | 130 => 228 | 37 => 23 | 3 => 3 | 75 => 144 | 0 => 0 | 93 => 142 | 91 => 140 | 131 => 229 | 4 => 4 | 20 => 20 | 5 => 5 | 80 => 168 | 9 => 9 | n => n, fun | 14 => 0 | n => n⟩
theorem Tryz.laysM180 : Go.Proofs.LaysM.n180 Tryz.prog Tryz.laysM180_ren := {
 mixed := by kernel_rfl
 f180 := Tryz.func85.trans (congrArg some (by kernel_rfl))
 f181 := Tryz.func224.trans (congrArg some (by kernel_rfl))
 f184 := Tryz.func225.trans (congrArg some (by kernel_rfl))
 f251 := Tryz.func162.trans (congrArg some (by kernel_rfl))
 f252 := Tryz.func163.trans (congrArg some (by kernel_rfl))
 f290 := Tryz.func226.trans (congrArg some (by kernel_rfl))
 f324 := Tryz.func263.trans (congrArg some (by kernel_rfl))
 t0 := Tryz.underlying0
 a0 := Tryz.isAgg0
 z0 := Tryz.sizeOf0
 v0 := Tryz.zeroValue0
 t3 := Tryz.underlying3
 a3 := Tryz.isAgg3
 z3 := Tryz.sizeOf3
 v3 := Tryz.zeroValue3
 t4 := Tryz.underlying4
 a4 := Tryz.isAgg4
 z4 := Tryz.sizeOf4
 v4 := Tryz.zeroValue4
 t20 := Tryz.underlying20
 a20 := Tryz.isAgg20
 z20 := Tryz.sizeOf20
 v20 := Tryz.zeroValue20
 t37 := Tryz.underlying23
 a37 := Tryz.isAgg23
 z37 := Tryz.sizeOf23
 v37 := Tryz.zeroValue23
 t75 := Tryz.underlying144
 a75 := Tryz.isAgg144
 z75 := Tryz.sizeOf144
 v75 := Tryz.zeroValue144
 t91 := Tryz.underlying140
 a91 := Tryz.isAgg140
 z91 := Tryz.sizeOf140
 v91 := Tryz.zeroValue140
 t93 := Tryz.underlying142
 a93 := Tryz.isAgg142
 z93 := Tryz.sizeOf142
 v93 := Tryz.zeroValue142
 t130 := Tryz.underlying228
 a130 := Tryz.isAgg228
 z130 := Tryz.sizeOf228
 v130 := Tryz.zeroValue228
 t131 := Tryz.underlying229
 a131 := Tryz.isAgg229
 z131 := Tryz.sizeOf229
 v131 := Tryz.zeroValue229
 g14 := by kernel_rfl
 t5 := Tryz.underlying5
 a5 := Tryz.isAgg5
 z5 := Tryz.sizeOf5
 v5 := Tryz.zeroValue5
 t9 := Tryz.underlying9
 a9 := Tryz.isAgg9
 z9 := Tryz.sizeOf9
 v9 := Tryz.zeroValue9
 t80 := Tryz.underlying168
 a80 := Tryz.isAgg168
 z80 := Tryz.sizeOf168
 v80 := Tryz.zeroValue168
 i0 := by kernel_rfl
 i3 := by kernel_rfl
 i4 := by kernel_rfl
 i5 := by kernel_rfl
 i9 := by kernel_rfl
 i20 := by kernel_rfl
 i37 := by kernel_rfl
 i75 := by kernel_rfl
 i80 := by kernel_rfl
 i91 := by kernel_rfl
 i93 := by kernel_rfl
 i130 := by kernel_rfl
 i131 := by kernel_rfl
 m14 := by kernel_rfl }
def Tryz.laysM183_ren : Go.Shelf.Ren := ⟨fun | 183 => 88 | n => n, fun | 130 => 228 | 37 => 23 | 0 => 0 | 93 => 142 | 3 => 3 | 5 => 5 | 91 => 140 | n => n, fun | n => n⟩
theorem Tryz.laysM183 : Go.Proofs.LaysM.n183 Tryz.prog Tryz.laysM183_ren := {
 mixed := by kernel_rfl
 f183 := Tryz.func88.trans (congrArg some (by kernel_rfl))
 t0 := Tryz.underlying0
 a0 := Tryz.isAgg0
 z0 := Tryz.sizeOf0
 v0 := Tryz.zeroValue0
 t3 := Tryz.underlying3
 a3 := Tryz.isAgg3
 z3 := Tryz.sizeOf3
 v3 := Tryz.zeroValue3
 t37 := Tryz.underlying23
 a37 := Tryz.isAgg23
 z37 := Tryz.sizeOf23
 v37 := Tryz.zeroValue23
 t93 := Tryz.underlying142
 a93 := Tryz.isAgg142
 z93 := Tryz.sizeOf142
 v93 := Tryz.zeroValue142
 t130 := Tryz.underlying228
 a130 := Tryz.isAgg228
 z130 := Tryz.sizeOf228
 v130 := Tryz.zeroValue228
 t5 := Tryz.underlying5
 a5 := Tryz.isAgg5
 z5 := Tryz.sizeOf5
 v5 := Tryz.zeroValue5
 t91 := Tryz.underlying140
 a91 := Tryz.isAgg140
 z91 := Tryz.sizeOf140
 v91 := Tryz.zeroValue140
 i0 := by kernel_rfl
 i3 := by kernel_rfl
 i5 := by kernel_rfl
 i37 := by kernel_rfl
 i91 := by kernel_rfl
 i93 := by kernel_rfl
 i130 := by kernel_rfl }
def IsBf (w : World) (B b : Nat) (l : List UInt8) : Prop := Go.Lib.IsBuffer 142 5 B b (u8v l) w
theorem IsBf.lt {w : World} {B b : Nat} {l : List UInt8} (h : IsBf w B b l) : b < w.heap.size := Go.Lib.IsBuffer.lt h
theorem IsBf.old {w w' : World} {B b : Nat} {l : List UInt8} (h : IsBf w B b l) (hb : Below w.heap.size w w') : IsBf w' B b l := Go.Lib.IsBuffer.old h hb
theorem IsBf.new (w : World) : IsBf (w.alloc (.cells #[.slice none 0 0, .int .i64 0, .int .i8 0] 142)) w.heap.size w.heap.size [] := Go.Lib.fresh_isBuffer 142 5 w
theorem u8v_one (l : List UInt8) : ∀ v ∈ u8v l, v.oneCell' = true := by
 intro v hv
 unfold u8v at hv
 obtain ⟨x, _, rfl⟩ := List.mem_map.1 hv
 rfl
theorem u8v_len (l : List UInt8) : (u8v l).length = l.length := by simp [u8v]
theorem write_nf (B b : Nat) (l s : List UInt8) (v : Value) (base : Nat) (w : World) (h : IsBf w B b l) (hB : B ≤ w.heap.size) (hs : OwY w base v s) (hb : b < base) (h0 : 0 < s.length) (hl : l.length + s.length ≤ 10000000) :
  Calls Tryz.prog 85 #[.pointer (some ⟨b, 0, none⟩), v] w fun e w' => e = .returned (.tuple #[.int .i64 s.length, .nilIface]) ∧ IsBf w' B b (l ++ s) ∧ Below B w w' ∧ Go.Lib.OthersKept 5 (some b) w w' := by
 have hc := fun g (hg : v.ownBlock = some g) => World.ownsRow.cells hs (g := g) hg
 rcases hs.2 with ⟨_, hn⟩ | ⟨g, cap, cur, rfl, hbg, _⟩
 ·omega
 have := Go.Proofs.Any.Buffer_Write_any Tryz.laysM180 B b (u8v l) (u8v s) ⟨g, 0, none⟩ s.length cap w h hB (u8v_one l) (u8v_len s) (by show g ≠ b; omega) (hc g rfl) (u8v_one s) (by rw [u8v_len]; omega)
 refine Calls.mono this ?_
 rintro e w' ⟨rfl, h1, h2, h3⟩
 exact ⟨rfl, by unfold IsBf; rw [u8v_append]; exact h1, h2, h3⟩
theorem bytes_nf (B b : Nat) (l : List UInt8) (w : World) (h : IsBf w B b l) :
  Calls Tryz.prog 88 #[.pointer (some ⟨b, 0, none⟩)] w fun e w' => ∃ v, e = .returned v ∧ OwY w' B v l ∧ Below w.heap.size w w' := by
 refine Calls.mono (Go.Proofs.Any.Buffer_Bytes Tryz.laysM183 B b (u8v l) w h) ?_
 rintro e w' ⟨v, rfl, h1, n, rfl⟩
 rw [u8v_len] at h1
 exact ⟨v, rfl, h1, belowX_drewN (Below.refl _ _) n⟩
theorem others_below {t : TypeId} {b : Option Nat} {w w' : World} (h : Below w.heap.size w w') : Go.Lib.OthersKept t b w w' := fun k o hk _ _ => (h.block k (Array.getElem?_eq_some_iff.1 hk).1).trans hk
theorem number_nf (B b : Nat) (l : List UInt8) (n : Nat) (w : World) (h : IsBf w B b l) (hB : B ≤ w.heap.size) (hn : n < 9223372036854775808) (hl : l.length ≤ 1000000) :
  Calls Tryz.prog 84 #[.int .i64 n, .pointer (some ⟨b, 0, none⟩)] w fun e w' => e = .returned (.tuple #[]) ∧ IsBf w' B b (l ++ sm n) ∧ Below B w w' ∧ Go.Lib.OthersKept 5 (some b) w w' := by
 have g0 : (n : Int) % 18446744073709551616 = n := by omega
 have HI := hide h
 have HN := hide hn
 have HL := hide hl
 clear h hn hl
 go_enter Tryz.func84, Tryz.ntmps84
 go_wp2_with fail
 refine (small_y n w (by have := HN.out; omega)).mono ?_
 rintro e w1 ⟨v, rfl, hv, b1⟩
 have hw := write_nf B b l (sm n) v w.heap.size w1 (HI.out.old b1) (Nat.le_trans hB b1.size) hv HI.out.lt (by have := sm_pos n; omega) (by have := HL.out; have := sm_len_le10 (n := n) (by have := HN.out; omega); omega)
 have hk1 : Go.Lib.OthersKept 5 (some b) w w1 := others_below b1
 have hb1 : Below B w w1 := b1.mono hB
 clear hv b1 g0
 go_wp2_with fail
 refine hw.mono ?_
 rintro e w2 ⟨rfl, h2, b2, k2⟩
 have HA := hide (show IsBf w2 B b (l ++ sm n) ∧ Below B w w2 ∧ Go.Lib.OthersKept 5 (some b) w w2 from ⟨h2, hb1.trans b2, hk1.trans k2⟩)
 clear hw h2 b2 k2 hk1 hb1
 go_wp2
 refine bodyPost_end (v := .tuple #[]) ?_ rfl ⟨rfl, HA.out⟩
 simp [results, Tryz.results84, go_sem]
theorem text_nf (B b : Nat) (l s : List UInt8) (w : World) (h : IsBf w B b l) (hB : B ≤ w.heap.size) (hs : s.length ≤ 1000000) (hl : l.length ≤ 1000000) :
  Calls Tryz.prog 87 #[.string (bs s), .pointer (some ⟨b, 0, none⟩)] w fun e w' => e = .returned (.tuple #[]) ∧ IsBf w' B b (l ++ tx s) ∧ Below B w w' ∧ Go.Lib.OthersKept 5 (some b) w w' := by
 have HI := hide h
 have HN := hide hs
 have HL := hide hl
 clear h hs hl
 go_enter Tryz.func87, Tryz.ntmps87
 go_wp2_with fail
 refine (text_y s w HN.out).mono ?_
 rintro e w1 ⟨v, rfl, hv, b1⟩
 have hw := write_nf B b l (tx s) v w.heap.size w1 (HI.out.old b1) (Nat.le_trans hB b1.size) hv HI.out.lt (by unfold tx; rw [List.length_append]; have := sm_pos s.length; omega) (by have := HL.out; have := HN.out; have := tx_lenB s (by omega); omega)
 have hk1 : Go.Lib.OthersKept 5 (some b) w w1 := others_below b1
 have hb1 : Below B w w1 := b1.mono hB
 clear hv b1
 go_wp2_with fail
 refine hw.mono ?_
 rintro e w2 ⟨rfl, h2, b2, k2⟩
 have HA := hide (show IsBf w2 B b (l ++ tx s) ∧ Below B w w2 ∧ Go.Lib.OthersKept 5 (some b) w w2 from ⟨h2, hb1.trans b2, hk1.trans k2⟩)
 clear hw h2 b2 k2 hk1 hb1
 go_wp2
 refine bodyPost_end (v := .tuple #[]) ?_ rfl ⟨rfl, HA.out⟩
 simp [results, Tryz.results87, go_sem]
end Go.Proofs.YtmeaiocohalphaaGreatDoor
namespace Go.Proofs.YtmeaiocohalphaaGreatDoor
open Go.RowKit
set_option linter.unusedVariables false
set_option linter.unusedSimpArgs false
theorem txO_iff (s : List UInt8) (n : Nat) : txO s n = true ↔ 1 ≤ s.length ∧ s.length ≤ n := by unfold txO; simp
theorem mtO_iff (m : Mta) : mtO m = true ↔ txO m.1 16 = true ∧ 1 ≤ m.2.1 ∧ m.2.1 ≤ 16384 ∧ 1 ≤ m.2.2.1 ∧ m.2.2.1 ≤ 65536 ∧ txO (Mlo m) 64 = true ∧ txO (Mhi m) 64 = true ∧ ltS (Mhi m) (Mlo m) = false := by
 unfold mtO
 simp [and_assoc]
theorem gtS_bs (a b : List UInt8) : (!Op.bytesLess (bs a).toList (bs b).toList && !((bs a).toList == (bs b).toList)) = ltS b a := by
 rw [lt_bs, ByteArray.toList_eq, ByteArray.toList_eq, bs_toList, bs_toList]
 rcases ltS_total a b with h | h | h
 ·rw [h, ltS_asymm h]; rfl
 ·subst h; rw [ltS_irrefl]; simp
 ·rw [h, ltS_asymm h]
  have : ¬ a = b := fun e => by rw [e, ltS_irrefl] at h; cases h
  simp [this]
theorem leS_bs (a b : List UInt8) : (Op.bytesLess (bs a).toList (bs b).toList || ((bs a).toList == (bs b).toList)) = !ltS b a := by
 rw [← gtS_bs]; cases Op.bytesLess (bs a).toList (bs b).toList <;> cases ((bs a).toList == (bs b).toList) <;> rfl
theorem eq_bs (s t : List UInt8) : ((bs s).toList == (bs t).toList) = decide (s = t) := by
 rw [ByteArray.toList_eq, ByteArray.toList_eq, bs_toList, bs_toList, Bool.eq_iff_iff]; simp
theorem name_vn (s : List UInt8) (w : World) :
  Calls Tryz.prog 81 #[.string (bs s)] w fun e w' => e = .returned (.bool (txO s 16)) ∧ w' = w := by
 have hs := bs_size s
 have HI := hide (txO_iff s 16)
 by_cases h1 : 1 ≤ s.length
 ·have h1' : (1 : Int) ≤ s.length := by omega
  have h3' : (0 : Int) < s.length := by omega
  have h3'' : 0 < s.length := by omega
  by_cases h2 : s.length ≤ 16
  ·have h2' : (s.length : Int) ≤ 16 := by omega
   have HE := hide (show txO s 16 = true by rw [HI.out]; exact ⟨h1, h2⟩)
   go_enter Tryz.func81, Tryz.ntmps81
   go_wp2
   go_ret
   exact ⟨ret_boolB (by rw [HE.out]; try simp), rfl⟩
  ·have h2' : decide ((s.length : Int) ≤ 16) = false := by simpa using (by omega : ¬ (s.length : Int) ≤ 16)
   have HE := hide (show txO s 16 = false by rw [← Bool.not_eq_true, HI.out]; omega)
   clear h2
   go_enter Tryz.func81, Tryz.ntmps81
   go_wp2
   go_ret
   exact ⟨ret_boolB (by rw [HE.out]; try simp), rfl⟩
 ·have h0 : s.length = 0 := by omega
  have h1' : decide ((1 : Int) ≤ s.length) = false := by simpa using (by omega : ¬ (1 : Int) ≤ s.length)
  have h3' : decide ((0 : Int) < s.length) = false := by simpa using (by omega : ¬ (0 : Int) < s.length)
  have HE := hide (show txO s 16 = false by rw [← Bool.not_eq_true, HI.out]; omega)
  go_enter Tryz.func81, Tryz.ntmps81
  go_wp2
  go_ret
  exact ⟨ret_boolB (by rw [HE.out]; try simp), rfl⟩
theorem key_vn (s : List UInt8) (w : World) :
  Calls Tryz.prog 260 #[.string (bs s)] w fun e w' => e = .returned (.bool (txO s 64)) ∧ w' = w := by
 have hs := bs_size s
 have HI := hide (txO_iff s 64)
 by_cases h1 : 1 ≤ s.length
 ·have h1' : (1 : Int) ≤ s.length := by omega
  have h3' : (0 : Int) < s.length := by omega
  have h3'' : 0 < s.length := by omega
  by_cases h2 : s.length ≤ 64
  ·have h2' : (s.length : Int) ≤ 64 := by omega
   have HE := hide (show txO s 64 = true by rw [HI.out]; exact ⟨h1, h2⟩)
   go_enter Tryz.func260, Tryz.ntmps260
   go_wp2
   go_ret
   exact ⟨ret_boolB (by rw [HE.out]; try simp), rfl⟩
  ·have h2' : decide ((s.length : Int) ≤ 64) = false := by simpa using (by omega : ¬ (s.length : Int) ≤ 64)
   have HE := hide (show txO s 64 = false by rw [← Bool.not_eq_true, HI.out]; omega)
   clear h2
   go_enter Tryz.func260, Tryz.ntmps260
   go_wp2
   go_ret
   exact ⟨ret_boolB (by rw [HE.out]; try simp), rfl⟩
 ·have h0 : s.length = 0 := by omega
  have h1' : decide ((1 : Int) ≤ s.length) = false := by simpa using (by omega : ¬ (1 : Int) ≤ s.length)
  have h3' : decide ((0 : Int) < s.length) = false := by simpa using (by omega : ¬ (0 : Int) < s.length)
  have HE := hide (show txO s 64 = false by rw [← Bool.not_eq_true, HI.out]; omega)
  go_enter Tryz.func260, Tryz.ntmps260
  go_wp2
  go_ret
  exact ⟨ret_boolB (by rw [HE.out]; try simp), rfl⟩
theorem behind_vn (x y : Mta) (w : World) :
  Calls Tryz.prog 158 #[.agg #[.string (bs x.1), .int .i64 x.2.1, .int .i64 x.2.2.1, .string (bs (Mlo x)), .string (bs (Mhi x))], .agg #[.string (bs y.1), .int .i64 y.2.1, .int .i64 y.2.2.1, .string (bs (Mlo y)), .string (bs (Mhi y))]] w fun e w' => e = .returned (.bool (abvM x y)) ∧ Below w.heap.size w w' := by
 obtain ⟨w1, hw1⟩ : ∃ w1, w1 = w.alloc (.cells #[.string (bs x.1), .int .i64 x.2.1, .int .i64 x.2.2.1, .string (bs (Mlo x)), .string (bs (Mhi x))] 124) := ⟨_, rfl⟩
 obtain ⟨w2, hw2⟩ : ∃ w2, w2 = w1.alloc (.cells #[.string (bs y.1), .int .i64 y.2.1, .int .i64 y.2.2.1, .string (bs (Mlo y)), .string (bs (Mhi y))] 124) := ⟨_, rfl⟩
 have hb1 : Below w.heap.size w w1 := by rw [hw1]; exact (Below.refl _ _).alloc (Nat.le_refl _) _
 have hb2 : Below w1.heap.size w1 w2 := by rw [hw2]; exact (Below.refl _ _).alloc (Nat.le_refl _) _
 have HX := hide (show MvAt w2 w.heap.size x from (show MvAt w1 w.heap.size x by rw [hw1]; exact MvAt.new w x).carry hb2)
 have HY := hide (show MvAt w2 (w.heap.size + 1) y by rw [hw2, show w.heap.size + 1 = w1.heap.size by rw [hw1]; simp]; exact MvAt.new w1 y)
 have HB := hide (show Below w.heap.size w w2 from hb1.trans (hb2.mono hb1.size))
 clear hb1 hb2
 have HL := hide (gtS_bs (Mlo x) (Mhi y))
 obtain ⟨x0, x1, x2, x3, x4⟩ := HX.out.cells
 obtain ⟨y0, y1, y2, y3, y4⟩ := HY.out.cells
 go_enter Tryz.func158, Tryz.ntmps158
 go_wp2
 rw [← hw1, ← hw2]
 clear hw1 hw2
 go_wp2
 go_ret
 exact ⟨ret_boolB HL.out, HB.out⟩
theorem table_vn (x : Mta) (w : World) :
  Calls Tryz.prog 222 #[.agg #[.string (bs x.1), .int .i64 x.2.1, .int .i64 x.2.2.1, .string (bs (Mlo x)), .string (bs (Mhi x))]] w fun e w' => e = .returned (.bool (mtO x)) ∧ Below w.heap.size w w' := by
 have HI := hide (mtO_iff x)
 obtain ⟨w1, hw1⟩ : ∃ w1, w1 = w.alloc (.cells #[.string (bs x.1), .int .i64 x.2.1, .int .i64 x.2.2.1, .string (bs (Mlo x)), .string (bs (Mhi x))] 124) := ⟨_, rfl⟩
 have HB := hide (show Below w.heap.size w w1 by rw [hw1]; exact (Below.refl _ _).alloc (Nat.le_refl _) _)
 have HX := hide (show MvAt w1 w.heap.size x by rw [hw1]; exact MvAt.new w x)
 obtain ⟨x0, x1, x2, x3, x4⟩ := HX.out.cells
 have HL := hide (leS_bs (Mlo x) (Mhi x))
 generalize ltS (Mhi x) (Mlo x) = b7 at HI HL
 generalize mtO x = r at *
 obtain ⟨xn, xs, xm, xl, xh⟩ := x
 simp only [Mlo, Mhi] at *
 cases hb0 : txO xn 16 with
 | false =>
  have HE := hide (show r = false by rw [← Bool.not_eq_true, HI.out]; rintro ⟨q0, q1, q2, q3, q4, q5, q6, q7⟩; rw [hb0] at q0; cases q0)
  go_enter Tryz.func222, Tryz.ntmps222
  go_wp2_with fail
  rw [← hw1]
  clear hw1
  go_wp2_with (first | (go_at_call 81; refine (name_vn _ _).mono ?_; rintro e wc ⟨rfl, rfl⟩) | (go_at_call 260; refine (key_vn _ _).mono ?_; rintro e wc ⟨rfl, rfl⟩))
  go_ret
  exact ⟨ret_boolB (by first | (rw [HE.out]; done) | (rw [HE.out]; exact HL.out) | (rw [HE.out]; simp; done)), HB.out⟩
 | true =>
 by_cases c1 : 1 ≤ xs
 ·have d1 : decide (xs < 1) = false := by simpa using c1
  by_cases c2 : xs ≤ 16384
  ·have d2 : decide (16384 < xs) = false := by simpa using c2
   by_cases c3 : 1 ≤ xm
   ·have d3 : decide (xm < 1) = false := by simpa using c3
    by_cases c4 : xm ≤ 65536
    ·have d4 : decide (65536 < xm) = false := by simpa using c4
     cases hb5 : txO xl 64 with
     | false =>
      have HE := hide (show r = false by rw [← Bool.not_eq_true, HI.out]; rintro ⟨q0, q1, q2, q3, q4, q5, q6, q7⟩; rw [hb5] at q5; cases q5)
      go_enter Tryz.func222, Tryz.ntmps222
      go_wp2_with fail
      rw [← hw1]
      clear hw1
      go_wp2_with (first | (go_at_call 81; refine (name_vn _ _).mono ?_; rintro e wc ⟨rfl, rfl⟩) | (go_at_call 260; refine (key_vn _ _).mono ?_; rintro e wc ⟨rfl, rfl⟩))
      go_ret
      exact ⟨ret_boolB (by first | (rw [HE.out]; done) | (rw [HE.out]; exact HL.out) | (rw [HE.out]; simp; done)), HB.out⟩
     | true =>
     cases hb6 : txO xh 64 with
     | false =>
      have HE := hide (show r = false by rw [← Bool.not_eq_true, HI.out]; rintro ⟨q0, q1, q2, q3, q4, q5, q6, q7⟩; rw [hb6] at q6; cases q6)
      go_enter Tryz.func222, Tryz.ntmps222
      go_wp2_with fail
      rw [← hw1]
      clear hw1
      go_wp2_with (first | (go_at_call 81; refine (name_vn _ _).mono ?_; rintro e wc ⟨rfl, rfl⟩) | (go_at_call 260; refine (key_vn _ _).mono ?_; rintro e wc ⟨rfl, rfl⟩))
      go_ret
      exact ⟨ret_boolB (by first | (rw [HE.out]; done) | (rw [HE.out]; exact HL.out) | (rw [HE.out]; simp; done)), HB.out⟩
     | true =>
     cases b7 with
     | true =>
      have HE := hide (show r = false by rw [← Bool.not_eq_true, HI.out]; rintro ⟨q0, q1, q2, q3, q4, q5, q6, q7⟩; cases q7)
      go_enter Tryz.func222, Tryz.ntmps222
      go_wp2_with fail
      rw [← hw1]
      clear hw1
      go_wp2_with (first | (go_at_call 81; refine (name_vn _ _).mono ?_; rintro e wc ⟨rfl, rfl⟩) | (go_at_call 260; refine (key_vn _ _).mono ?_; rintro e wc ⟨rfl, rfl⟩))
      go_ret
      exact ⟨ret_boolB (by first | (rw [HE.out]; done) | (rw [HE.out]; exact HL.out) | (rw [HE.out]; simp; done)), HB.out⟩
     | false =>
     have HE := hide (show r = true by rw [HI.out]; exact ⟨hb0, by omega, by omega, by omega, by omega, hb5, hb6, rfl⟩)
     go_enter Tryz.func222, Tryz.ntmps222
     go_wp2_with fail
     rw [← hw1]
     clear hw1
     go_wp2_with (first | (go_at_call 81; refine (name_vn _ _).mono ?_; rintro e wc ⟨rfl, rfl⟩) | (go_at_call 260; refine (key_vn _ _).mono ?_; rintro e wc ⟨rfl, rfl⟩))
     go_ret
     exact ⟨ret_boolB (by first | (rw [HE.out]; done) | (rw [HE.out]; exact HL.out) | (rw [HE.out]; simp; done)), HB.out⟩
    ·have d4 : 65536 < xm := by omega
     have HE := hide (show r = false by rw [← Bool.not_eq_true, HI.out]; omega)
     go_enter Tryz.func222, Tryz.ntmps222
     go_wp2_with fail
     rw [← hw1]
     clear hw1
     go_wp2_with (first | (go_at_call 81; refine (name_vn _ _).mono ?_; rintro e wc ⟨rfl, rfl⟩) | (go_at_call 260; refine (key_vn _ _).mono ?_; rintro e wc ⟨rfl, rfl⟩))
     go_ret
     exact ⟨ret_boolB (by first | (rw [HE.out]; done) | (rw [HE.out]; exact HL.out) | (rw [HE.out]; simp; done)), HB.out⟩
   ·have d3 : xm < 1 := by omega
    have HE := hide (show r = false by rw [← Bool.not_eq_true, HI.out]; omega)
    go_enter Tryz.func222, Tryz.ntmps222
    go_wp2_with fail
    rw [← hw1]
    clear hw1
    go_wp2_with (first | (go_at_call 81; refine (name_vn _ _).mono ?_; rintro e wc ⟨rfl, rfl⟩) | (go_at_call 260; refine (key_vn _ _).mono ?_; rintro e wc ⟨rfl, rfl⟩))
    go_ret
    exact ⟨ret_boolB (by first | (rw [HE.out]; done) | (rw [HE.out]; exact HL.out) | (rw [HE.out]; simp; done)), HB.out⟩
  ·have d2 : 16384 < xs := by omega
   have HE := hide (show r = false by rw [← Bool.not_eq_true, HI.out]; omega)
   go_enter Tryz.func222, Tryz.ntmps222
   go_wp2_with fail
   rw [← hw1]
   clear hw1
   go_wp2_with (first | (go_at_call 81; refine (name_vn _ _).mono ?_; rintro e wc ⟨rfl, rfl⟩) | (go_at_call 260; refine (key_vn _ _).mono ?_; rintro e wc ⟨rfl, rfl⟩))
   go_ret
   exact ⟨ret_boolB (by first | (rw [HE.out]; done) | (rw [HE.out]; exact HL.out) | (rw [HE.out]; simp; done)), HB.out⟩
 ·have d1 : xs < 1 := by omega
  have HE := hide (show r = false by rw [← Bool.not_eq_true, HI.out]; omega)
  go_enter Tryz.func222, Tryz.ntmps222
  go_wp2_with fail
  rw [← hw1]
  clear hw1
  go_wp2_with (first | (go_at_call 81; refine (name_vn _ _).mono ?_; rintro e wc ⟨rfl, rfl⟩) | (go_at_call 260; refine (key_vn _ _).mono ?_; rintro e wc ⟨rfl, rfl⟩))
  go_ret
  exact ⟨ret_boolB (by first | (rw [HE.out]; done) | (rw [HE.out]; exact HL.out) | (rw [HE.out]; simp; done)), HB.out⟩
end Go.Proofs.YtmeaiocohalphaaGreatDoor
namespace Go.Proofs.YtmeaiocohalphaaGreatDoor
open Go.RowKit
set_option linter.unusedVariables false
def hs1 (h : Nat) (c : UInt8) : Nat := (h ^^^ c.toNat) * 1099511628211 % 18446744073709551616
def hsh (s : List UInt8) : Nat := s.foldl hs1 14695981039346656037
def odN (n : Nat) : Nat := if n % 2 = 0 then n + 1 else n
def btN (s : List UInt8) (N i : Nat) : Nat := (hsh s % 4294967296 + i * odN (hsh s / 4294967296)) % N
def stB (b : List UInt8) (n : Nat) : List UInt8 := b.set (n / 8) (UInt8.ofNat ((b.getD (n / 8) 0).toNat ||| 2 ^ (n % 8)))
@[simp] theorem stB_len (b : List UInt8) (n : Nat) : (stB b n).length = b.length := by simp [stB]
def ptK (s : List UInt8) (N : Nat) : Nat → List UInt8 → List UInt8
 | 0, b => b
 | k + 1, b => stB (ptK s N k b) (btN s N k)
@[simp] theorem ptK_len (s : List UInt8) (N : Nat) : ∀ (k : Nat) (b : List UInt8), (ptK s N k b).length = b.length
 | 0, b => rfl
 | k + 1, b => by rw [ptK, stB_len, ptK_len s N k b]
def ptL (N : Nat) (ks : List (List UInt8)) (b : List UInt8) : List UInt8 := ks.foldl (fun b s => ptK s N 4 b) b
theorem ptL_len (N : Nat) : ∀ (ks : List (List UInt8)) (b : List UInt8), (ptL N ks b).length = b.length
 | [], b => rfl
 | s :: ks, b => by
  show (ptL N ks (ptK s N 4 b)).length = _
  rw [ptL_len N ks, ptK_len]
def szV (ks : List (List UInt8)) : Nat := max 8 ks.length
def sieveL (ks : List (List UInt8)) : List UInt8 := ptL (szV ks * 8) ks (List.replicate (szV ks) 0)
@[simp] theorem sieveL_len (ks : List (List UInt8)) : (sieveL ks).length = szV ks := by unfold sieveL; rw [ptL_len, List.length_replicate]
end Go.Proofs.YtmeaiocohalphaaGreatDoor
namespace Go.Proofs.YtmeaiocohalphaaGreatDoor
open Go.RowKit
set_option linter.unusedVariables false
set_option linter.unusedSimpArgs false
def ecT (s : List UInt8) : List Value := [.string (bs s)]
theorem ecT_len (s : List UInt8) : (ecT s).length = 1 := rfl
def RdTx (w : World) (v : Value) (l : List (List UInt8)) : Prop := RdG 1 ecT w v l
def OwTx (w : World) (base : Nat) (v : Value) (l : List (List UInt8)) : Prop := OwG 1 ecT 9 w base v l
theorem RdTx.len {w : World} {a : Option Addr} {n c : Nat} {l : List (List UInt8)} (h : RdTx w (.slice a n c) l) : n = l.length := RdG.len h
theorem OwTx.rd {w : World} {base : Nat} {v : Value} {l : List (List UInt8)} (h : OwTx w base v l) : RdTx w v l := OwG.rd ecT_len h
theorem OwTx.carry {w w' : World} {base : Nat} {v : Value} {l : List (List UInt8)} (h : OwTx w base v l) (hb : Below w.heap.size w w') : OwTx w' base v l := OwG.carry h hb
end Go.Proofs.YtmeaiocohalphaaGreatDoor
set_option maxHeartbeats 2000000
set_option maxRecDepth 100000
namespace Go.Proofs.YtmeaiocohalphaaGreatDoor
open Go.RowKit
set_option linter.unusedVariables false
set_option linter.unusedSimpArgs false
theorem tclos_vn (x : Mta) (w : World) :
  Calls Tryz.prog 221 #[.agg #[.string (bs x.1), .int .i64 x.2.1, .int .i64 x.2.2.1, .string (bs (Mlo x)), .string (bs (Mhi x))]] w fun e w' => e = .returned (.bool (!mtO x)) ∧ Below w.heap.size w w' := by
 obtain ⟨w1, hw1⟩ : ∃ w1, w1 = w.alloc (.cells #[.string (bs x.1), .int .i64 x.2.1, .int .i64 x.2.2.1, .string (bs (Mlo x)), .string (bs (Mhi x))] 124) := ⟨_, rfl⟩
 have HB := hide (show Below w.heap.size w w1 by rw [hw1]; exact (Below.refl _ _).alloc (Nat.le_refl _) _)
 have HX := hide (show MvAt w1 w.heap.size x by rw [hw1]; exact MvAt.new w x)
 obtain ⟨x0, x1, x2, x3, x4⟩ := HX.out.cells
 have hc := table_vn x w1
 go_enter Tryz.func221, Tryz.ntmps221
 go_wp2_with fail
 rw [← hw1]
 clear hw1
 go_wp2_with fail
 refine hc.mono ?_
 rintro e w2 ⟨rfl, hb2⟩
 have HB2 := hide (HB.out.trans (hb2.mono HB.out.size))
 clear hc hb2 x0 x1 x2 x3 x4
 go_wp2
 go_ret
 exact ⟨rfl, HB2.out⟩
theorem all_take_s {l : List Mta} {k : Nat} (h : (l.take k).all mtO = true) (hk : k < l.length) (hx : mtO l[k] = true) : (l.take (k + 1)).all mtO = true := by
 rw [List.take_succ_eq_append_getElem hk, List.all_append, h]; simp [hx]
theorem all_bad {l : List Mta} {k : Nat} (hk : k < l.length) (hx : mtO l[k] = false) : l.all mtO = false := by
 rw [← Bool.not_eq_true, List.all_eq_true]
 intro h
 have := h _ (List.getElem_mem hk)
 rw [this] at hx; cases hx
theorem indexF_vn (a : Option Addr) (n c : Nat) (l : List Mta) (w : World) (hrd : RdM w (.slice a n c) l) (hl : n ≤ 1000000) :
  Calls Tryz.prog 259 #[.slice a n c, .func (.func 221) #[] #[]] w fun e w' => ∃ z, e = .returned (.int .i64 z) ∧ Hid ((0 ≤ z ↔ l.all mtO = false) ∧ z ≤ 1000000) ∧ Below w.heap.size w w' := by
 have HN := hide hrd.len
 have HR := hide hrd
 clear hrd
 go_enter Tryz.func259, Tryz.ntmps259
 go_wp2
 go_loopw [8] (fun i wr => ∃ k : Nat, k ≤ n ∧ i = .int .i64 k ∧ Hid ((l.take k).all mtO = true) ∧ Hid (Below w.heap.size w wr)) (fun i _ => n - (intOf i).toNat)
 case atStart => exact ⟨0, Nat.zero_le _, rfl, hide rfl, hide (Below.refl _ _)⟩
 case round =>
  obtain ⟨k, hk, rfl, hP, hbel⟩ := hrel
  by_cases hlt : k < n
  ·have hlt' : (k : Int) < n := by omega
   have hkl : k < l.length := by have := HN.out; omega
   obtain ⟨b, off, rfl, q0, q1, q2, q3, q4⟩ := RdM.cells HR.out hbel.out k hkl
   have HT := hide (fun h => all_take_s hP.out hkl h)
   have HF := hide (fun h => all_bad hkl h)
   obtain ⟨x, hx⟩ : ∃ x, x = l[k] := ⟨_, rfl⟩
   rw [← hx] at q0 q1 q2 q3 q4 HT HF
   clear hx
   have HM := hide (fun wx => tclos_vn x wx)
   go_wp2_with fail
   refine (HM.out _).mono ?_
   rintro e w2 ⟨rfl, hb2⟩
   have HB2 := hide (hbel.out.trans (hb2.mono hbel.out.size))
   clear hb2 q0 q1 q2 q3 q4 hbel hP HM
   cases hm : mtO x with
   | true =>
    have HT2 := hide (HT.out hm)
    clear HT HF
    go_wp2
    go_roundw
    case rel => exact ⟨k + 1, by omega, by go_num, HT2, HB2⟩
    case measure => simp only [intOf]; omega
   | false =>
    have HF2 := hide (HF.out hm)
    clear HT HF
    go_wp2
    go_ret
    exact ⟨_, rfl, hide ⟨⟨fun _ => HF2.out, fun _ => by omega⟩, by omega⟩, HB2.out⟩
  ·have hd : decide ((k : Int) < n) = false := by simpa using (by omega : ¬ (k : Int) < n)
   have HA := hide (show l.all mtO = true by have := hP.out; rwa [List.take_of_length_le (by have := HN.out; omega)] at this)
   clear hP
   go_wp2
   go_ret
   exact ⟨_, rfl, hide ⟨⟨fun h => by omega, fun h => by rw [HA.out] at h; cases h⟩, by omega⟩, hbel.out⟩
theorem contains_vn (a : Option Addr) (n c : Nat) (l : List Mta) (w : World) (hrd : RdM w (.slice a n c) l) (hl : n ≤ 1000000) :
  Calls Tryz.prog 220 #[.slice a n c, .func (.func 221) #[] #[]] w fun e w' => e = .returned (.bool (!l.all mtO)) ∧ Below w.heap.size w w' := by
 have hc := indexF_vn a n c l w hrd hl
 clear hrd
 go_enter Tryz.func220, Tryz.ntmps220
 go_wp2_with fail
 refine hc.mono ?_
 rintro e w2 ⟨z, rfl, hz, hb2⟩
 have HB2 := hide hb2
 clear hc hb2
 by_cases h : 0 ≤ z
 ·have HE := hide (hz.out.1.1 h)
  go_wp2
  go_ret
  exact ⟨ret_boolB (by rw [HE.out]; rfl), HB2.out⟩
 ·have h' : decide (0 ≤ z) = false := by simpa using h
  have HE := hide (show l.all mtO = true by cases q : l.all mtO with | true => rfl | false => exact absurd (hz.out.1.2 q) h)
  clear h
  go_wp2
  go_ret
  exact ⟨ret_boolB (by rw [HE.out]; rfl), HB2.out⟩
theorem tables_vn (a : Option Addr) (n c : Nat) (l : List Mta) (w : World) (hrd : RdM w (.slice a n c) l) (hl : n ≤ 1000000) :
  Calls Tryz.prog 156 #[.slice a n c] w fun e w' => e = .returned (.bool (l.all mtO)) ∧ Below w.heap.size w w' := by
 have hc := contains_vn a n c l w hrd hl
 clear hrd
 go_enter Tryz.func156, Tryz.ntmps156
 go_wp2_with fail
 refine hc.mono ?_
 rintro e w2 ⟨rfl, hb2⟩
 have HB2 := hide hb2
 clear hc hb2
 go_wp2
 go_ret
 exact ⟨ret_boolB (by simp), HB2.out⟩
def neS (s t : List UInt8) : Bool := !decide (s = t)
theorem nclos_vn (s t : List UInt8) (w : World) :
  Calls Tryz.prog 161 #[.string (bs s), .string (bs t)] w fun e w' => e = .returned (.bool (neS s t)) ∧ w' = w := by
 have he := eq_bs s t
 unfold neS
 go_enter Tryz.func161, Tryz.ntmps161
 go_wp2
 go_ret
 exact ⟨ret_boolB (by first | rfl | (simp [he]; done) | (rw [← he]; rfl)), rfl⟩
theorem ris_bad {α : Type} {f : α → α → Bool} {l : List α} {j : Nat} (h : j + 1 < l.length) (hf : f l[j + 1] (l[j]'(by omega)) = false) : risB f l = false := by
 rw [← Bool.not_eq_true, risB_iff]
 intro q
 rw [q j h] at hf; cases hf
def RisTo {α : Type} (f : α → α → Bool) (l : List α) (j : Nat) : Prop := ∀ i, i < j → (h : i + 1 < l.length) → f l[i + 1] (l[i]'(by omega)) = true
theorem RisTo.next {α : Type} {f : α → α → Bool} {l : List α} {j : Nat} (h : RisTo f l j) (hj : j + 1 < l.length) (hf : f l[j + 1] (l[j]'(by omega)) = true) : RisTo f l (j + 1) := by
 intro i hi h2
 rcases Nat.lt_or_ge i j with q | q
 ·exact h i q h2
 ·obtain rfl : i = j := by omega
  exact hf
theorem RisTo.all {α : Type} {f : α → α → Bool} {l : List α} {j : Nat} (h : RisTo f l j) (hj : l.length ≤ j + 1) : risB f l = true := by
 rw [risB_iff]
 intro i hi
 exact h i (by omega) hi
theorem risM_vn (a : Option Addr) (n c : Nat) (l : List Mta) (w : World) (hrd : RdM w (.slice a n c) l) (hl : n ≤ 1000000) :
  Calls Tryz.prog 157 #[.slice a n c, .func (.func 158) #[] #[]] w fun e w' => e = .returned (.bool (risB abvM l)) ∧ Below w.heap.size w w' := by
 have HN := hide hrd.len
 have HR := hide hrd
 clear hrd
 go_enter Tryz.func157, Tryz.ntmps157
 go_wp2
 go_loopw [5] (fun i wr => ∃ j : Nat, (j = 0 ∨ j < n) ∧ i = .int .i64 ((j : Int) + 1) ∧ Hid (RisTo abvM l j) ∧ Hid (Below w.heap.size w wr)) (fun i _ => n + 1 - (intOf i).toNat)
 case atStart => exact ⟨0, .inl rfl, rfl, hide (fun i hi => by omega), hide (Below.refl _ _)⟩
 case round =>
  obtain ⟨j, hj, rfl, hP, hbel⟩ := hrel
  by_cases hlt : j + 1 < n
  ·have hlt' : (j : Int) + 1 < n := by omega
   have hj1 : j < n := by omega
   have hlj : (j : Int) < n := by omega
   have hj0 : (0 : Int) ≤ (j : Int) + 1 := by omega
   have hwj : IntKind.i64.wrap (j : Int) = j := by rw [IntKind.wrap_i64]; omega
   have hkl : j + 1 < l.length := by have := HN.out; omega
   have hkl0 : j < l.length := by omega
   have HT := hide (fun h => hP.out.next hkl h)
   have HF := hide (fun h => ris_bad (f := abvM) hkl h)
   have HC1 := hide (fun wx (hb : Below w.heap.size w wx) => RdM.cells HR.out hb (j + 1) hkl)
   have HC0 := hide (fun wx (hb : Below w.heap.size w wx) => RdM.cells HR.out hb j hkl0)
   obtain ⟨b, off, rfl, -⟩ := HC1.out wr hbel.out
   have HX1 := hide (show ∀ wx, Below w.heap.size w wx → CellsM wx b (off + (j + 1) * 5) l[j + 1] from fun wx hb => by
    obtain ⟨b', off', e, h⟩ := HC1.out wx hb
    cases e; exact h)
   have HX0 := hide (show ∀ wx, Below w.heap.size w wx → CellsM wx b (off + j * 5) l[j] from fun wx hb => by
    obtain ⟨b', off', e, h⟩ := HC0.out wx hb
    cases e; exact h)
   clear HC1 HC0
   obtain ⟨x, hx⟩ : ∃ x, x = l[j + 1] := ⟨_, rfl⟩
   obtain ⟨y, hy⟩ : ∃ y, y = l[j] := ⟨_, rfl⟩
   rw [← hx] at HX1 HT HF
   rw [← hy] at HX0 HT HF
   clear hx hy
   obtain ⟨z, hz⟩ : ∃ z, z = abvM x y := ⟨_, rfl⟩
   have HM := hide (fun wx => behind_vn x y wx)
   rw [← hz] at HM HT HF
   clear hz
   have hK : Keeps (fun wx => CellsM wx b (off + (j + 1) * 5) x ∧ CellsM wx b (off + j * 5) y ∧ Below w.heap.size w wx) := fun w1 w2 h hb => ⟨h.1.carry hb, h.2.1.carry hb, h.2.2.trans (hb.mono h.2.2.size)⟩
   have hS0 : CellsM wr b (off + (j + 1) * 5) x ∧ CellsM wr b (off + j * 5) y ∧ Below w.heap.size w wr := ⟨HX1.out wr hbel.out, HX0.out wr hbel.out, hbel.out⟩
   clear HX1 HX0 hbel hP
   go_wp2_with fail
   refine reg_begin hK (by kernel_rfl) hS0 ?_
   intro hS
   clear hS0
   generalize wr.drew = wd at *
   refine reg_plan [0, 1, 2, 3, 4, 5, 6, 7, 8, 9] (fuel := 2) (a' := ?qea1) (by kernel_rfl) (by kernel_rfl) (by kernel_rfl) ?qep1 hS ?qen1
   case qep1 =>
    iterate 10 (apply Yl.cons rfl (by kernel_rfl); focus (rintro wx ⟨hx, hy, _⟩; obtain ⟨q0, q1, q2, q3, q4⟩ := hx; obtain ⟨p0, p1, p2, p3, p4⟩ := hy; go_simp; all_goals (with_reducible rfl)); try simp only [Act.put, List.setIfInBounds_toArray, List.set_cons_zero, List.set_cons_succ])
    exact Yl.nil
   refine reg_callv hK (i := 10) (v := .bool z) rfl (by kernel_rfl) (by kernel_rfl) (by go_simp) hS (HM.out _) ?_
   clear hS
   intro w22 hS
   try simp only [Act.put, List.setIfInBounds_toArray, List.set_cons_zero, List.set_cons_succ]
   refine reg_plan [11] (fuel := 0) (a' := ?qea2) (by kernel_rfl) (by kernel_rfl) (by kernel_rfl) ?qep2 hS ?qen2
   case qep2 =>
    iterate 1 (apply Yl.cons rfl (by kernel_rfl); focus (rintro wx ⟨hx, hy, _⟩; obtain ⟨q0, q1, q2, q3, q4⟩ := hx; obtain ⟨p0, p1, p2, p3, p4⟩ := hy; go_simp; all_goals (with_reducible rfl)); try simp only [Act.put, List.setIfInBounds_toArray, List.set_cons_zero, List.set_cons_succ])
    exact Yl.nil
   refine wpAnyH_done (by kernel_rfl) ?_ _
   refine NoPanic.normal ?_
   try simp only [Act.put, List.setIfInBounds_toArray, List.set_cons_zero, List.set_cons_succ]
   have HB2 := hide hS.2.2
   clear hS hK HM
   cases z with
   | true =>
    have HT2 := hide (HT.out rfl)
    clear HT HF
    go_wp2
    go_roundw
    case rel => exact ⟨j + 1, .inr (by omega), by go_num, HT2, HB2⟩
    case measure => simp only [intOf]; omega
   | false =>
    have HF2 := hide (HF.out rfl)
    clear HT HF
    go_wp2
    go_ret
    exact ⟨ret_boolB HF2.out.symm, HB2.out⟩
  ·have hd : decide ((j : Int) + 1 < n) = false := by simpa using (by omega : ¬ (j : Int) + 1 < n)
   have HA := hide (hP.out.all (by have := HN.out; omega))
   clear hP
   go_wp2
   go_ret
   exact ⟨ret_boolB HA.out.symm, hbel.out⟩
def CellT (w : World) (b o : Nat) (s : List UInt8) : Prop := w.cell? ⟨b, o, none⟩ = some (.string (bs s))
theorem CellT.carry {w w' : World} {b o : Nat} {s : List UInt8} (h : CellT w b o s) (hb : Below w.heap.size w w') : CellT w' b o s := by
 unfold CellT at *
 rw [hb.cell (World.block_lt_of_cell? w _ h)]; exact h
theorem RdTx.cellT {w w' : World} {a : Option Addr} {n c : Nat} {l : List (List UInt8)} (h : RdTx w (.slice a n c) l) (hb : Below w.heap.size w w') (j : Nat) (hj : j < l.length) : ∃ b off, a = some ⟨b, off, none⟩ ∧ CellT w' b (off + j) l[j] := by
 obtain ⟨b, off, e, hc⟩ := RdG.atB h hb j hj
 exact ⟨b, off, e, by simpa [CellT] using hc 0 _ rfl⟩
theorem risT_vn (a : Option Addr) (n c : Nat) (l : List (List UInt8)) (w : World) (hrd : RdTx w (.slice a n c) l) (hl : n ≤ 1000000) :
  Calls Tryz.prog 159 #[.slice a n c, .func (.func 161) #[] #[]] w fun e w' => e = .returned (.bool (risB neS l)) ∧ Below w.heap.size w w' := by
 have HN := hide hrd.len
 have HR := hide hrd
 clear hrd
 go_enter Tryz.func159, Tryz.ntmps159
 go_wp2
 go_loopw [5] (fun i wr => ∃ j : Nat, (j = 0 ∨ j < n) ∧ i = .int .i64 ((j : Int) + 1) ∧ Hid (RisTo neS l j) ∧ Hid (Below w.heap.size w wr)) (fun i _ => n + 1 - (intOf i).toNat)
 case atStart => exact ⟨0, .inl rfl, rfl, hide (fun i hi => by omega), hide (Below.refl _ _)⟩
 case round =>
  obtain ⟨j, hj, rfl, hP, hbel⟩ := hrel
  by_cases hlt : j + 1 < n
  ·have hlt' : (j : Int) + 1 < n := by omega
   have hj1 : j < n := by omega
   have hlj : (j : Int) < n := by omega
   have hj0 : (0 : Int) ≤ (j : Int) + 1 := by omega
   have hwj : IntKind.i64.wrap (j : Int) = j := by rw [IntKind.wrap_i64]; omega
   have hkl : j + 1 < l.length := by have := HN.out; omega
   have hkl0 : j < l.length := by omega
   have HT := hide (fun h => hP.out.next hkl h)
   have HF := hide (fun h => ris_bad (f := neS) hkl h)
   have HC1 := hide (fun wx (hb : Below w.heap.size w wx) => RdTx.cellT HR.out hb (j + 1) hkl)
   have HC0 := hide (fun wx (hb : Below w.heap.size w wx) => RdTx.cellT HR.out hb j hkl0)
   obtain ⟨b, off, rfl, -⟩ := HC1.out wr hbel.out
   have HX1 := hide (show ∀ wx, Below w.heap.size w wx → CellT wx b (off + (j + 1)) l[j + 1] from fun wx hb => by
    obtain ⟨b', off', e, h⟩ := HC1.out wx hb
    cases e; exact h)
   have HX0 := hide (show ∀ wx, Below w.heap.size w wx → CellT wx b (off + j) l[j] from fun wx hb => by
    obtain ⟨b', off', e, h⟩ := HC0.out wx hb
    cases e; exact h)
   clear HC1 HC0
   obtain ⟨x, hx⟩ : ∃ x, x = l[j + 1] := ⟨_, rfl⟩
   obtain ⟨y, hy⟩ : ∃ y, y = l[j] := ⟨_, rfl⟩
   rw [← hx] at HX1 HT HF
   rw [← hy] at HX0 HT HF
   clear hx hy
   obtain ⟨z, hz⟩ : ∃ z, z = neS x y := ⟨_, rfl⟩
   have HM := hide (fun wx => nclos_vn x y wx)
   rw [← hz] at HM HT HF
   clear hz
   have hK : Keeps (fun wx => CellT wx b (off + (j + 1)) x ∧ CellT wx b (off + j) y ∧ Below w.heap.size w wx) := fun w1 w2 h hb => ⟨h.1.carry hb, h.2.1.carry hb, h.2.2.trans (hb.mono h.2.2.size)⟩
   have hS0 : CellT wr b (off + (j + 1)) x ∧ CellT wr b (off + j) y ∧ Below w.heap.size w wr := ⟨HX1.out wr hbel.out, HX0.out wr hbel.out, hbel.out⟩
   clear HX1 HX0 hbel hP
   go_wp2_with fail
   refine reg_begin hK (by kernel_rfl) hS0 ?_
   intro hS
   clear hS0
   generalize wr.drew = wd at *
   refine reg_plan [0, 1, 2, 3, 4, 5, 6, 7, 8, 9] (fuel := 2) (a' := ?qea1) (by kernel_rfl) (by kernel_rfl) (by kernel_rfl) ?qep1 hS ?qen1
   case qep1 =>
    iterate 10 (apply Yl.cons rfl (by kernel_rfl); focus (rintro wx ⟨hx, hy, _⟩; unfold CellT at hx hy; go_simp; all_goals (with_reducible rfl)); try simp only [Act.put, List.setIfInBounds_toArray, List.set_cons_zero, List.set_cons_succ])
    exact Yl.nil
   refine reg_callv hK (i := 10) (v := .bool z) rfl (by kernel_rfl) (by kernel_rfl) (by go_simp) hS ((HM.out _).mono fun e wy h => ⟨h.1, by rw [h.2]; exact Below.refl _ _⟩) ?_
   clear hS
   intro w22 hS
   try simp only [Act.put, List.setIfInBounds_toArray, List.set_cons_zero, List.set_cons_succ]
   refine reg_plan [11] (fuel := 0) (a' := ?qea2) (by kernel_rfl) (by kernel_rfl) (by kernel_rfl) ?qep2 hS ?qen2
   case qep2 =>
    iterate 1 (apply Yl.cons rfl (by kernel_rfl); focus (rintro wx ⟨hx, hy, _⟩; unfold CellT at hx hy; go_simp; all_goals (with_reducible rfl)); try simp only [Act.put, List.setIfInBounds_toArray, List.set_cons_zero, List.set_cons_succ])
    exact Yl.nil
   refine wpAnyH_done (by kernel_rfl) ?_ _
   refine NoPanic.normal ?_
   try simp only [Act.put, List.setIfInBounds_toArray, List.set_cons_zero, List.set_cons_succ]
   have HB2 := hide hS.2.2
   clear hS hK HM
   cases z with
   | true =>
    have HT2 := hide (HT.out rfl)
    clear HT HF
    go_wp2
    go_roundw
    case rel => exact ⟨j + 1, .inr (by omega), by go_num, HT2, HB2⟩
    case measure => simp only [intOf]; omega
   | false =>
    have HF2 := hide (HF.out rfl)
    clear HT HF
    go_wp2
    go_ret
    exact ⟨ret_boolB HF2.out.symm, HB2.out⟩
  ·have hd : decide ((j : Int) + 1 < n) = false := by simpa using (by omega : ¬ (j : Int) + 1 < n)
   have HA := hide (hP.out.all (by have := HN.out; omega))
   clear hP
   go_wp2
   go_ret
   exact ⟨ret_boolB HA.out.symm, hbel.out⟩
end Go.Proofs.YtmeaiocohalphaaGreatDoor

/-
  The library's bytes.Buffer: its functions of this program are those of the shelf; a buffer that is written by Small's and Text's bytes: what manifest.bytesOf's two closures do.
-/
import Derived.Test.YtmeaiocohalphaaDoorVn1
import Derived.Test.YtmeaiocohalphaaDoorMathMf
import Derived.Shelf.Bytes.WriteAny
import Derived.Shelf.Bytes.Bytes
import Derived.Lib.BufferOld
namespace Go.Proofs.YtmeaiocohalphaaDoor
open Go.RowKit Go.Shelf
set_option linter.unusedVariables false
set_option linter.unusedSimpArgs false

def Tryd.laysM180_ren : Go.Shelf.Ren := ⟨fun | 180 => 24 | 251 => 43 | 252 => 44 | 181 => 53 | 184 => 54 | 290 => 55 | 324 => 61 | n => n, fun | 130 => 84 | 37 => 25 | 3 => 3 | 75 => 63 | 0 => 0 | 93 => 61 | 91 => 59 | 131 => 85 | 4 => 4 | 20 => 20 | 5 => 5 | 80 => 56 | 9 => 9 | n => n, fun | 14 => 0 | n => n⟩
theorem Tryd.laysM180 : Go.Proofs.LaysM.n180 Tryd.prog Tryd.laysM180_ren := {
  mixed := by kernel_rfl
  f180 := Tryd.func24.trans (congrArg some (by kernel_rfl))
  f181 := Tryd.func53.trans (congrArg some (by kernel_rfl))
  f184 := Tryd.func54.trans (congrArg some (by kernel_rfl))
  f251 := Tryd.func43.trans (congrArg some (by kernel_rfl))
  f252 := Tryd.func44.trans (congrArg some (by kernel_rfl))
  f290 := Tryd.func55.trans (congrArg some (by kernel_rfl))
  f324 := Tryd.func61.trans (congrArg some (by kernel_rfl))
  t0 := Tryd.underlying0
  a0 := Tryd.isAgg0
  z0 := Tryd.sizeOf0
  v0 := Tryd.zeroValue0
  t3 := Tryd.underlying3
  a3 := Tryd.isAgg3
  z3 := Tryd.sizeOf3
  v3 := Tryd.zeroValue3
  t4 := Tryd.underlying4
  a4 := Tryd.isAgg4
  z4 := Tryd.sizeOf4
  v4 := Tryd.zeroValue4
  t20 := Tryd.underlying20
  a20 := Tryd.isAgg20
  z20 := Tryd.sizeOf20
  v20 := Tryd.zeroValue20
  t37 := Tryd.underlying25
  a37 := Tryd.isAgg25
  z37 := Tryd.sizeOf25
  v37 := Tryd.zeroValue25
  t75 := Tryd.underlying63
  a75 := Tryd.isAgg63
  z75 := Tryd.sizeOf63
  v75 := Tryd.zeroValue63
  t91 := Tryd.underlying59
  a91 := Tryd.isAgg59
  z91 := Tryd.sizeOf59
  v91 := Tryd.zeroValue59
  t93 := Tryd.underlying61
  a93 := Tryd.isAgg61
  z93 := Tryd.sizeOf61
  v93 := Tryd.zeroValue61
  t130 := Tryd.underlying84
  a130 := Tryd.isAgg84
  z130 := Tryd.sizeOf84
  v130 := Tryd.zeroValue84
  t131 := Tryd.underlying85
  a131 := Tryd.isAgg85
  z131 := Tryd.sizeOf85
  v131 := Tryd.zeroValue85
  g14 := by kernel_rfl
  t5 := Tryd.underlying5
  a5 := Tryd.isAgg5
  z5 := Tryd.sizeOf5
  v5 := Tryd.zeroValue5
  t9 := Tryd.underlying9
  a9 := Tryd.isAgg9
  z9 := Tryd.sizeOf9
  v9 := Tryd.zeroValue9
  t80 := Tryd.underlying56
  a80 := Tryd.isAgg56
  z80 := Tryd.sizeOf56
  v80 := Tryd.zeroValue56
  i0 := by kernel_rfl
  i3 := by kernel_rfl
  i4 := by kernel_rfl
  i5 := by kernel_rfl
  i9 := by kernel_rfl
  i20 := by kernel_rfl
  i37 := by kernel_rfl
  i75 := by kernel_rfl
  i80 := by kernel_rfl
  i91 := by kernel_rfl
  i93 := by kernel_rfl
  i130 := by kernel_rfl
  i131 := by kernel_rfl
  m14 := by kernel_rfl }
def Tryd.laysM183_ren : Go.Shelf.Ren := ⟨fun | 183 => 28 | n => n, fun | 130 => 84 | 37 => 25 | 0 => 0 | 93 => 61 | 3 => 3 | 5 => 5 | 91 => 59 | n => n, fun | n => n⟩
theorem Tryd.laysM183 : Go.Proofs.LaysM.n183 Tryd.prog Tryd.laysM183_ren := {
  mixed := by kernel_rfl
  f183 := Tryd.func28.trans (congrArg some (by kernel_rfl))
  t0 := Tryd.underlying0
  a0 := Tryd.isAgg0
  z0 := Tryd.sizeOf0
  v0 := Tryd.zeroValue0
  t3 := Tryd.underlying3
  a3 := Tryd.isAgg3
  z3 := Tryd.sizeOf3
  v3 := Tryd.zeroValue3
  t37 := Tryd.underlying25
  a37 := Tryd.isAgg25
  z37 := Tryd.sizeOf25
  v37 := Tryd.zeroValue25
  t93 := Tryd.underlying61
  a93 := Tryd.isAgg61
  z93 := Tryd.sizeOf61
  v93 := Tryd.zeroValue61
  t130 := Tryd.underlying84
  a130 := Tryd.isAgg84
  z130 := Tryd.sizeOf84
  v130 := Tryd.zeroValue84
  t5 := Tryd.underlying5
  a5 := Tryd.isAgg5
  z5 := Tryd.sizeOf5
  v5 := Tryd.zeroValue5
  t91 := Tryd.underlying59
  a91 := Tryd.isAgg59
  z91 := Tryd.sizeOf59
  v91 := Tryd.zeroValue59
  i0 := by kernel_rfl
  i3 := by kernel_rfl
  i5 := by kernel_rfl
  i37 := by kernel_rfl
  i91 := by kernel_rfl
  i93 := by kernel_rfl
  i130 := by kernel_rfl }

def IsBf (w : World) (B b : Nat) (l : List UInt8) : Prop := Go.Lib.IsBuffer 61 5 B b (u8v l) w
theorem IsBf.lt {w : World} {B b : Nat} {l : List UInt8} (h : IsBf w B b l) : b < w.heap.size := Go.Lib.IsBuffer.lt h
theorem IsBf.old {w w' : World} {B b : Nat} {l : List UInt8} (h : IsBf w B b l) (hb : Below w.heap.size w w') : IsBf w' B b l := Go.Lib.IsBuffer.old h hb
theorem IsBf.new (w : World) : IsBf (w.alloc (.cells #[.slice none 0 0, .int .i64 0, .int .i8 0] 61)) w.heap.size w.heap.size [] := Go.Lib.fresh_isBuffer 61 5 w
theorem u8v_one (l : List UInt8) : ∀ v ∈ u8v l, v.oneCell' = true := by
  intro v hv
  unfold u8v at hv
  obtain ⟨x, _, rfl⟩ := List.mem_map.1 hv
  rfl
theorem u8v_len (l : List UInt8) : (u8v l).length = l.length := by simp [u8v]
theorem write_nf (B b : Nat) (l s : List UInt8) (v : Value) (base : Nat) (w : World) (h : IsBf w B b l) (hB : B ≤ w.heap.size) (hs : OwY w base v s) (hb : b < base) (h0 : 0 < s.length) (hl : l.length + s.length ≤ 10000000) :
    Calls Tryd.prog 24 #[.pointer (some ⟨b, 0, none⟩), v] w fun e w' => e = .returned (.tuple #[.int .i64 s.length, .nilIface]) ∧ IsBf w' B b (l ++ s) ∧ Below B w w' ∧ Go.Lib.OthersKept 5 (some b) w w' := by
  have hc := fun g (hg : v.ownBlock = some g) => World.ownsRow.cells hs (g := g) hg
  rcases hs.2 with ⟨_, hn⟩ | ⟨g, cap, cur, rfl, hbg, _⟩
  · omega
  have := Go.Proofs.Any.Buffer_Write_any Tryd.laysM180 B b (u8v l) (u8v s) ⟨g, 0, none⟩ s.length cap w h hB (u8v_one l) (u8v_len s) (by show g ≠ b; omega) (hc g rfl) (u8v_one s) (by rw [u8v_len]; omega)
  refine Calls.mono this ?_
  rintro e w' ⟨rfl, h1, h2, h3⟩
  exact ⟨rfl, by unfold IsBf; rw [u8v_append]; exact h1, h2, h3⟩
theorem bytes_nf (B b : Nat) (l : List UInt8) (w : World) (h : IsBf w B b l) :
    Calls Tryd.prog 28 #[.pointer (some ⟨b, 0, none⟩)] w fun e w' => ∃ v, e = .returned v ∧ OwY w' B v l ∧ Below w.heap.size w w' := by
  refine Calls.mono (Go.Proofs.Any.Buffer_Bytes Tryd.laysM183 B b (u8v l) w h) ?_
  rintro e w' ⟨v, rfl, h1, n, rfl⟩
  rw [u8v_len] at h1
  exact ⟨v, rfl, h1, belowX_drewN (Below.refl _ _) n⟩
theorem others_below {t : TypeId} {b : Option Nat} {w w' : World} (h : Below w.heap.size w w') : Go.Lib.OthersKept t b w w' := fun k o hk _ _ => (h.block k (Array.getElem?_eq_some_iff.1 hk).1).trans hk

set_option maxHeartbeats 1000000 in
set_option maxRecDepth 100000 in
theorem number_nf (B b : Nat) (l : List UInt8) (n : Nat) (w : World) (h : IsBf w B b l) (hB : B ≤ w.heap.size) (hn : n < 9223372036854775808) (hl : l.length ≤ 1000000) :
    Calls Tryd.prog 23 #[.int .i64 n, .pointer (some ⟨b, 0, none⟩)] w fun e w' => e = .returned (.tuple #[]) ∧ IsBf w' B b (l ++ sm n) ∧ Below B w w' ∧ Go.Lib.OthersKept 5 (some b) w w' := by
  have g0 : (n : Int) % 18446744073709551616 = n := by omega
  have HI := hide h
  have HN := hide hn
  have HL := hide hl
  clear h hn hl
  go_enter Tryd.func23, Tryd.ntmps23
  go_wp2_with fail
  refine (small_y n w (by have := HN.out; omega)).mono ?_
  rintro e w1 ⟨v, rfl, hv, b1⟩
  have hw := write_nf B b l (sm n) v w.heap.size w1 (HI.out.old b1) (Nat.le_trans hB b1.size) hv HI.out.lt (by have := sm_pos n; omega) (by have := HL.out; have := sm_len_le10 (n := n) (by have := HN.out; omega); omega)
  have hk1 : Go.Lib.OthersKept 5 (some b) w w1 := others_below b1
  have hb1 : Below B w w1 := b1.mono hB
  clear hv b1 g0
  go_wp2_with fail
  refine hw.mono ?_
  rintro e w2 ⟨rfl, h2, b2, k2⟩
  have HA := hide (show IsBf w2 B b (l ++ sm n) ∧ Below B w w2 ∧ Go.Lib.OthersKept 5 (some b) w w2 from ⟨h2, hb1.trans b2, hk1.trans k2⟩)
  clear hw h2 b2 k2 hk1 hb1
  go_wp2
  refine bodyPost_end (v := .tuple #[]) ?_ rfl ⟨rfl, HA.out⟩
  simp [results, Tryd.results23, go_sem]

set_option maxHeartbeats 1000000 in
set_option maxRecDepth 100000 in
theorem text_nf (B b : Nat) (l s : List UInt8) (w : World) (h : IsBf w B b l) (hB : B ≤ w.heap.size) (hs : s.length ≤ 1000000) (hl : l.length ≤ 1000000) :
    Calls Tryd.prog 26 #[.string (bs s), .pointer (some ⟨b, 0, none⟩)] w fun e w' => e = .returned (.tuple #[]) ∧ IsBf w' B b (l ++ tx s) ∧ Below B w w' ∧ Go.Lib.OthersKept 5 (some b) w w' := by
  have HI := hide h
  have HN := hide hs
  have HL := hide hl
  clear h hs hl
  go_enter Tryd.func26, Tryd.ntmps26
  go_wp2_with fail
  refine (text_y s w HN.out).mono ?_
  rintro e w1 ⟨v, rfl, hv, b1⟩
  have hw := write_nf B b l (tx s) v w.heap.size w1 (HI.out.old b1) (Nat.le_trans hB b1.size) hv HI.out.lt (by unfold tx; rw [List.length_append]; have := sm_pos s.length; omega) (by have := HL.out; have := HN.out; have := tx_lenB s (by omega); omega)
  have hk1 : Go.Lib.OthersKept 5 (some b) w w1 := others_below b1
  have hb1 : Below B w w1 := b1.mono hB
  clear hv b1
  go_wp2_with fail
  refine hw.mono ?_
  rintro e w2 ⟨rfl, h2, b2, k2⟩
  have HA := hide (show IsBf w2 B b (l ++ tx s) ∧ Below B w w2 ∧ Go.Lib.OthersKept 5 (some b) w w2 from ⟨h2, hb1.trans b2, hk1.trans k2⟩)
  clear hw h2 b2 k2 hk1 hb1
  go_wp2
  refine bodyPost_end (v := .tuple #[]) ?_ rfl ⟨rfl, HA.out⟩
  simp [results, Tryd.results26, go_sem]
end Go.Proofs.YtmeaiocohalphaaDoor

/-
  What the statement RoomTakes answers.
-/
import Derived.Test.YtnigdbhjaoeblaaGreatFsFn2
import Derived.Test.YtnigdbhjaoeblaaGreatFiRef1
import Derived.Test.YtnigdbhjaoeblaaGreatMathFi2
import Derived.Test.YtnigdbhjaoeblaaGreatRmTop
import Derived.Test.YtnigdbhjaoeblaaGreatMathRd
import Derived.Test.YtnigdbhjaoeblaaGreatRmKit
import Derived.ProofKit
import Derived.Deep.Slices
import Derived.Deep.Strs
import Derived.OpenShut
import Derived.Lib.SmallJoins
import Derived.Test.YtnigdbhjaoeblaaGreatCut
namespace Go.Proofs.YtnigdbhjaoeblaaGreat
open Go.RowKit
set_option linter.unusedVariables false
set_option linter.unusedSimpArgs false

theorem getF_wf {fs : List Fl} (h : wfFs fs) (s : List UInt8) : ∀ x ∈ getF fs s, wfX x := by
  unfold getF
  cases e : fs.find? fun f => f.1 == s with
  | none => simp
  | some p => exact fun x hx => h p (List.mem_of_find?_eq_some e) x (by simpa using hx)
theorem findV_fst {fs : List Fl} {s : List UInt8} (h : thereE fs s = 0) : findV fs s = (s, getF fs s) := by unfold findV; rw [if_pos h]
set_option maxHeartbeats 1000000 in
set_option maxRecDepth 100000 in
theorem blocksOf_fs (x : FsV) (f : Fsd) (s : List UInt8) (w : World) (h : RdX w x f) (hw : WfX f) :
    Calls Tryz.prog 66 #[x.val, .string (bs s)] w fun e w' => ∃ v, e = .returned (.tuple #[v, .int .i64 (bloE f s)]) ∧ OwI w' w.heap.size v (bloL f s) ∧ Below w.heap.size w w' := by
  have HW := hide hw
  clear hw
  obtain ⟨w1, ew⟩ : ∃ w1, w.alloc (.cells x.cs 33) = w1 := ⟨_, rfl⟩
  have hb1 : Below w.heap.size w w1 := by rw [← ew]; exact (Below.refl _ _).alloc (Nat.le_refl _) _
  have HF_w1 := hide (show FsAt w1 w.heap.size x by rw [← ew]; exact Bq.new _ _ _)
  obtain ⟨k0, k1, k2, k3, k4, k5⟩ := fs_cells HF_w1.out
  have HX := hide h
  have HB_w1 := hide hb1
  clear h hb1
  unfold FsV.val
  unfold FsV.cs at ew
  go_enter Tryz.func66, Tryz.ntmps66
  go_wp2_with fail
  refine (find_any _ _ _ f.2.2.1 s w1 (HX.out.fl.carry HB_w1.out) HX.out.n4 HW.out.fl).mono ?_
  rintro e w2 ⟨v2, rfl, ho2, hb2⟩
  have HB_w2 := hide (show Below w.heap.size w w2 from HB_w1.out.trans (hb2.mono HB_w1.out.size))
  clear k0 k1 k2 k3 k4 k5 ew hb2
  obtain ⟨m2, hm2⟩ : ∃ m2, m2 = (findV f.2.2.1 s).2.length := ⟨_, rfl⟩
  obtain ⟨y2, z2, e2⟩ : ∃ a c, v2 = .slice a m2 c := by rw [hm2]; exact ho2.form
  subst e2
  have HO2 := hide ho2.rd
  have HM2 := hide hm2
  clear ho2 hm2
  obtain ⟨n9, hn9⟩ : ∃ n9, n9 = (findV f.2.2.1 s).1 := ⟨_, rfl⟩
  rw [← hn9]
  clear hn9
  obtain ⟨w3, ew3⟩ : ∃ w3, w2.alloc (.cells #[.string (bs n9), .slice y2 m2 z2] 92) = w3 := ⟨_, rfl⟩
  have hb3 : Below w2.heap.size w2 w3 := by rw [← ew3]; exact (Below.refl _ _).alloc (Nat.le_refl _) _
  have HB_w3 := hide (show Below w.heap.size w w3 from HB_w2.out.trans (hb3.mono HB_w2.out.size))
  have HO3 := hide (HO2.out.carry hb3)
  have k9 : w3.cell? ⟨w2.heap.size, 1, none⟩ = some (.slice y2 m2 z2) := by rw [← ew3]; simp
  clear hb3 HO2
  by_cases g1 : ¬ thereE f.2.2.1 s = 0
  · have HE := hide (show bloE f s = thereE f.2.2.1 s by unfold bloE; rw [if_pos g1])
    have HL := hide (show bloL f s = [] by unfold bloL; rw [if_pos g1])
    go_wp2
    go_ret2
    rw [HE.out, HL.out]
    exact ⟨_, rfl, World.ownsRow_nil _ _ _ _, by assumption⟩
  rw [Decidable.not_not] at g1
  have HE := hide (show bloE f s = chkX (getF f.2.2.1 s) by unfold bloE; rw [if_neg (by rw [g1]; decide)])
  have HL := hide (show bloL f s = blocksR (getF f.2.2.1 s) by unfold bloL; rw [if_neg (by rw [g1]; decide)])
  rw [findV_fst g1] at HO3 HM2
  rw [g1]
  clear g1
  go_wp2_with fail
  refine (blocks_ext y2 m2 z2 (getF f.2.2.1 s) w3 HO3.out HM2.out (getF_wf HW.out.fl s)).mono ?_
  rintro e w4 ⟨v4, rfl, ho4, hb4⟩
  have HB_w4 := hide (show Below w.heap.size w w4 from HB_w3.out.trans (hb4.mono HB_w3.out.size))
  have HO4 := hide (ho4.mono HB_w3.out.size)
  clear hb4 ho4 k9
  go_wp2
  go_ret2
  rw [HE.out, HL.out]
  exact ⟨_, rfl, HO4.out, HB_w4.out⟩

theorem OwI.rd6 {w : World} {base : Nat} {v : Value} {l : List Int} (h : OwI w base v l) : RdI w v l := h.rd
theorem RdI.at6 {w : World} {a : Option Addr} {n c : Nat} {l : List Int} (h : RdI w (.slice a n c) l) (j : Nat) (hj : j < l.length) :
    ∃ b off, a = some ⟨b, off, none⟩ ∧ w.cell? ⟨b, off + j, none⟩ = some (.int .i64 (l[j])) := by
  rcases h with ⟨rfl, _⟩ | ⟨b, off, c', e, _, _, hc⟩
  · exact absurd hj (by simp)
  · cases e; exact ⟨b, off, rfl, hc j hj⟩

set_option maxHeartbeats 2000000 in
set_option maxRecDepth 100000 in
theorem blockAt_fs (x : FsV) (f : Fsd) (s : List UInt8) (i : Int) (w : World) (h : RdX w x f) (hw : WfX f) :
    Calls Tryz.prog 67 #[x.val, .string (bs s), .int .i64 i] w fun e w' => e = .returned (.tuple #[.int .i64 (atN f s i), .int .i64 (atE f s i)]) ∧ Below w.heap.size w w' := by
  have HW := hide hw
  clear hw
  obtain ⟨w1, ew⟩ : ∃ w1, w.alloc (.cells x.cs 33) = w1 := ⟨_, rfl⟩
  have hb1 : Below w.heap.size w w1 := by rw [← ew]; exact (Below.refl _ _).alloc (Nat.le_refl _) _
  have HF_w1 := hide (show FsAt w1 w.heap.size x by rw [← ew]; exact Bq.new _ _ _)
  obtain ⟨k0, k1, k2, k3, k4, k5⟩ := fs_cells HF_w1.out
  have HX := hide h
  have HB_w1 := hide hb1
  clear h hb1
  unfold FsV.val
  unfold FsV.cs at ew
  go_enter Tryz.func67, Tryz.ntmps67
  go_wp2_with fail
  refine (blocksOf_fs x f s w1 (HX.out.carry HB_w1.out) HW.out).mono ?_
  rintro e w2 ⟨v2, rfl, ho2, hb2⟩
  have HB_w2 := hide (show Below w.heap.size w w2 from HB_w1.out.trans (hb2.mono HB_w1.out.size))
  clear k0 k1 k2 k3 k4 k5 ew hb2
  obtain ⟨m2, hm2⟩ : ∃ m2, m2 = (bloL f s).length := ⟨_, rfl⟩
  obtain ⟨y2, z2, e2⟩ : ∃ a c, v2 = .slice a m2 c := by rw [hm2]; exact ho2.rd6.form
  subst e2
  have HO2 := hide ho2.rd6
  have HM2 := hide hm2
  clear ho2 hm2
  by_cases g1 : ¬ bloE f s = 0
  · have HE := hide (show atE f s i = bloE f s by unfold atE; rw [if_pos g1])
    have HN := hide (show atN f s i = 0 by unfold atN; rw [if_pos (by rw [HE.out]; exact g1)])
    go_wp2
    go_ret2
    rw [HE.out, HN.out]
    exact ⟨rfl, HB_w2.out⟩
  rw [Decidable.not_not] at g1
  rw [g1]
  by_cases g2 : i < 0
  · have HE := hide (show atE f s i = 2 by unfold atE; rw [if_neg (by rw [g1]; decide), if_pos (.inl g2)])
    have HN := hide (show atN f s i = 0 by unfold atN; rw [if_pos (by rw [HE.out]; decide)])
    clear g1
    go_wp2
    go_ret2
    rw [HE.out, HN.out]
    exact ⟨rfl, HB_w2.out⟩
  by_cases g3 : (m2 : Int) ≤ i
  · have HE := hide (show atE f s i = 2 by unfold atE; rw [if_neg (by rw [g1]; decide), if_pos (.inr (by rw [← HM2.out]; exact g3))])
    have HN := hide (show atN f s i = 0 by unfold atN; rw [if_pos (by rw [HE.out]; decide)])
    have g2' : decide (i < 0) = false := by simpa using g2
    clear g1 g2
    go_wp2
    go_ret2
    rw [HE.out, HN.out]
    exact ⟨rfl, HB_w2.out⟩
  obtain ⟨j, rfl⟩ : ∃ j : Nat, i = j := ⟨i.toNat, by omega⟩
  have hj : j < m2 := by omega
  have hjl : j < (bloL f s).length := by rw [← HM2.out]; exact hj
  have HE := hide (show atE f s j = 0 by unfold atE; rw [if_neg (by rw [g1]; decide), if_neg (by rw [← HM2.out]; omega)])
  have HN := hide (show atN f s j = (bloL f s)[j] by unfold atN; rw [if_neg (by rw [HE.out]; decide)]; simp [List.getD, List.getElem?_eq_getElem hjl])
  obtain ⟨b9, o9, rfl, hc9⟩ := HO2.out.at6 j hjl
  have g2' : decide ((j : Int) < 0) = false := by simp
  have g3' : decide ((m2 : Int) ≤ j) = false := by simpa using g3
  have hj' : (j : Int) < m2 := by omega
  obtain ⟨q, hq⟩ : ∃ q, q = (bloL f s)[j] := ⟨_, rfl⟩
  rw [← hq] at hc9 HN
  clear g1 g2 g3 hq hjl
  go_wp2
  go_ret2
  rw [HE.out, HN.out]
  exact ⟨rfl, HB_w2.out⟩

set_option maxHeartbeats 2000000 in
set_option maxRecDepth 100000 in
theorem get_fs (x : FsV) (f : Fsd) (s : List UInt8) (i : Int) (w : World) (h : RdX w x f) (hw : WfX f) :
    Calls Tryz.prog 16 #[x.val, .string (bs s), .int .i64 i] w fun e w' => ∃ v, e = .returned (.tuple #[v, .int .i64 (getE f s i)]) ∧ OwB w' w.heap.size v (getL f s i) ∧ Below w.heap.size w w' := by
  have HW := hide hw
  clear hw
  obtain ⟨w1, ew⟩ : ∃ w1, w.alloc (.cells x.cs 33) = w1 := ⟨_, rfl⟩
  have hb1 : Below w.heap.size w w1 := by rw [← ew]; exact (Below.refl _ _).alloc (Nat.le_refl _) _
  have HF_w1 := hide (show FsAt w1 w.heap.size x by rw [← ew]; exact Bq.new _ _ _)
  obtain ⟨k0, k1, k2, k3, k4, k5⟩ := fs_cells HF_w1.out
  have HX := hide h
  have HB_w1 := hide hb1
  clear h hb1
  unfold FsV.val
  unfold FsV.cs at ew
  go_enter Tryz.func16, Tryz.ntmps16
  go_wp2_with fail
  refine (check_fs x f w1 (HX.out.carry HB_w1.out) HW.out).mono ?_
  rintro e w2 ⟨rfl, hb2⟩
  have HF_w2 := hide (HF_w1.out.carry hb2)
  have HB_w2 := hide (show Below w.heap.size w w2 from HB_w1.out.trans (hb2.mono HB_w1.out.size))
  clear k0 k1 k2 k3 k4 k5 ew hb2
  obtain ⟨k0, k1, k2, k3, k4, k5⟩ := fs_cells HF_w2.out
  rcases (fsE_cases f).symm with ⟨_, g1⟩ | ⟨_, g1⟩
  · rw [g1]
    have HE := hide (show getE f s i = 8 ∧ getL f s i = [] by unfold getE getL; rw [if_pos (by rw [g1]; decide), if_pos (by rw [g1]; decide)]; exact ⟨g1, rfl⟩)
    clear g1
    go_wp2
    go_ret2
    rw [HE.out.1, HE.out.2]
    exact ⟨_, rfl, World.ownsRow_nil _ _ _ _, HB_w2.out⟩
  rw [g1]
  have HE := hide (show getE f s i = (if atE f s i ≠ 0 then atE f s i else (readD f.1 (atN f s i)).2) ∧ getL f s i = (if atE f s i ≠ 0 then [] else (readD f.1 (atN f s i)).1) by constructor <;> simp [getE, getL, g1])
  clear g1
  go_wp2_with fail
  refine (blockAt_fs x f s i w2 (HX.out.carry HB_w2.out) HW.out).mono ?_
  rintro e w3 ⟨rfl, hb3⟩
  have HF_w3 := hide (HF_w2.out.carry hb3)
  have HB_w3 := hide (show Below w.heap.size w w3 from HB_w2.out.trans (hb3.mono HB_w2.out.size))
  clear k0 k1 k2 k3 k4 k5 hb3
  by_cases g2 : ¬ atE f s i = 0
  · rw [if_pos g2, if_pos g2] at HE
    go_wp2
    go_ret2
    rw [HE.out.1, HE.out.2]
    exact ⟨_, rfl, World.ownsRow_nil _ _ _ _, HB_w3.out⟩
  rw [if_neg g2, if_neg g2] at HE
  rw [Decidable.not_not] at g2
  rw [g2]
  clear g2
  obtain ⟨k0, k1, k2, k3, k4, k5⟩ := fs_cells HF_w3.out
  go_wp2_with fail
  refine (read_any (d := f.1) (atN f s i) w3 (HX.out.d.carry HB_w3.out)).mono ?_
  rintro e w4 ⟨v4, rfl, ho4, hb4⟩
  have HB_w4 := hide (show Below w.heap.size w w4 from HB_w3.out.trans (hb4.mono HB_w3.out.size))
  have HO4 := hide (ho4.mono HB_w3.out.size)
  clear k0 k1 k2 k3 k4 k5 hb4 ho4
  go_wp2
  go_ret2
  rw [HE.out.1, HE.out.2]
  exact ⟨_, rfl, HO4.out, HB_w4.out⟩

end Go.Proofs.YtnigdbhjaoeblaaGreat
namespace Go.Proofs.YtnigdbhjaoeblaaGreat
open Go.RowKit
set_option linter.unusedVariables false
set_option linter.unusedSimpArgs false

theorem takeL_wf {a b : Int} {l : List Ex} {w : Int} (ha : 0 ≤ a) (h : takeE a b l w = 0) : ∀ x ∈ takeL a b l w, wfX x := by
  obtain ⟨f1, f2, r, f3, f4⟩ := takeE_ok h
  obtain ⟨r1, r2, r3⟩ := freeL_rise f1
  obtain ⟨g1, g2, g3, g4⟩ := freeE_ok f1
  rcases cutX_spec (freeL a b l) w f2 (fun x hx => (r1.1 x hx).2.1) with ⟨k1, _⟩ | ⟨p, x, q, c, k1, k2, k3, k4, k5⟩
  · rw [k1] at f3; cases f3
  rw [k2] at f3
  cases f3
  have hri : riseX a b (p ++ [(x.1, c)]) := take_parts (q := q) (x := x) (y := (x.1, c)) (k1 ▸ r1) rfl k3 k4
  rw [f4]
  intro y hy
  have := hri.1 y hy
  unfold wfX
  omega

end Go.Proofs.YtnigdbhjaoeblaaGreat
namespace Go.Proofs.YtnigdbhjaoeblaaGreat
open Go.RowKit
set_option linter.unusedVariables false
set_option linter.unusedSimpArgs false

/-- How far the document's Take has come: so many whole extents, and so many blocks still to go; or all is taken. -/
def TkSt (L : List Ex) (W : Int) (i : Nat) (Z : Int) (O : List Ex) : Prop := (Z = W - manyX (L.take i) ∧ 1 ≤ Z ∧ O = L.take i) ∨ (Z = 0 ∧ cutX L W = some O)
theorem TkSt.last {L : List Ex} {W Z : Int} {i : Nat} {O : List Ex} (h : TkSt L W i Z O) (hi : i < L.length) (hz : 0 < Z) (hp : ∀ x ∈ L, 1 ≤ x.2) (hle : Z ≤ (L[i]).2) : TkSt L W (i + 1) 0 (O ++ [((L[i]).1, Z)]) := by
  rcases h with ⟨h1, h2, rfl⟩ | ⟨h1, _⟩
  · refine .inr ⟨rfl, ?_⟩
    rw [cutX_here (w := W) hi (by omega) hp (by omega), h1]
  · omega
theorem TkSt.more {L : List Ex} {W Z : Int} {i : Nat} {O : List Ex} (h : TkSt L W i Z O) (hi : i < L.length) (hz : 0 < Z) (hlt : (L[i]).2 < Z) : TkSt L W (i + 1) (Z - (L[i]).2) (O ++ [((L[i]).1, (L[i]).2)]) := by
  rcases h with ⟨h1, h2, rfl⟩ | ⟨h1, _⟩
  · refine .inl ⟨?_, by omega, ?_⟩
    · rw [take_snoc L i hi, manyX_snoc]; omega
    · rw [take_snoc L i hi]
  · omega

end Go.Proofs.YtnigdbhjaoeblaaGreat
namespace Go.Proofs.YtnigdbhjaoeblaaGreat
open Go.RowKit Go.Deep
set_option linter.unusedVariables false
set_option linter.unusedSimpArgs false

theorem Tryz.cellsInE : Tryz.prog.cellsOf 3 = 1 := by kernel_rfl
theorem Tryz.cellsExE : Tryz.prog.cellsOf 166 = 2 := by kernel_rfl

set_option maxRecDepth 100000 in
theorem open_exts {H : Type} {enc : TypeId × Value → H} {W : World} {base : Nat} {spare : Nat → Bool} {held : Bool} {fuel : Nat} {u : Value} {x : DataW H × List MemPlace}
    (h : DataW.trod enc Tryz.prog W base spare held fuel 90 [u] = some x) : ∃ l : List Ex, RdE W u l ∧ ∀ x ∈ l, wfX x := by
  rcases open_slice Tryz.underlying90 h with ⟨hcs, _⟩ | ⟨ad, len, cap, m, n, D, Pl, hcs, _, hl, hm, hmm, _, hx⟩
  · simp at hcs
    subst hcs
    exact ⟨[], .inl ⟨rfl, .inl rfl⟩, by simp⟩
  · simp at hcs
    subst hcs
    by_cases h0 : len = 0
    · subst h0
      exact ⟨[], .inl ⟨rfl, .inr ⟨_, _, rfl⟩⟩, by simp⟩
    have hlm : len ≤ m := by rw [hmm]; split <;> omega
    rw [Tryz.cellsExE] at hx
    have each : ∀ i, i < len → ∃ p : Ex, W.cell? (ad.add (i * 2)) = some (.int .i64 p.1) ∧ W.cell? ((ad.add (i * 2)).add 1) = some (.int .i64 p.2) ∧ wfX p := by
      intro i hi
      obtain ⟨cs', h1, h2⟩ := hx i (by omega)
      obtain ⟨_, hlen, hcell⟩ := World.cells?_some h1
      obtain ⟨y0, y1, k, _, _, g0, g1⟩ := Go.ChangeShapes.trod_struct2 Tryz.underlying166 h2
      match cs', hlen with
      | [c0, c1], _ =>
        simp only [Tryz.cellsInE, List.drop_zero, List.drop_succ_cons, List.take_succ_cons, List.take_zero] at g0 g1
        obtain ⟨n0, e0, _, hw0⟩ := DataW.trod_int Tryz.underlying3 g0
        obtain ⟨n1, e1, _, hw1⟩ := DataW.trod_int Tryz.underlying3 g1
        simp at e0 e1
        subst e0 e1
        obtain ⟨b0, b1⟩ := bounds_i64 hw0
        obtain ⟨b2, b3⟩ := bounds_i64 hw1
        have k0 := hcell 0 (by omega)
        have k1 := hcell 1 (by omega)
        refine ⟨(n0, n1), ?_, ?_, by dsimp only [wfX]; omega⟩
        · rw [show ad.add (i * 2) = (ad.add (i * 2)).add 0 by simp [Addr.add]]; simpa using k0
        · rw [k1]; simp
    obtain ⟨f, hf⟩ := choose_lt each
    have hspot : ∃ b off, ad = ⟨b, off, none⟩ := by
      obtain ⟨b, off, spot⟩ := ad
      have := World.cell?_spot (hf 0 (by omega)).1
      have hs : spot = none := by simpa [Addr.add] using this
      subst hs
      exact ⟨b, off, rfl⟩
    obtain ⟨b, off, rfl⟩ := hspot
    refine ⟨(List.range len).map f, .inr ⟨b, off, cap, by simp, by simpa using hl, hm, fun j hj => ?_⟩, fun x hx => ?_⟩
    · have hj' : j < len := by simpa using hj
      have := hf j hj'
      rw [Addr.add_lit, Addr.add_lit] at this
      simpa using ⟨this.1, this.2.1⟩
    · simp only [List.mem_map, List.mem_range] at hx
      obtain ⟨j, hj, rfl⟩ := hx
      exact (hf j hj).2.2

end Go.Proofs.YtnigdbhjaoeblaaGreat
namespace Go.Proofs.YtnigdbhjaoeblaaGreat
open Go.RowKit
set_option linter.unusedVariables false
set_option linter.unusedSimpArgs false

theorem freeL_len (A B : Int) (l : List Ex) : (freeL A B l).length ≤ 4096 := by
  by_cases h : freeE A B l = 0
  · exact (freeL_rise h).2.2
  · rw [freeL_all h]; simp
theorem cutX_len : ∀ (l : List Ex) (w : Int) (r : List Ex), cutX l w = some r → r.length ≤ l.length
  | [], w, r, h => by cases h
  | x :: l, w, r, h => by
    rw [cutX_cons] at h
    split at h
    · cases h; simp
    · rw [Option.map_eq_some_iff] at h
      obtain ⟨r', h1, rfl⟩ := h
      have := cutX_len l _ r' h1
      simp; omega
theorem takeL_len (A B : Int) (l : List Ex) (w : Int) : (takeL A B l w).length ≤ 4096 := by
  unfold takeL
  split
  · simp
  · split
    · simp
    · cases h : cutX (freeL A B l) w with
      | none => simp
      | some r =>
        have := cutX_len _ _ _ h
        have := freeL_len A B l
        simp only [Option.getD_some]; omega
/-- A write into another row leaves this one. -/
theorem OwE.other {w w' : World} {base g : Nat} {v : Value} {l : List Ex} (h : OwE w base v l) (hg : w.grownBy w' (some g)) (hlt : g < base) : OwE w' base v l :=
  World.ownsRow.kept h hg (by
    cases hv : v.ownBlock with
    | none => exact .inl rfl
    | some k => right; intro e; have := (World.ownsRow.lt h k hv).1; cases e; omega)

end Go.Proofs.YtnigdbhjaoeblaaGreat

/-
  What the statement MountTorn answers.
-/
import Derived.Test.YtnigdbhjaoeblaaGreatLFs5
import Derived.Test.YtnigdbhjaoeblaaGreatFiRef8
import Derived.Test.YtnigdbhjaoeblaaGreatRegP
namespace Go.Proofs.YtnigdbhjaoeblaaGreat
open Go.RowKit
set_option linter.unusedVariables false
set_option linter.unusedSimpArgs false

def Got (w : World) (z : FsV) (X : Fsd) (y : FsV) (F : Fsd) : Prop := (y = z ∧ F = X) ∨ RdT w y F
theorem Got.kt {w w' : World} {z : FsV} {X : Fsd} {y : FsV} {F : Fsd} (h : Got w z X y F) (hk : Kt w w') : Got w' z X y F := by
  rcases h with h | h
  · exact .inl h
  · exact .inr (h.kt hk)
theorem Got.carry {w w' : World} {z : FsV} {X : Fsd} {y : FsV} {F : Fsd} (h : Got w z X y F) (hb : Below w.heap.size w w') : Got w' z X y F := h.kt (Kt.below hb)
theorem Got.rd {w : World} {z : FsV} {X : Fsd} {y : FsV} {F : Fsd} (h : Got w z X y F) (hz : RdT w z X) : RdT w y F := by
  rcases h with ⟨rfl, rfl⟩ | h
  · exact hz
  · exact h
theorem FsB.kt {w : World} {q : Nat} (h : FsB w q) {w' : World} (hg : w.grownBy w' (some q)) : Kt w w' := by
  obtain ⟨v0, v1, v2, v3, v4, v5, hq⟩ := h
  exact Kt.grown hg hq (.inl rfl)
theorem does_got {x : FsV} {f : Fsd} {st : St} {ab : Option Addr} {nb cb : Nat} {w : World} (h : RdT w x f) (hw : WfX f) (hb : Rd w (.slice ab nb cb) st.2.2.2.2) (hk : st.1 < 256) :
    Calls Tryz.prog 62 #[x.val, .agg #[.int .u8 st.1, .string (bs st.2.1), .string (bs st.2.2.1), .int .i64 st.2.2.2.1, .slice ab nb cb]] w fun e w' => ∃ v, e = .returned v ∧ ∃ y : FsV, v = y.val ∧ Got w' x f y (stepS f st) ∧ Below w.heap.size w w' := by
  refine (does7_any x f st.1 st.2.1 st.2.2.1 st.2.2.2.1 ab nb cb st.2.2.2.2 w h.rd hw hb hk).mono ?_
  rintro e w' ⟨y, rfl, hg, hbb⟩
  refine ⟨_, rfl, y, rfl, ?_, hbb⟩
  rcases hg.out with hg | hg
  · exact .inl hg
  · exact .inr hg.rdt
theorem RdA.take {w : World} {a : Option Addr} {n c : Nat} {l : List Ac} (h : RdA w (.slice a n c) l) (j : Nat) (hj : j ≤ l.length) : RdA w (.slice a j c) (l.take j) := by
  rcases h with ⟨rfl, h⟩ | ⟨b, off, c', e, h1, h2, h3⟩
  · have hj : j = 0 := by simpa using hj
    subst hj
    rcases h with h | ⟨a', c2, h⟩
    · cases h; exact .inl ⟨by simp, .inl rfl⟩
    · cases h; exact .inl ⟨by simp, .inr ⟨_, _, rfl⟩⟩
  · cases e
    have e : (l.take j).length = j := by rw [List.length_take]; omega
    refine .inr ⟨b, off, c, by rw [e], by rw [e]; omega, h2, fun i hi => ?_⟩
    rw [e] at hi
    have := h3 i (by omega)
    rw [List.getElem_take]
    exact this
theorem RdA.cap {w : World} {a : Option Addr} {n c : Nat} {l : List Ac} (h : RdA w (.slice a n c) l) : n ≤ c := by
  rcases h with ⟨rfl, h⟩ | ⟨b, off, c', e, h1, h2, h3⟩
  · rcases h with h | ⟨a', c2, h⟩ <;> cases h <;> exact Nat.zero_le _
  · cases e; exact h1
theorem DirsT.at {w : World} {base : Nat} {a : Option Addr} {n c : Nat} {L : List (List Fl)} (h : DirsT w base (.slice a n c) L) (j : Nat) (D : List Fl) (hD : L[j]? = some D) : ∃ g, a = some ⟨g, 0, none⟩ ∧ j < n ∧ ∃ a2 c2, w.cell? ⟨g, j, none⟩ = some (.slice a2 D.length c2) ∧ RdF w (.slice a2 D.length c2) D := by
  obtain ⟨ps, h1, h2, h3⟩ := h
  obtain ⟨hj, -⟩ := List.getElem?_eq_some_iff.1 hD
  rcases h2.2 with ⟨e, h4⟩ | ⟨g, cap, cur, e, e1, e2, e3, e4, e5, e6⟩
  · omega
  · cases e
    obtain ⟨u, hu⟩ : ∃ u, ps[j]? = some u := ⟨_, List.getElem?_eq_getElem (by omega)⟩
    obtain ⟨a2, c2, e7, h5⟩ := h3 j u D hu hD
    refine ⟨g, rfl, hj, a2, c2, ?_, ?_⟩
    · have := h2.cells (g := g) rfl j u hu
      rw [← e7]
      simpa [Addr.add_lit] using this
    · rw [← e7]; exact h5 w (Kt.refl w)
theorem clear_ok {f : Fsd} (h : fsE f = 0) : (clearFs f).2 = 0 ∧ okFs (clearFs f).1 ∧ (clearFs f).1.1.2.2 = [] := by
  have hok := fsE_ok h
  have e := clear_is f
  rw [if_neg (by rw [h]; decide)] at e
  rw [e]
  refine ⟨rfl, ?_, rfl⟩
  obtain ⟨h1, h2, h3, h4⟩ := okFs_disk hok
  have hd : okD ((f.1.1, f.1.2.1, []) : Dk) = true := by
    obtain ⟨p1, p2, p3, p4, p5, p6, p7⟩ := (okD_iff f.1).1 h1
    exact (okD_iff _).2 ⟨p1, p2, p3, p4, by simp, p6, by simp⟩
  exact ok_same (f := f) (d := (f.1.1, f.1.2.1, [])) hok hd rfl (fun _ _ => rfl) hok.2.2.1 hok.2.2.2.2.2
theorem clear_no {f : Fsd} (h : fsE f ≠ 0) : (clearFs f).2 ≠ 0 := by
  rw [clear_is, if_pos h]; exact h
def Torn (w0 wr : World) (b : Nat) (p4 p12 : Nat) (xf : FsV) (fa : Fsd) (z : FsV) (X : Fsd) (L : List (List Fl)) (v : Value) : Prop := TornInv fa X L ∧ RdT wr z X ∧ RdT wr xf fa ∧ DirsT wr b v L ∧ FsAt wr p12 z ∧ FsAt wr p4 xf ∧ Below w0.heap.size w0 wr
theorem torn_next {fa X F : Fsd} {L : List (List Fl)} (h : TornInv fa X L) (st : St) (hF : F = stepS X st) : TornInv fa F (if F.2.1 = X.2.1 then L else L ++ [F.2.2.2]) := by
  subst hF
  exact h.step (step_ok h.ok _ _ _ _ _)

theorem Bq.grownT {w w' : World} {p : Nat} {t : TypeId} {cs : Array Value} {row : Option Nat} (h : Bq w p t cs) (hg : w.grownBy w' row) (hne : row ≠ some p) : Bq w' p t cs := by
  unfold Bq at *
  rw [hg.block p (by obtain ⟨hk, -⟩ := Array.getElem?_eq_some_iff.1 h; exact hk) (fun e => hne e.symm)]
  exact h

set_option maxHeartbeats 16000000 in
set_option maxRecDepth 100000 in
theorem mountTorn_any (x : FsV) (f : Fsd) (a : Option Addr) (n c : Nat) (l : List St) (many : Int) (ka : Option Addr) (kn kc : Nat) (K : List Bool) (w : World) (h : RdX w x f) (hw : WfX f) (hs : (∀ g ∈ f.2.2.1, g.2.length ≤ 140737488355328) ∧ ∀ g ∈ f.2.2.2, g.2.length ≤ 140737488355328) (hl : RdS w (.slice a n c) l) (hn : n = l.length) (hK : RdK w (.slice ka kn kc) K) (hkn : kn = K.length) :
    Calls Tryz.prog 10 #[x.val, .slice a n c, .int .i64 many, .slice ka kn kc] w fun e w' => e = .returned (.bool true) ∧ Below w.heap.size w w' := by
  have HX := hide h
  have HW := hide hw
  have HSZ := hide hs
  have HS := hide hl
  have HN := hide hn
  have HKR := hide hK
  have HKN := hide hkn
  clear h hw hs hl hn hK hkn
  obtain ⟨w1, ew⟩ : ∃ w1, w.alloc (.cells x.cs 33) = w1 := ⟨_, rfl⟩
  have hb1 : Below w.heap.size w w1 := by rw [← ew]; exact (Below.refl _ _).alloc (Nat.le_refl _) _
  have HFf_w1 := hide (show FsAt w1 w.heap.size x by rw [← ew]; exact Bq.new _ _ _)
  have HB_w1 := hide hb1
  clear hb1
  unfold FsV.val
  unfold FsV.cs at ew
  go_enter Tryz.func10, Tryz.ntmps10
  have hcon := alive7_any w1
  go_wp2_with fail
  try rw [ew]
  refine hcon.mono ?_
  rintro e w2 ⟨rfl, hbb⟩
  have HFf_w2 := hide (HFf_w1.out.carry hbb)
  have HB_w2 := hide (show Below w.heap.size w w2 from HB_w1.out.trans (hbb.mono HB_w1.out.size))
  clear hcon hbb
  try clear ew
  obtain ⟨kf0, kf1, kf2, kf3, kf4, kf5⟩ := fs_cells HFf_w2.out
  have hcon := great6_any x f w2 (HX.out.carry HB_w2.out) ⟨fun g hg => by have := HSZ.out.1 g hg; omega, fun g hg => by have := HSZ.out.2 g hg; omega⟩
  go_wp2_with fail
  refine hcon.mono ?_
  rintro e w3 ⟨r, rfl, -, hbb⟩
  have HFf_w3 := hide (HFf_w2.out.carry hbb)
  have HB_w3 := hide (show Below w.heap.size w w3 from HB_w2.out.trans (hbb.mono HB_w2.out.size))
  clear hcon hbb kf0 kf1 kf2 kf3 kf4 kf5
  cases r with
  | true =>
    go_wp2
    go_ret
    exact ⟨rfl, HB_w3.out⟩
  | false =>
  obtain ⟨kf0, kf1, kf2, kf3, kf4, kf5⟩ := fs_cells HFf_w3.out
  by_cases g1 : 10000 < x.n1
  · have g1' : (10000 : Int) < x.n1 := by omega
    go_wp2
    go_ret
    exact ⟨rfl, HB_w3.out⟩
  have g1' : decide ((10000 : Int) < x.n1) = false := decide_eq_false (by omega)
  clear g1
  have hcon := heavy7_any a n c l w3 (HS.out.carry HB_w3.out) HN.out
  go_wp2_with fail
  refine hcon.mono ?_
  rintro e w4 ⟨r, rfl, H30, hbb⟩
  have HFf_w4 := hide (HFf_w3.out.carry hbb)
  have HB_w4 := hide (show Below w.heap.size w w4 from HB_w3.out.trans (hbb.mono HB_w3.out.size))
  clear hcon hbb kf0 kf1 kf2 kf3 kf4 kf5 g1'
  cases r with
  | true =>
    go_wp2
    go_ret
    exact ⟨rfl, HB_w4.out⟩
  | false =>
  have HL30 := hide (H30.out rfl)
  clear H30
  by_cases g2 : 1000 < kn
  · have g2' : (1000 : Int) < kn := by omega
    go_wp2
    go_ret
    exact ⟨rfl, HB_w4.out⟩
  have g2' : decide ((1000 : Int) < kn) = false := decide_eq_false (by omega)
  clear g2
  obtain ⟨kf0, kf1, kf2, kf3, kf4, kf5⟩ := fs_cells HFf_w4.out
  have hcon := clear_fs x f w4 (HX.out.carry HB_w4.out) HW.out
  go_wp2_with fail
  refine hcon.mono ?_
  rintro e w5 ⟨v9, rfl, ho, hbb⟩
  have HFf_w5 := hide (HFf_w4.out.carry hbb)
  have HB_w5 := hide (show Below w.heap.size w w5 from HB_w4.out.trans (hbb.mono HB_w4.out.size))
  clear hcon hbb g2' kf0 kf1 kf2 kf3 kf4 kf5
  obtain ⟨xf, e9, hx9, ho9⟩ := ho.bx
  subst e9
  have hst := (ho9.mono HB_w4.out.size).assign (FsB.of HFf_w5.out) HB_w5.out (Nat.le_refl _)
  obtain ⟨⟨d0, e0⟩, ⟨d1, e1⟩, ⟨d2, e2⟩, ⟨d3, e3⟩, ⟨d4, e4⟩, ⟨d5, e5⟩, ff⟩ := (FsB.of HFf_w5.out).cells
  have f0 := ff 0
  have f1 := ff 1
  have f2 := ff 2
  have f3 := ff 3
  have f4 := ff 4
  have f5 := ff 5
  obtain ⟨w9, ew9⟩ : ∃ wq, set6 w5 w.heap.size xf = wq := ⟨_, rfl⟩
  rw [ew9] at hst
  have HO_w9 := hide hst.1
  have HB_w9 := hide hst.2.1
  have HFf_w9 := hide hst.2.2.1
  unfold set6 at ew9
  clear hst ff ho hx9 ho9
  unfold FsV.val
  by_cases g3 : ¬ fsE f = 0
  · have g4 := clear_no g3
    go_wp2
    go_ret
    exact ⟨rfl, by first | exact HB_w9.out | (rw [ew9]; exact HB_w9.out)⟩
  rw [Decidable.not_not] at g3
  obtain ⟨hc1, hc2, hc3⟩ := clear_ok g3
  rw [hc1]
  obtain ⟨fa, hfa⟩ : ∃ fa, fa = (clearFs f).1 := ⟨_, rfl⟩
  rw [← hfa] at HO_w9 hc2 hc3
  have HOK := hide hc2
  have HINV := hide (TornInv.init hc2 hc3)
  clear g3 hc1 hc2 hc3 hfa HFf_w5
  have HT_w9 := hide HO_w9.out.rdt
  obtain ⟨k0, k1, k2, k3, k4, k5⟩ := fs_cells HFf_w9.out
  obtain ⟨wa, ewa⟩ : ∃ wq, w9.alloc (.cells #[.slice xf.a5 xf.n5 xf.c5] 31) = wq := ⟨_, rfl⟩
  have hba : Below w9.heap.size w9 wa := by rw [← ewa]; exact (Below.refl _ _).alloc (Nat.le_refl _) _
  have HD_wa := hide (show DirsT wa w9.heap.size (.slice (some ⟨w9.heap.size, 0, none⟩) 1 1) [fa.2.2.2] by rw [← ewa]; exact DirsT.one w9 xf fa HT_w9.out)
  obtain ⟨wb, ewb⟩ : ∃ wq, wa.alloc (.cells xf.cs 33) = wq := ⟨_, rfl⟩
  have hbb : Below wa.heap.size wa wb := by rw [← ewb]; exact (Below.refl _ _).alloc (Nat.le_refl _) _
  obtain ⟨p12, hp12⟩ : ∃ q, q = wa.heap.size := ⟨_, rfl⟩
  have HZ := hide (show FsAt wb p12 xf by rw [← ewb, hp12]; exact Bq.new _ _ _)
  have hb2 := hba.trans (hbb.mono hba.size)
  have HB_wb := hide (show Below w.heap.size w wb from HB_w9.out.trans (hb2.mono HB_w9.out.size))
  have HLT := hide (show w.heap.size < p12 by rw [hp12]; have := HFf_w9.out.lt; have := hba.size; omega)
  have HT0 := hide (show Torn w wb w.heap.size w.heap.size p12 xf fa xf fa [fa.2.2.2] (.slice (some ⟨w9.heap.size, 0, none⟩) 1 1) from ⟨HINV.out, HT_w9.out.carry hb2, HT_w9.out.carry hb2, (show DirsT wb w.heap.size _ _ from by obtain ⟨ps, y1, y2, y3⟩ := HD_wa.out.carry hbb; exact ⟨ps, y1, own_mono y2 HB_w9.out.size, y3⟩), HZ.out, HFf_w9.out.carry hb2, HB_wb.out⟩)
  obtain ⟨l0, l1, l2, l3, l4, l5⟩ := fs_cells (show FsAt wa w.heap.size xf from HFf_w9.out.carry hba)
  clear hba hbb hb2 HD_wa HINV HT_w9 HO_w9 HZ
  unfold FsV.cs at ewb
  go_wp2_with fail
  try rw [ew9]
  try rw [ewa]
  try rw [ewb]
  try rw [← hp12]
  clear ew9 ewa ewb hp12 k0 k1 k2 k3 k4 k5 l0 l1 l2 l3 l4 l5 e0 e1 e2 e3 e4 e5 f0 f1 f2 f3 f4 f5
  go_loopw [13, 11] (fun i v wr => ∃ (k : Nat) (z : FsV) (X : Fsd) (L : List (List Fl)) (va : Option Addr) (m vc : Nat), k ≤ n ∧ i = .int .i64 k ∧ v = .slice va m vc ∧ m ≤ k + 1 ∧ Hid (m = L.length) ∧ Hid (Torn w wr w.heap.size w.heap.size p12 xf fa z X L (.slice va m vc))) (fun i _ _ => n - (intOf i).toNat)
  case atStart => exact ⟨0, xf, fa, [fa.2.2.2], _, 1, 1, Nat.zero_le _, rfl, rfl, Nat.le_refl _, hide rfl, HT0⟩
  case round =>
    obtain ⟨k, z, X, L, va, m, vc, hk, rfl, rfl, hm, HM, HT⟩ := hrel
    have HZ_wr := hide HT.out.2.2.2.2.1
    have HB_wr := hide HT.out.2.2.2.2.2.2
    have hn30 := HL30.out
    by_cases hlt : k < n
    · have hlt' : (k : Int) < n := by omega
      have hkl : k < l.length := by have := HN.out; omega
      obtain ⟨b, off, rfl, c0, q0, q1, q2, q3, a2, c2, q4, q5⟩ := HS.out.at k hkl
      obtain ⟨st, hst⟩ : ∃ st, st = l[k] := ⟨_, rfl⟩
      rw [← hst] at c0 q0 q1 q2 q3 q4 q5
      clear hst
      obtain ⟨nb, hnb⟩ : ∃ nb, nb = st.2.2.2.2.length := ⟨_, rfl⟩
      rw [← hnb] at q4 q5
      clear hnb
      have HC0 := hide c0
      have HQ := hide (show (w.cell? ⟨b, off + k * 5, none⟩ = some (.int .u8 st.1) ∧ w.cell? ⟨b, off + k * 5 + 1, none⟩ = some (.string (bs st.2.1))) ∧ (w.cell? ⟨b, off + k * 5 + 2, none⟩ = some (.string (bs st.2.2.1)) ∧ w.cell? ⟨b, off + k * 5 + 3, none⟩ = some (.int .i64 st.2.2.2.1)) ∧ w.cell? ⟨b, off + k * 5 + 4, none⟩ = some (.slice a2 nb c2) from ⟨⟨q0, q1⟩, ⟨q2, q3⟩, q4⟩)
      have HQ5 := hide q5
      clear c0 q0 q1 q2 q3 q4 q5
      obtain ⟨F, hF⟩ : ∃ F, F = stepS X st := ⟨_, rfl⟩
      have HF := hide hF
      clear hF
      have q0 := keeps_cell _ _ _ _ HQ.out.1.1 HB_wr.out
      have q1 := keeps_cell _ _ _ _ HQ.out.1.2 HB_wr.out
      have q2 := keeps_cell _ _ _ _ HQ.out.2.1.1 HB_wr.out
      have q3 := keeps_cell _ _ _ _ HQ.out.2.1.2 HB_wr.out
      have q4 := keeps_cell _ _ _ _ HQ.out.2.2 HB_wr.out
      obtain ⟨k0, k1, k2, k3, k4, k5⟩ := fs_cells HZ_wr.out
      go_wp2_with fail
      clear q0 q1 q2 q3 q4 k0 k1 k2 k3 k4 k5
      refine region_cut (α := Nat × FsV) (F := fun bx a => ((((((((a.put (some 61) z.val).put (some 62) (.slice (some ⟨b, off, none⟩) n c)).put (some 63) (.int .i64 k)).put (some 64) (.pointer (some ⟨b, off + k * 5, none⟩))).put (some 65) (.agg #[.int .u8 st.1, .string (bs st.2.1), .string (bs st.2.2.1), .int .i64 st.2.2.2.1, .slice a2 nb c2])).put (some 66) bx.2.val).put (some 14) (.pointer (some ⟨bx.1, 0, none⟩))).put none undef)) (R := fun bx wz => FsAt wz bx.1 bx.2 ∧ wr.heap.size ≤ bx.1 ∧ Got wz z X bx.2 F ∧ Below wr.heap.size wr wz) ?regqt ?impqt
      case regqt =>
        have hK : Keeps (fun wx => Below wr.heap.size wr wx) := fun w1 w2 h hb => h.trans (hb.mono h.size)
        have hS0 : (fun wx => Below wr.heap.size wr wx) wr := Below.refl _ _
        refine reg_begin hK (by kernel_rfl) hS0 ?_
        intro hS
        generalize wr.drew = wd at *
        refine reg_take (i := 0) (v := ?qt1v) rfl (by kernel_rfl) (by kernel_rfl) (by kernel_rfl) (by kernel_rfl) ?qt1y hS ?qt1r
        case qt1y => (rintro wx hx; obtain ⟨k0, k1, k2, k3, k4, k5⟩ := fs_cells (HZ_wr.out.carry hx); have hx9 := HB_wr.out.trans (hx.mono HB_wr.out.size); have q0 := keeps_cell _ _ _ _ HQ.out.1.1 hx9; have q1 := keeps_cell _ _ _ _ HQ.out.1.2 hx9; have q2 := keeps_cell _ _ _ _ HQ.out.2.1.1 hx9; have q3 := keeps_cell _ _ _ _ HQ.out.2.1.2 hx9; have q4 := keeps_cell _ _ _ _ HQ.out.2.2 hx9; clear hx9 hx; go_simp; all_goals (with_reducible rfl))
        try simp only [Act.put, List.setIfInBounds_toArray, List.set_cons_zero, List.set_cons_succ]
        refine reg_take (i := 1) (v := ?qt2v) rfl (by kernel_rfl) (by kernel_rfl) (by kernel_rfl) (by kernel_rfl) ?qt2y hS ?qt2r
        case qt2y => (rintro wx hx; obtain ⟨k0, k1, k2, k3, k4, k5⟩ := fs_cells (HZ_wr.out.carry hx); have hx9 := HB_wr.out.trans (hx.mono HB_wr.out.size); have q0 := keeps_cell _ _ _ _ HQ.out.1.1 hx9; have q1 := keeps_cell _ _ _ _ HQ.out.1.2 hx9; have q2 := keeps_cell _ _ _ _ HQ.out.2.1.1 hx9; have q3 := keeps_cell _ _ _ _ HQ.out.2.1.2 hx9; have q4 := keeps_cell _ _ _ _ HQ.out.2.2 hx9; clear hx9 hx; go_simp; all_goals (with_reducible rfl))
        try simp only [Act.put, List.setIfInBounds_toArray, List.set_cons_zero, List.set_cons_succ]
        refine reg_take (i := 2) (v := ?qt3v) rfl (by kernel_rfl) (by kernel_rfl) (by kernel_rfl) (by kernel_rfl) ?qt3y hS ?qt3r
        case qt3y => (rintro wx hx; obtain ⟨k0, k1, k2, k3, k4, k5⟩ := fs_cells (HZ_wr.out.carry hx); have hx9 := HB_wr.out.trans (hx.mono HB_wr.out.size); have q0 := keeps_cell _ _ _ _ HQ.out.1.1 hx9; have q1 := keeps_cell _ _ _ _ HQ.out.1.2 hx9; have q2 := keeps_cell _ _ _ _ HQ.out.2.1.1 hx9; have q3 := keeps_cell _ _ _ _ HQ.out.2.1.2 hx9; have q4 := keeps_cell _ _ _ _ HQ.out.2.2 hx9; clear hx9 hx; go_simp; all_goals (with_reducible rfl))
        try simp only [Act.put, List.setIfInBounds_toArray, List.set_cons_zero, List.set_cons_succ]
        refine reg_take (i := 3) (v := ?qt4v) rfl (by kernel_rfl) (by kernel_rfl) (by kernel_rfl) (by kernel_rfl) ?qt4y hS ?qt4r
        case qt4y => (rintro wx hx; obtain ⟨k0, k1, k2, k3, k4, k5⟩ := fs_cells (HZ_wr.out.carry hx); have hx9 := HB_wr.out.trans (hx.mono HB_wr.out.size); have q0 := keeps_cell _ _ _ _ HQ.out.1.1 hx9; have q1 := keeps_cell _ _ _ _ HQ.out.1.2 hx9; have q2 := keeps_cell _ _ _ _ HQ.out.2.1.1 hx9; have q3 := keeps_cell _ _ _ _ HQ.out.2.1.2 hx9; have q4 := keeps_cell _ _ _ _ HQ.out.2.2 hx9; clear hx9 hx; go_simp; all_goals (with_reducible rfl))
        try simp only [Act.put, List.setIfInBounds_toArray, List.set_cons_zero, List.set_cons_succ]
        refine reg_take (i := 4) (v := ?qt5v) rfl (by kernel_rfl) (by kernel_rfl) (by kernel_rfl) (by kernel_rfl) ?qt5y hS ?qt5r
        case qt5y => (rintro wx hx; obtain ⟨k0, k1, k2, k3, k4, k5⟩ := fs_cells (HZ_wr.out.carry hx); have hx9 := HB_wr.out.trans (hx.mono HB_wr.out.size); have q0 := keeps_cell _ _ _ _ HQ.out.1.1 hx9; have q1 := keeps_cell _ _ _ _ HQ.out.1.2 hx9; have q2 := keeps_cell _ _ _ _ HQ.out.2.1.1 hx9; have q3 := keeps_cell _ _ _ _ HQ.out.2.1.2 hx9; have q4 := keeps_cell _ _ _ _ HQ.out.2.2 hx9; clear hx9 hx; go_simp; all_goals (with_reducible rfl))
        try simp only [Act.put, List.setIfInBounds_toArray, List.set_cons_zero, List.set_cons_succ]
        refine reg_two (i := 5) (j := 6) (by kernel_rfl) ?_ ?_
        · skip
          refine wop_callg (R := fun v wy => ∃ y : FsV, v = y.val ∧ Got wy z X y F ∧ Below wd.heap.size wd wy) rfl (by kernel_rfl) (by go_simp; try rfl) ((HF.out ▸ does_got (st := st) (HT.out.2.1.carry hS) (wf_ok HT.out.1.ok) (HQ5.out.carry (HB_wr.out.trans (hS.mono HB_wr.out.size))) HC0.out)) ?_
          rintro v9 wqt6 ⟨y7, rfl, hg7, hbb⟩
          have hSN := hK _ _ hS hbb
          refine ⟨hSN, ?_⟩
          have Hqt7 := hg7
          clear hg7
          clear hS hbb
          have hS := hSN
          clear hSN
          try simp only [Act.put, List.setIfInBounds_toArray, List.set_cons_zero, List.set_cons_succ]
          obtain ⟨wqt8, ewqt8⟩ : ∃ wN, wqt6.alloc (.cells #[.slice none 0 0, .slice none 0 0, .slice none 0 0, .int .u32 0, .slice none 0 0, .slice none 0 0] 33) = wN := ⟨_, rfl⟩
          have hbb : Below wqt6.heap.size wqt6 wqt8 := by rw [← ewqt8]; exact (Below.refl _ _).alloc (Nat.le_refl _) _
          have hSN := hK _ _ hS hbb
          have Hqt9 := Hqt7.carry hbb
          obtain ⟨Aqt10, hAqt10⟩ : ∃ A, A = wqt6.heap.size := ⟨_, rfl⟩
          have Hqt10 : FsB wqt8 Aqt10 := by rw [← ewqt8, hAqt10]; exact FsB.new wqt6
          have Lqt10 : wr.heap.size ≤ Aqt10 := by rw [hAqt10]; exact hS.size
          refine reg_run (i := 6) (v := .pointer (some ⟨Aqt10, 0, none⟩)) (w' := wqt8) rfl (by kernel_rfl) (by kernel_rfl) (by rw [← ewqt8, hAqt10]; go_simp) hSN ?_
          clear hS hbb ewqt8 hAqt10
          have hS := hSN
          clear hSN
          try simp only [Act.put, List.setIfInBounds_toArray, List.set_cons_zero, List.set_cons_succ]
          obtain ⟨⟨d0, e0⟩, ⟨d1, e1⟩, ⟨d2, e2⟩, ⟨d3, e3⟩, ⟨d4, e4⟩, ⟨d5, e5⟩, ff⟩ := Hqt10.cells
          have f0 := ff 0
          have f1 := ff 1
          have f2 := ff 2
          have f3 := ff 3
          have f4 := ff 4
          have f5 := ff 5
          obtain ⟨hat, hgr⟩ := Hqt10.put y7
          obtain ⟨wqt11, ewqt11⟩ : ∃ wN, set6 wqt8 Aqt10 y7 = wN := ⟨_, rfl⟩
          rw [ewqt11] at hat hgr
          have hSN := hS.grown hgr hS.size (by intro k hk; cases hk; exact Lqt10)
          have hgot := Hqt9.kt (Hqt10.kt hgr)
          unfold set6 at ewqt11
          try dsimp only at ewqt11
          clear hgr ff
          refine reg_unit (i := 7) (w' := wqt11) rfl (by kernel_rfl) (by kernel_rfl) (by rw [← ewqt11]; go_simp) hSN ?_
          clear hS ewqt11 e0 e1 e2 e3 e4 e5 f0 f1 f2 f3 f4 f5
          have hS := hSN
          clear hSN
          try simp only [Act.put, List.setIfInBounds_toArray, List.set_cons_zero, List.set_cons_succ]
          refine wpAnyH_done (by kernel_rfl) ?_ _
          refine NoPanic.normal ?_
          exact ⟨rfl, (Aqt10, y7), by simp only [Act.put, List.setIfInBounds_toArray, List.set_cons_zero, List.set_cons_succ], hat, Lqt10, hgot, hS⟩
        · skip
          obtain ⟨wqt12, ewqt12⟩ : ∃ wN, wd.alloc (.cells #[.slice none 0 0, .slice none 0 0, .slice none 0 0, .int .u32 0, .slice none 0 0, .slice none 0 0] 33) = wN := ⟨_, rfl⟩
          have hbb : Below wd.heap.size wd wqt12 := by rw [← ewqt12]; exact (Below.refl _ _).alloc (Nat.le_refl _) _
          have hSN := hK _ _ hS hbb
          obtain ⟨Aqt13, hAqt13⟩ : ∃ A, A = wd.heap.size := ⟨_, rfl⟩
          have Hqt13 : FsB wqt12 Aqt13 := by rw [← ewqt12, hAqt13]; exact FsB.new wd
          have Lqt13 : wr.heap.size ≤ Aqt13 := by rw [hAqt13]; exact hS.size
          refine wop_run (v := .pointer (some ⟨Aqt13, 0, none⟩)) (w' := wqt12) rfl (by kernel_rfl) (by rw [← ewqt12, hAqt13]; go_simp) ⟨hSN, ?_⟩
          clear hS hbb ewqt12 hAqt13
          have hS := hSN
          clear hSN
          try simp only [Act.put, List.setIfInBounds_toArray, List.set_cons_zero, List.set_cons_succ]
          refine reg_callg (i := 5) (R := fun v wy => ∃ y : FsV, v = y.val ∧ Got wy z X y F ∧ Below wqt12.heap.size wqt12 wy) rfl (by kernel_rfl) (by kernel_rfl) (by go_simp; try rfl) ((HF.out ▸ does_got (st := st) (HT.out.2.1.carry hS) (wf_ok HT.out.1.ok) (HQ5.out.carry (HB_wr.out.trans (hS.mono HB_wr.out.size))) HC0.out)) ?_
          rintro v9 wqt14 ⟨y7, rfl, hg7, hbb⟩
          have hSN := hK _ _ hS hbb
          refine ⟨hSN, ?_⟩
          have Hqt15 := Hqt13.carry hbb
          have Hqt16 := hg7
          clear hg7
          clear hS hbb
          have hS := hSN
          clear hSN
          try simp only [Act.put, List.setIfInBounds_toArray, List.set_cons_zero, List.set_cons_succ]
          obtain ⟨⟨d0, e0⟩, ⟨d1, e1⟩, ⟨d2, e2⟩, ⟨d3, e3⟩, ⟨d4, e4⟩, ⟨d5, e5⟩, ff⟩ := Hqt15.cells
          have f0 := ff 0
          have f1 := ff 1
          have f2 := ff 2
          have f3 := ff 3
          have f4 := ff 4
          have f5 := ff 5
          obtain ⟨hat, hgr⟩ := Hqt15.put y7
          obtain ⟨wqt17, ewqt17⟩ : ∃ wN, set6 wqt14 Aqt13 y7 = wN := ⟨_, rfl⟩
          rw [ewqt17] at hat hgr
          have hSN := hS.grown hgr hS.size (by intro k hk; cases hk; exact Lqt13)
          have hgot := Hqt16.kt (Hqt15.kt hgr)
          unfold set6 at ewqt17
          try dsimp only at ewqt17
          clear hgr ff
          refine reg_unit (i := 7) (w' := wqt17) rfl (by kernel_rfl) (by kernel_rfl) (by rw [← ewqt17]; go_simp) hSN ?_
          clear hS ewqt17 e0 e1 e2 e3 e4 e5 f0 f1 f2 f3 f4 f5
          have hS := hSN
          clear hSN
          try simp only [Act.put, List.setIfInBounds_toArray, List.set_cons_zero, List.set_cons_succ]
          refine wpAnyH_done (by kernel_rfl) ?_ _
          refine NoPanic.normal ?_
          exact ⟨rfl, (Aqt13, y7), by simp only [Act.put, List.setIfInBounds_toArray, List.set_cons_zero, List.set_cons_succ], hat, Lqt13, hgot, hS⟩
      case impqt =>
      rintro ⟨q, y⟩ wz ⟨hat, hlq, hgot, hbz⟩
      try simp only [Act.put, List.setIfInBounds_toArray, List.set_cons_zero, List.set_cons_succ]
      have HY := hide (hgot.rd (HT.out.2.1.carry hbz))
      have HTZ := hide (HT.out.2.1.carry hbz)
      have HXF := hide (HT.out.2.2.1.carry hbz)
      have HDR := hide (HT.out.2.2.2.1.carry hbz)
      have HZ_wz := hide (HZ_wr.out.carry hbz)
      have HFF := hide (HT.out.2.2.2.2.2.1.carry hbz)
      have HB_wz := hide (show Below w.heap.size w wz from HB_wr.out.trans (hbz.mono HB_wr.out.size))
      have HIV := hide (torn_next HT.out.1 st HF.out)
      have HAT := hide hat
      have HLQ := hide (show p12 < q by have := HZ_wr.out.lt; omega)
      have HYG := hide (show y.g = F.2.1 ∧ z.g = X.2.1 from ⟨HY.out.rd.g, HTZ.out.rd.g⟩)
      clear hat hlq hgot hbz HT HZ_wr HB_wr HF HQ HQ5 HC0
      unfold FsV.val
      obtain ⟨j0, j1, j2, j3, j4, j5⟩ := fs_cells HAT.out
      obtain ⟨k0, k1, k2, k3, k4, k5⟩ := fs_cells HZ_wz.out
      by_cases hg : y.g = z.g
      · have HL := hide (show (if F.2.1 = X.2.1 then L else L ++ [F.2.2.2]) = L from if_pos (by have := HYG.out; omega))
        rw [HL.out] at HIV
        have hg' : ((y.g : Nat) : Int) = z.g := by omega
        obtain ⟨⟨d0, e0⟩, ⟨d1, e1⟩, ⟨d2, e2⟩, ⟨d3, e3⟩, ⟨d4, e4⟩, ⟨d5, e5⟩, ff⟩ := (FsB.of HZ_wz.out).cells
        have f0' := ff 0
        have f1' := ff 1
        have f2' := ff 2
        have f3' := ff 3
        have f4' := ff 4
        have f5' := ff 5
        obtain ⟨hat, hgr⟩ := (FsB.of HZ_wz.out).put y
        have hkt := (FsB.of HZ_wz.out).kt hgr
        obtain ⟨wc, ewc⟩ : ∃ wq, set6 wz p12 y = wq := ⟨_, rfl⟩
        rw [ewc] at hat hgr hkt
        have HTE := hide (show Torn w wc w.heap.size w.heap.size p12 xf fa y F L (.slice va m vc) from ⟨HIV.out, HY.out.kt hkt, HXF.out.kt hkt, HDR.out.box hgr (FsB.of HZ_wz.out), hat, HFF.out.grown hgr (by have := HLT.out; omega), HB_wz.out.grown hgr HB_wz.out.size (by intro k hk; cases hk; have := HLT.out; omega)⟩)
        unfold set6 at ewc
        clear hat hgr hkt ff
        rw [hg'] at ewc
        go_wp2
        try rw [ewc]
        clear ewc e0 e1 e2 e3 e4 e5 f0' f1' f2' f3' f4' f5'
        go_roundw
        case rel => exact ⟨k + 1, y, F, L, va, m, vc, by omega, rfl, rfl, by omega, HM, HTE⟩
        case measure => simp only [intOf]; omega
      · have HL := hide (show (if F.2.1 = X.2.1 then L else L ++ [F.2.2.2]) = L ++ [F.2.2.2] from if_neg (by have := HYG.out; omega))
        rw [HL.out] at HIV
        have hg' : ¬ ((y.g : Nat) : Int) = z.g := by omega
        obtain ⟨g7, vc2, wd, hrun, hDr, w7, hb7, ⟨hkt7, hg7⟩, htyp⟩ := app_dir HDR.out HM.out HB_wz.out.size (by omega) y F HY.out
        have hm2 : (L ++ [F.2.2.2]).length = m + 1 := by rw [List.length_append, List.length_singleton, HM.out]
        have hkt := (Kt.below hb7).trans hkt7
        have hstay : ∀ (r : Nat) (u : FsV), FsAt wz r u → FsAt wd r u := fun r u hu => (hu.carry hb7).grownT hg7 (fun e => by
          obtain ⟨-, h2, cs, fr, h3⟩ := htyp r e
          have h4 : wz.heap[r]? = _ := hu
          rw [h3] at h4
          injection h4 with h4
          injection h4 with _ h5 _
          exact absurd h5 (by decide))
        have HBD := hide (show Below w.heap.size w wd from (HB_wz.out.trans (hb7.mono HB_wz.out.size)).grown hg7 (by have := HB_wz.out.size; have := hb7.size; omega) (fun q hq => (htyp q hq).1))
        have HYd := hide (HY.out.kt hkt)
        have HXd := hide (HXF.out.kt hkt)
        have HAd := hide (hstay _ _ HAT.out)
        have HZ_wd := hide (hstay _ _ HZ_wz.out)
        have HFd := hide (hstay _ _ HFF.out)
        have HDd := hide hDr
        have HM2 := hide hm2.symm
        clear hDr hb7 hkt7 hg7 htyp hkt hstay hm2 HY HXF HAT HZ_wz HFF HDR HTZ
        have HY := hide HYd.out
        have HXF := hide HXd.out
        have HFF := hide HFd.out
        have HB_wd := hide HBD.out
        obtain ⟨i0, i1, i2, i3, i4, i5⟩ := fs_cells HAd.out
        obtain ⟨⟨d0, e0⟩, ⟨d1, e1⟩, ⟨d2, e2⟩, ⟨d3, e3⟩, ⟨d4, e4⟩, ⟨d5, e5⟩, ff⟩ := (FsB.of HZ_wd.out).cells
        have f0' := ff 0
        have f1' := ff 1
        have f2' := ff 2
        have f3' := ff 3
        have f4' := ff 4
        have f5' := ff 5
        obtain ⟨hat, hgr⟩ := (FsB.of HZ_wd.out).put y
        have hkt := (FsB.of HZ_wd.out).kt hgr
        obtain ⟨wc, ewc⟩ : ∃ wq, set6 wd p12 y = wq := ⟨_, rfl⟩
        rw [ewc] at hat hgr hkt
        have HTE := hide (show Torn w wc w.heap.size w.heap.size p12 xf fa y F (L ++ [F.2.2.2]) (.slice (some ⟨g7, 0, none⟩) (m + 1) vc2) from ⟨HIV.out, HY.out.kt hkt, HXF.out.kt hkt, HDd.out.box hgr (FsB.of HZ_wd.out), hat, HFF.out.grown hgr (by have := HLT.out; omega), HB_wd.out.grown hgr HB_wd.out.size (by intro k hk; cases hk; have := HLT.out; omega)⟩)
        unfold set6 at ewc
        clear hat hgr hkt ff
        go_wp2_with (at_builtin; refine wpList_runappE rfl (.tmp 72) (.tmp 75) 106 rfl rfl rfl rfl hrun ?_)
        try rw [ewc]
        clear ewc e0 e1 e2 e3 e4 e5 f0' f1' f2' f3' f4' f5'
        go_roundw
        case rel => exact ⟨k + 1, y, F, L ++ [F.2.2.2], (some ⟨g7, 0, none⟩), m + 1, vc2, by omega, rfl, rfl, by omega, HM2, HTE⟩
        case measure => simp only [intOf]; omega
    · have hd : decide ((k : Int) < n) = false := decide_eq_false (by omega)
      have HIV := hide HT.out.1
      have HXR := hide HT.out.2.1
      have HFR := hide HT.out.2.2.1
      have HDR_wr := hide HT.out.2.2.2.1
      have HFf_wr := hide HT.out.2.2.2.2.2.1
      clear HT
      have HRz_wr := hide HXR.out
      have HRf_wr := hide HFR.out
      clear HXR HFR
      obtain ⟨kf0, kf1, kf2, kf3, kf4, kf5⟩ := fs_cells HFf_wr.out
      obtain ⟨kz0, kz1, kz2, kz3, kz4, kz5⟩ := fs_cells HZ_wr.out
      obtain ⟨TD, hTD⟩ : ∃ t, t = tornM fa X many K := ⟨_, rfl⟩
      have hcr := HIV.out.crash many K
      rw [← hTD] at hcr
      have HCR := hide hcr
      clear hcr
      have hcon := mcrash_any xf z fa X many K ka kn kc wr HRf_wr.out.rd (wf_ok HIV.out.okf) HRz_wr.out.rd (wf_ok HIV.out.ok) (HKR.out.carry HB_wr.out) HKN.out
      rw [← hTD] at hcon
      go_wp2_with fail
      refine hcon.mono ?_
      rintro e w21 ⟨v9, rfl, ho, hbb⟩
      have HFf_w21 := hide (HFf_wr.out.carry hbb)
      have HZ_w21 := hide (HZ_wr.out.carry hbb)
      have HDR_w21 := hide (HDR_wr.out.carry hbb)
      have HRz_w21 := hide (HRz_wr.out.carry hbb)
      have HRf_w21 := hide (HRf_wr.out.carry hbb)
      have HB_w21 := hide (show Below w.heap.size w w21 from HB_wr.out.trans (hbb.mono HB_wr.out.size))
      clear hcon hbb kf0 kf1 kf2 kf3 kf4 kf5 kz0 kz1 kz2 kz3 kz4 kz5
      have HM1 := hide (show m ≤ 1000 by omega)
      clear hTD hd hk hlt
      have HN3 := hide (show z.n3 = X.1.2.2.length from HRz_w21.out.rd.n3)
      obtain ⟨ad1, cd1, ad2, cd2, ad3, cd3, e9⟩ := ho.form
      subst e9
      have hrd9 := ho.rd
      clear ho
      generalize (TD.1).1.length = nd1 at *
      generalize (TD.1).2.1.length = nd2 at *
      generalize (TD.1).2.2.length = nd3 at *
      obtain ⟨w22, ew22⟩ : ∃ wq, w21.alloc (.cells #[.slice ad1 nd1 cd1, .slice ad2 nd2 cd2, .slice ad3 nd3 cd3] 27) = wq := ⟨_, rfl⟩
      have hbn : Below w21.heap.size w21 w22 := by rw [← ew22]; exact (Below.refl _ _).alloc (Nat.le_refl _) _
      have HFf_w22 := hide (HFf_w21.out.carry hbn)
      have HZ_w22 := hide (HZ_w21.out.carry hbn)
      have HDR_w22 := hide (HDR_w21.out.carry hbn)
      have HRz_w22 := hide (HRz_w21.out.carry hbn)
      have HRf_w22 := hide (HRf_w21.out.carry hbn)
      have HB_w22 := hide (show Below w.heap.size w w22 from HB_w21.out.trans (hbn.mono HB_w21.out.size))
      have HQd_w22 := hide (show Bq w22 w21.heap.size 27 #[.slice ad1 nd1 cd1, .slice ad2 nd2 cd2, .slice ad3 nd3 cd3] by rw [← ew22]; exact Bq.new _ _ _)
      have HPd_w22 := hide (hrd9.carry hbn)
      clear hrd9 hbn
      rcases HCR.out with ⟨hmn, hT⟩ | ⟨hm0, hm1, d, i, D, hT, hi, hi1, hi2, hi3, hi4, hi5⟩
      · rw [hT]
        clear hT HCR
        obtain ⟨kz0, kz1, kz2, kz3, kz4, kz5⟩ := fs_cells HZ_w22.out
        by_cases g5 : many < 0
        · go_wp2
          go_ret
          exact ⟨rfl, by first | exact HB_w22.out | (rw [ew22]; exact HB_w22.out)⟩
        have g6 : (z.n3 : Int) < many := by have := HN3.out; omega
        have g5' : decide (many < 0) = false := decide_eq_false g5
        clear hmn g5
        go_wp2
        go_ret
        exact ⟨rfl, by first | exact HB_w22.out | (rw [ew22]; exact HB_w22.out)⟩
      obtain ⟨mm, rfl⟩ : ∃ mm : Nat, many = mm := ⟨many.toNat, by omega⟩
      rw [Int.toNat_natCast] at hi1 hi2
      have HI := hide (show (L[i]? = some D ∧ i ≤ cntS (X.1.2.2.take mm) ∧ cntS (X.1.2.2.take mm) ≤ i + 1) ∧ fa.2.1 + i < 4294967296 ∧ okFs (d, fa.2.1 + i, D, D) ∧ openFs d = ((d, fa.2.1 + i, D, D), 0) from ⟨⟨hi, hi1, hi2⟩, hi3, hi4, hi5⟩)
      have HMM := hide (show mm ≤ X.1.2.2.length by omega)
      have hT1 : TD.1 = d := by rw [hT]
      rw [hT]
      rw [hT1] at HPd_w22
      clear hT hT1 HCR hi hi1 hi2 hi3 hi4 hi5 hm0 hm1
      obtain ⟨kd0, kd1, kd2⟩ := dk_cells HQd_w22.out
      have hcon := open_any (d := d) w22 HPd_w22.out
      rw [HI.out.2.2.2] at hcon
      go_wp2_with fail
      try rw [ew22]
      refine hcon.mono ?_
      rintro e w23 ⟨v9, rfl, ho, hbb⟩
      have HFf_w23 := hide (HFf_w22.out.carry hbb)
      have HZ_w23 := hide (HZ_w22.out.carry hbb)
      have HDR_w23 := hide (HDR_w22.out.carry hbb)
      have HRz_w23 := hide (HRz_w22.out.carry hbb)
      have HRf_w23 := hide (HRf_w22.out.carry hbb)
      have HQd_w23 := hide (HQd_w22.out.carry hbb)
      have HPd_w23 := hide (HPd_w22.out.carry hbb)
      have HB_w23 := hide (show Below w.heap.size w w23 from HB_w22.out.trans (hbb.mono HB_w22.out.size))
      clear hcon hbb kd0 kd1 kd2
      try clear ew22
      clear HQd_w23
      clear HPd_w23
      obtain ⟨xo, e9, hx9, ho9⟩ := ho.bx
      subst e9
      obtain ⟨w24, ew24⟩ : ∃ wq, w23.alloc (.cells xo.cs 33) = wq := ⟨_, rfl⟩
      have hbn : Below w23.heap.size w23 w24 := by rw [← ew24]; exact (Below.refl _ _).alloc (Nat.le_refl _) _
      have HFf_w24 := hide (HFf_w23.out.carry hbn)
      have HZ_w24 := hide (HZ_w23.out.carry hbn)
      have HDR_w24 := hide (HDR_w23.out.carry hbn)
      have HRz_w24 := hide (HRz_w23.out.carry hbn)
      have HRf_w24 := hide (HRf_w23.out.carry hbn)
      have HB_w24 := hide (show Below w.heap.size w w24 from HB_w23.out.trans (hbn.mono HB_w23.out.size))
      have HFo_w24 := hide (show FsAt w24 w23.heap.size xo by rw [← ew24]; exact Bq.new _ _ _)
      have HRo_w24 := hide (hx9.carry hbn)
      unfold FsV.cs at ew24
      unfold FsV.val
      clear ho hx9 ho9 hbn
      obtain ⟨ko0, ko1, ko2, ko3, ko4, ko5⟩ := fs_cells HFo_w24.out
      have hcon := check_fs xo (d, fa.2.1 + i, D, D) w24 HRo_w24.out (wf_ok HI.out.2.2.1)
      rw [fsE_of HI.out.2.2.1] at hcon
      go_wp2_with fail
      try rw [ew24]
      refine hcon.mono ?_
      rintro e w25 ⟨rfl, hbb⟩
      have HFf_w25 := hide (HFf_w24.out.carry hbb)
      have HZ_w25 := hide (HZ_w24.out.carry hbb)
      have HDR_w25 := hide (HDR_w24.out.carry hbb)
      have HRz_w25 := hide (HRz_w24.out.carry hbb)
      have HRf_w25 := hide (HRf_w24.out.carry hbb)
      have HFo_w25 := hide (HFo_w24.out.carry hbb)
      have HRo_w25 := hide (HRo_w24.out.carry hbb)
      have HB_w25 := hide (show Below w.heap.size w w25 from HB_w24.out.trans (hbb.mono HB_w24.out.size))
      clear hcon hbb ko0 ko1 ko2 ko3 ko4 ko5
      try clear ew24
      obtain ⟨kz0, kz1, kz2, kz3, kz4, kz5⟩ := fs_cells HZ_w25.out
      have g7 : decide ((z.n3 : Int) < mm) = false := decide_eq_false (by have := HN3.out; have := HMM.out; omega)
      have g8 : mm ≤ z.n3 := by have := HN3.out; have := HMM.out; omega
      have g9 : z.n3 ≤ z.c3 := (show RdA _ (.slice z.a3 z.n3 z.c3) X.1.2.2 from HRz_w25.out.rd.d.d3).cap
      have g10 : mm ≤ z.c3 := by omega
      have hcon := commits7_any z.a3 mm z.c3 (X.1.2.2.take mm) w25 ((show RdA _ (.slice z.a3 z.n3 z.c3) X.1.2.2 from HRz_w25.out.rd.d.d3).take mm HMM.out) (by rw [List.length_take]; have := HMM.out; omega) (by have := ((okD_iff X.1).1 (okFs_disk HIV.out.ok).1).2.2.2.2.1; have := HMM.out; omega)
      go_wp2_with fail
      refine hcon.mono ?_
      rintro e w26 ⟨rfl, hbb⟩
      have HFf_w26 := hide (HFf_w25.out.carry hbb)
      have HZ_w26 := hide (HZ_w25.out.carry hbb)
      have HDR_w26 := hide (HDR_w25.out.carry hbb)
      have HRz_w26 := hide (HRz_w25.out.carry hbb)
      have HRf_w26 := hide (HRf_w25.out.carry hbb)
      have HFo_w26 := hide (HFo_w25.out.carry hbb)
      have HRo_w26 := hide (HRo_w25.out.carry hbb)
      have HB_w26 := hide (show Below w.heap.size w w26 from HB_w25.out.trans (hbb.mono HB_w25.out.size))
      clear hcon hbb kz0 kz1 kz2 kz3 kz4 kz5 g7 g8 g9 g10
      obtain ⟨cc, hcc⟩ : ∃ cc, cc = cntS (X.1.2.2.take mm) := ⟨_, rfl⟩
      rw [← hcc]
      have HCC := hide (show i ≤ cc ∧ cc ≤ i + 1 by rw [hcc]; exact HI.out.1.2)
      clear hcc
      have HG := hide (show xo.g = fa.2.1 + i ∧ xf.g = fa.2.1 from ⟨HRo_w26.out.g, HRf_w26.out.rd.g⟩)
      obtain ⟨gg, ea, hil, a9, c9, q9, r9⟩ := HDR_w26.out.at i D HI.out.1.1
      subst ea
      have HR9 := hide r9
      have HQ9 := hide q9
      have HIL := hide (show i < m ∧ m ≤ 1000 from ⟨hil, HM1.out⟩)
      clear r9 q9 hil
      have hv1 : IntKind.u32.wrap ((xo.g : Int) - xf.g) = i := by have := HG.out; have := HI.out.2.1; simp only [IntKind.wrap_u32]; omega
      have hv2 : wrap64 (i : Int) = i := by have := HIL.out; unfold wrap64; omega
      have hv3 : wrap64 ((cc : Int) - 1) = (cc : Int) - 1 := by have := HIL.out; have := HCC.out; unfold wrap64; omega
      obtain ⟨kf0, kf1, kf2, kf3, kf4, kf5⟩ := fs_cells HFf_w26.out
      obtain ⟨ko0, ko1, ko2, ko3, ko4, ko5⟩ := fs_cells HFo_w26.out
      go_wp2_with fail
      try simp only [hv2]
      clear kf0 kf1 kf2 kf3 kf4 kf5 ko0 ko1 ko2 ko3 ko4 ko5 hv1 hv2
      have u1 : decide ((0 : Int) ≤ i) = true := decide_eq_true (by omega)
      have u2 : decide ((i : Int) < m) = true := decide_eq_true (by have := HIL.out; omega)
      have u3 : decide ((i : Int) ≤ cc) = true := decide_eq_true (by have := HCC.out; omega)
      have u4 : decide ((cc : Int) - 1 ≤ i) = true := decide_eq_true (by have := HCC.out; omega)
      have u7 : decide (i ≤ cc) = true := decide_eq_true (by have := HCC.out; omega)
      have u8 : decide (IntKind.i64.wrap ((cc : Int) - 1) ≤ (i : Int)) = true := decide_eq_true (by rw [IntKind.wrap_i64]; have := HIL.out; have := HCC.out; omega)
      have u9 : i ≤ cc := by have := HCC.out; omega
      have u10 : IntKind.i64.wrap ((cc : Int) - 1) ≤ (i : Int) := of_decide_eq_true u8
      have u5 : (i : Int) < m := by have := HIL.out; omega
      have u6 : i < m := HIL.out.1
      have hK : Keeps (fun wx => Below w26.heap.size w26 wx) := fun w1 w2 h hb => h.trans (hb.mono h.size)
      refine reg_begin hK (by kernel_rfl) (Below.refl _ _) ?_
      intro hS
      refine reg_plan [0, 1, 2, 3, 4, 5, 6, 7, 8, 9, 10, 11, 12, 13, 14, 15, 16, 17, 18, 19, 20, 21, 22, 23, 24, 25, 26, 27, 28] (fuel := 12) (a' := ?qfa1) (by kernel_rfl) (by kernel_rfl) (by kernel_rfl) ?qfp1 hS ?qfn1
      case qfp1 =>
        iterate 29 (apply Yl.cons rfl (by kernel_rfl); focus (rintro wx x1; (obtain ⟨ko0, ko1, ko2, ko3, ko4, ko5⟩ := fs_cells (HFo_w26.out.carry x1)); have q9 := keeps_cell _ _ _ _ HQ9.out x1; clear x1; go_simp; all_goals (with_reducible rfl)); try simp only [Act.put, List.setIfInBounds_toArray, List.set_cons_zero, List.set_cons_succ])
        exact Yl.nil
      refine reg_callv hK (i := 29) (v := .bool true) rfl (by kernel_rfl) (by kernel_rfl) (by go_simp) hS ((same_ref _ _ _ D _ _ _ D _ (HRo_w26.out.carry hS).fl (HRo_w26.out.carry hS).n4 (HR9.out.carry hS) rfl).mono fun e wy ⟨h1, h2⟩ => ⟨by rw [h1, decide_eq_true rfl], h2⟩) ?_
      clear hS
      intro w170 hS
      try simp only [Act.put, List.setIfInBounds_toArray, List.set_cons_zero, List.set_cons_succ]
      refine reg_plan [30, 31, 32, 33, 34, 35, 36, 37] (fuel := 3) (a' := ?qfa2) (by kernel_rfl) (by kernel_rfl) (by kernel_rfl) ?qfp2 hS ?qfn2
      case qfp2 =>
        iterate 8 (apply Yl.cons rfl (by kernel_rfl); focus (rintro wx x1; (obtain ⟨ko0, ko1, ko2, ko3, ko4, ko5⟩ := fs_cells (HFo_w26.out.carry x1)); have q9 := keeps_cell _ _ _ _ HQ9.out x1; clear x1; go_simp; all_goals (with_reducible rfl)); try simp only [Act.put, List.setIfInBounds_toArray, List.set_cons_zero, List.set_cons_succ])
        exact Yl.nil
      refine reg_callv hK (i := 38) (v := .bool true) rfl (by kernel_rfl) (by kernel_rfl) (by go_simp) hS ((same_ref _ _ _ D _ _ _ D _ (HRo_w26.out.carry hS).kl (HRo_w26.out.carry hS).n5 (HR9.out.carry hS) rfl).mono fun e wy ⟨h1, h2⟩ => ⟨by rw [h1, decide_eq_true rfl], h2⟩) ?_
      clear hS
      intro w179 hS
      try simp only [Act.put, List.setIfInBounds_toArray, List.set_cons_zero, List.set_cons_succ]
      refine reg_plan [39, 40] (fuel := 0) (a' := ?qfa3) (by kernel_rfl) (by kernel_rfl) (by kernel_rfl) ?qfp3 hS ?qfn3
      case qfp3 =>
        iterate 2 (apply Yl.cons rfl (by kernel_rfl); focus (rintro wx x1; (obtain ⟨ko0, ko1, ko2, ko3, ko4, ko5⟩ := fs_cells (HFo_w26.out.carry x1)); have q9 := keeps_cell _ _ _ _ HQ9.out x1; clear x1; go_simp; all_goals (with_reducible rfl)); try simp only [Act.put, List.setIfInBounds_toArray, List.set_cons_zero, List.set_cons_succ])
        exact Yl.nil
      refine wpAnyH_done (by kernel_rfl) ?_ _
      refine NoPanic.normal ?_
      try simp only [Act.put, List.setIfInBounds_toArray, List.set_cons_zero, List.set_cons_succ]
      have HBE := hide (show Below w.heap.size w _ from HB_w26.out.trans (hS.mono HB_w26.out.size))
      clear hS hK
      have HVAL := hide (show (decide (i ≤ cc) && decide (IntKind.i64.wrap ((cc : Int) - 1) ≤ (i : Int))) = true by
        have h1 : IntKind.i64.wrap ((cc : Int) - 1) = (cc : Int) - 1 := by rw [IntKind.wrap_i64]; have := HIL.out; have := HCC.out; omega
        rw [h1, decide_eq_true (by have := HCC.out; omega), decide_eq_true (by have := HCC.out; omega)]; rfl)
      go_wp2
      go_ret
      exact ⟨by first | rfl | exact congrArg (fun z => Ending.returned (Value.bool z)) HVAL.out, HBE.out⟩

end Go.Proofs.YtnigdbhjaoeblaaGreat

/-
  What the statement FilesTurns answers.
-/
import Derived.Test.YtjjhaahlinbpdaaFiT15d
namespace Go.Proofs.Ytjjhaahlinbpdaa
open Go.RowKit
set_option linter.unusedVariables false
set_option linter.unusedSimpArgs false

/-- What lay in a world stays. -/
def BelM (v w : World) : Prop := Below v.heap.size v w
theorem BelM.carry {v w w' : World} (h : BelM v w) (hb : Below w.heap.size w w') : BelM v w' := Below.trans h (hb.mono h.size)
theorem okG_ext {fs : List Fl} (h : okG fs) : fs.length ≤ 100 ∧ ∀ f ∈ fs, f.2.length ≤ 700 := ⟨h.1, fun f hf => (h.2.2 f hf).1⟩
theorem getF_len {fs : List Fl} {M : Nat} (h : ∀ f ∈ fs, f.2.length ≤ M) (s : List UInt8) : (getF fs s).length ≤ M := by
  unfold getF
  cases e : fs.find? (fun f => f.1 == s) with
  | none => simp
  | some f => simpa using h f (List.mem_of_find?_eq_some e)
theorem findV_len {fs : List Fl} {M : Nat} (h : ∀ f ∈ fs, f.2.length ≤ M) (s : List UInt8) : (findV fs s).2.length ≤ M := by
  unfold findV
  split
  · exact getF_len h s
  · simp
def smallF (fs : List Fl) : Prop := fs.length ≤ 1000 ∧ ∀ f ∈ fs, f.2.length ≤ 1000000
theorem small_del {fs : List Fl} (h : okG fs) (s : List UInt8) : smallF (deleteL fs s) := by
  obtain ⟨h1, h2⟩ := okG_ext h
  unfold deleteL
  split
  · exact ⟨by have := (delF_sub fs s).length_le; omega, fun f hf => by have := h2 f ((delF_sub fs s).subset hf); omega⟩
  · exact ⟨by simp, by simp⟩
theorem small_cre {fs : List Fl} (h : okG fs) (s : List UInt8) {l : List Ex} (hl : l.length ≤ 100) (B : Int) : smallF (createL fs s l B) := by
  obtain ⟨h1, h2⟩ := okG_ext h
  unfold createL
  split
  · refine ⟨by rw [ins_len]; omega, fun f hf => ?_⟩
    rcases ins_mem.1 hf with rfl | hf
    · show l.length ≤ _; omega
    · have := h2 f hf; omega
  · exact ⟨by simp, by simp⟩
theorem small_ren {fs : List Fl} (h : okG fs) (s t : List UInt8) : smallF (renameL fs s t) := by
  obtain ⟨h1, h2⟩ := okG_ext h
  unfold renameL
  split
  · unfold renF
    refine ⟨by rw [ins_len]; have := (delF_sub (delF fs s) t).length_le; have := (delF_sub fs s).length_le; omega, fun f hf => ?_⟩
    rcases ins_mem.1 hf with rfl | hf
    · have := getF_len h2 s; show (getF fs s).length ≤ _; omega
    · have := h2 f ((delF_sub fs s).subset ((delF_sub _ t).subset hf)); omega
  · exact ⟨by simp, by simp⟩
theorem used_len {fs : List Fl} (h : okG fs) : (usedL fs).length ≤ 1000000 := by
  obtain ⟨h1, h2⟩ := okG_ext h
  unfold usedL
  split
  · have := usedF_len fs 700 h2
    omega
  · simp
/-- Files whose extents may be turned. -/
def TurnF (w : World) (base : Nat) (v : Value) (n : Nat) : Prop := (n = 0 ∧ ∃ a c, v = .slice a 0 c) ∨ ∃ g cap cs, v = .slice (some ⟨g, 0, none⟩) n cap ∧ w.heap[g]? = some (.cells cs 39 (0, 0)) ∧ ∀ k, k < n → ∃ a2 n2 c2, cs[k * 2 + 1]? = some (.slice a2 n2 c2) ∧ n2 ≤ 1000000 ∧ TurnOk w base (.slice a2 n2 c2)
theorem TurnF.shp {w w' : World} {base : Nat} {v : Value} {n : Nat} (h : TurnF w base v n) (k : Shp base w w') : TurnF w' base v n := by
  rcases h with h | ⟨g, cap, cs, rfl, h1, h2⟩
  · exact .inl h
  · obtain ⟨cs', k1, _, k3⟩ := k.2.2 g _ _ h1
    have := k3 (by decide)
    subst this
    refine .inr ⟨g, cap, cs', rfl, k1, fun i hi => ?_⟩
    obtain ⟨a2, n2, c2, e1, e2, e3⟩ := h2 i hi
    exact ⟨a2, n2, c2, e1, e2, e3.shp k⟩
theorem OwF.turnF {w : World} {base : Nat} {v : Value} {fs : List Fl} (h : OwF w base v fs) (hl : ∀ f ∈ fs, f.2.length ≤ 1000000) : TurnF w base v fs.length := by
  obtain ⟨ps, rfl, h, hi⟩ := h
  rw [List.length_map]
  rcases h.2 with ⟨rfl, hn⟩ | ⟨g, cap, cur, rfl, hb, hg, hn, hm, hsz, htake⟩
  · exact .inl ⟨hn, none, 0, rfl⟩
  · refine .inr ⟨g, cap, cur, rfl, hg, fun k hk => ?_⟩
    have hp := hi ps[k] (List.getElem_mem hk)
    obtain ⟨a2, c2, hv⟩ := hp.form
    refine ⟨a2, _, c2, ?_, hl _ (List.mem_map.2 ⟨ps[k], List.getElem_mem hk, rfl⟩), by rw [← hv]; exact hp.turn⟩
    have e2 := (cellsP_get ps k hk).2
    have c2 := h.cells (g := g) rfl _ _ e2
    have c3 := cell_of_row w g (k * 2 + 1) _ _ (0, 0) hg
    rw [Addr.add_lit] at c2
    rw [Nat.zero_add, c3] at c2
    rw [c2, hv]
theorem TurnF.at {w : World} {base : Nat} {a : Option Addr} {n c : Nat} (h : TurnF w base (.slice a n c) n) (k : Nat) (hk : k < n) : ∃ g a2 n2 c2, a = some ⟨g, 0, none⟩ ∧ w.cell? ⟨g, k * 2 + 1, none⟩ = some (.slice a2 n2 c2) ∧ n2 ≤ 1000000 ∧ TurnOk w base (.slice a2 n2 c2) := by
  rcases h with ⟨e, _⟩ | ⟨g, cap, cs, e, h1, h2⟩
  · omega
  · cases e
    obtain ⟨a2, n2, c2, e1, e2, e3⟩ := h2 k hk
    exact ⟨g, a2, n2, c2, rfl, by rw [cell_of_row w g (k * 2 + 1) _ _ (0, 0) h1]; exact e1, e2, e3⟩


set_option maxHeartbeats 16000000 in
set_option maxRecDepth 100000 in
theorem filesTurns_any (a : Option Addr) (n c : Nat) (fs : List Fl) (s t : List UInt8) (al : Option Addr) (m cl : Nat) (l : List Ex) (B : Int) (w : World) (hrd : RdF w (.slice a n c) fs) (hn : n = fs.length) (hwf : wfFs fs) (hsz : ∀ f ∈ fs, f.2.length ≤ 140737488355328) (hrl : RdE w (.slice al m cl) l) (hm : m = l.length) (hwl : ∀ x ∈ l, wfX x) :
    Calls Try.prog 4 #[.agg #[.slice a n c], .string (bs s), .string (bs t), .slice al m cl, .int .i64 B] w fun e w' => e = .returned (.bool true) ∧ Below w.heap.size w w' := by
  have hml : m ≤ maxLen := hm ▸ hrl.len_le
  unfold maxLen at hml
  have HR := hide hrd
  have HN := hide hn
  have HW := hide hwf
  have HS := hide hsz
  have HL := hide hrl
  have HM := hide hm
  have HWL := hide hwl
  obtain ⟨W0, hW0⟩ : ∃ W0, W0 = w.alloc (.cells #[.slice a n c] 25) := ⟨_, rfl⟩
  have hb0 : Below w.heap.size w W0 := by rw [hW0]; exact (Below.refl _ _).alloc (Nat.le_refl _) _
  have HD_W0 := hide (show DirAt W0 w.heap.size (.slice a n c) by rw [hW0]; exact DirAt.new w _)
  have HB_W0 := hide hb0
  clear hrd hn hsz hb0 hwf hrl hm hwl
  go_enter Try.func4, Try.ntmps4
  go_wp2_with fail
  rw [← hW0]
  clear hW0
  refine (great_any a n c fs W0 (HR.out.carry HB_W0.out) HN.out (fun f hf => Nat.le_trans (HS.out f hf) (by omega))).mono ?_
  rintro e w1 ⟨r, rfl, hok, b1⟩
  have HB_w1 := hide (show Below w.heap.size w w1 from HB_W0.out.trans (b1.mono HB_W0.out.size))
  have HD_w1 := hide (HD_W0.out.carry b1)
  have d1 := HD_w1.out.cell
  clear b1
  cases r with
  | true =>
    clear hok
    go_wp2
    go_ret
    exact ⟨rfl, HB_w1.out⟩
  | false =>
  have HG := hide (hok rfl)
  clear hok HS HB_W0 HD_W0
  go_wp2_with fail
  refine (long_any s t w1).mono ?_
  rintro e w2 ⟨r, rfl, b2⟩
  have HB_w2 := hide (show Below w.heap.size w w2 from HB_w1.out.trans (b2.mono HB_w1.out.size))
  have HD_w2 := hide (HD_w1.out.carry b2)
  clear b2 d1 HB_w1 HD_w1
  cases r with
  | true =>
    go_wp2
    go_ret
    exact ⟨rfl, HB_w2.out⟩
  | false =>
  by_cases g3 : 100 < m
  · have g3' : (100 : Int) < m := by omega
    go_wp2
    go_ret
    exact ⟨rfl, HB_w2.out⟩
  have g3' : decide ((100 : Int) < m) = false := by simpa using (by omega : ¬ (100 : Int) < m)
  have g3'' : m ≤ 100 := by omega
  obtain ⟨E1, hE1⟩ : ∃ E, thereE fs s = E := ⟨_, rfl⟩
  obtain ⟨vn, vl, hV⟩ : ∃ x y, findV fs s = (x, y) := ⟨_, _, rfl⟩
  obtain ⟨E2, hE2⟩ : ∃ E, createE fs s l B = E := ⟨_, rfl⟩
  obtain ⟨E4, hE4⟩ : ∃ E, renameE fs s t = E := ⟨_, rfl⟩
  obtain ⟨E5, hE5⟩ : ∃ E, chkF fs 4096 = E := ⟨_, rfl⟩
  obtain ⟨E6, hE6⟩ : ∃ E, chkF fs B = E := ⟨_, rfl⟩
  obtain ⟨Cc, hCc⟩ : ∃ E, createL fs s l B = E := ⟨_, rfl⟩
  obtain ⟨Xx, hXx⟩ : ∃ E, deleteL fs s = E := ⟨_, rfl⟩
  obtain ⟨Uu, hUu⟩ : ∃ E, renameL fs s t = E := ⟨_, rfl⟩
  obtain ⟨Pp, hPp⟩ : ∃ E, usedL fs = E := ⟨_, rfl⟩
  have HlC := hide (show smallF Cc by rw [← hCc]; exact small_cre HG.out s (by have := HM.out; omega) B)
  have HlX := hide (show smallF Xx by rw [← hXx]; exact small_del HG.out s)
  have HlU := hide (show smallF Uu by rw [← hUu]; exact small_ren HG.out s t)
  have HlP := hide (show Pp.length ≤ 1000000 by rw [← hPp]; exact used_len HG.out)
  have HlV := hide (show vl.length ≤ 1000000 by have := findV_len (okG_ext HG.out).2 s; rw [hV] at this; simp only at this; omega)
  have HlN := hide (show n ≤ 100 by have := (okG_ext HG.out).1; have := HN.out; omega)
  have HlE := hide (show ∀ f ∈ fs, f.2.length ≤ 1000000 from fun f hf => by have := (okG_ext HG.out).2 f hf; omega)
  have hE1 := hide hE1
  have hV := hide hV
  have hE2 := hide hE2
  have hE4 := hide hE4
  have hE5 := hide hE5
  have hE6 := hide hE6
  have hCc := hide hCc
  have hXx := hide hXx
  have hUu := hide hUu
  have hPp := hide hPp
  have r0 := HD_w2.out.cell
  go_wp2_with fail
  refine (rTwin5_any a n c fs w2 (HR.out.carry HB_w2.out) HN.out (by have := HlN.out; omega) HlE.out).mono ?_
  rintro e w3 ⟨v3, rfl, ho3, hb3⟩
  clear r0
  have HD_w3 := hide (HD_w2.out.carry hb3)
  have HB_w3 := hide (show Below w.heap.size w w3 from HB_w2.out.trans (hb3.mono HB_w2.out.size))
  clear HD_w2 HB_w2 hb3
  obtain ⟨ao, co, hf⟩ : ∃ a c, v3 = .slice a n c := by rw [HN.out]; exact ho3.form
  subst hf
  have HOO_w3 := hide ho3.rd
  clear ho3
  have hn : Below w3.heap.size w3 (w3.alloc (.cells #[.slice ao n co] 25)) := (Below.refl _ _).alloc (Nat.le_refl _) _
  obtain ⟨x3, hx3⟩ : ∃ x, x = w3.alloc (.cells #[.slice ao n co] 25) := ⟨_, rfl⟩
  have HDO_x3 := hide (DirAt.new w3 (.slice ao n co))
  rw [← hx3] at hn HDO_x3
  have HD_x3 := hide (HD_w3.out.carry hn)
  have HOO_x3 := hide (HOO_w3.out.carry hn)
  have HB_x3 := hide (show Below w.heap.size w x3 from HB_w3.out.trans (hn.mono HB_w3.out.size))
  clear HD_w3 HOO_w3 HB_w3 hn
  obtain ⟨gm, cm, wm, hrun, hom, hbm⟩ := app_exN (base := x3.heap.size) (OwE.nil x3 _) (Nat.le_refl _) (HL.out.carry HB_x3.out) HM.out (by have := HM.out; simp; omega)
  rw [List.nil_append, ← HM.out] at hrun hom
  rw [hx3] at hrun
  have HD_wm := hide (HD_x3.out.carry hbm)
  have HOO_wm := hide (HOO_x3.out.carry hbm)
  have HDO_wm := hide (HDO_x3.out.carry hbm)
  have HB_wm := hide (show Below w.heap.size w wm from HB_x3.out.trans (hbm.mono HB_x3.out.size))
  have HMR := hide hom.rd
  have HOM := HOO_wm
  have HBm_wm := hide (show BelM wm wm from Below.refl _ _)
  have HWT := hide HB_wm.out.size
  clear hom hbm HD_x3 HOO_x3 HDO_x3 HB_x3
  clear HOO_wm
  have hfd := find_any ao n co fs s wm (HOM.out.carry HBm_wm.out) HN.out HW.out
  rw [hV.out, hE1.out] at hfd
  have HSB := hide HBm_wm.out.size
  have r0 := HDO_wm.out.cell
  go_wp2_with (first | (at_builtin; refine wpList_runappE rfl (.const (.slice none 0 0)) (.tmp 50) 32 rfl rfl rfl rfl hrun ?_) | fail)
  refine (hfd).mono ?_
  rintro e w4 ⟨v4, rfl, ho4, hb4⟩
  clear r0 hrun hx3
  have HD_w4 := hide (HD_wm.out.carry hb4)
  have HDO_w4 := hide (HDO_wm.out.carry hb4)
  have HBm_w4 := hide (HBm_wm.out.carry hb4)
  have HB_w4 := hide (show Below w.heap.size w w4 from HB_wm.out.trans (hb4.mono HB_wm.out.size))
  clear HD_wm HDO_wm HBm_wm HB_wm hb4
  obtain ⟨pA, hp⟩ : ∃ p : Nat, p = vl.length := ⟨_, rfl⟩
  obtain ⟨aA, cA, hf⟩ : ∃ a c, v4 = .slice a pA c := by rw [hp]; exact ho4.form
  subst hf
  have HPA := hide hp
  have HEA_w4 := hide (show OwE w4 wm.heap.size (.slice aA pA cA) vl from ho4.mono HSB.out)
  clear hp ho4 hfd HSB
  have hn : Below w4.heap.size w4 (w4.alloc (.cells #[.string (bs vn), .slice aA pA cA] 39)) := (Below.refl _ _).alloc (Nat.le_refl _) _
  obtain ⟨x4, hx4⟩ : ∃ x, x = w4.alloc (.cells #[.string (bs vn), .slice aA pA cA] 39) := ⟨_, rfl⟩
  have HFA_x4 := hide (FileAt.new w4 (bs vn) (.slice aA pA cA))
  rw [← hx4] at hn HFA_x4
  have HD_x4 := hide (HD_w4.out.carry hn)
  have HDO_x4 := hide (HDO_w4.out.carry hn)
  have HBm_x4 := hide (HBm_w4.out.carry hn)
  have HEA_x4 := hide (HEA_w4.out.carry hn)
  have HB_x4 := hide (show Below w.heap.size w x4 from HB_w4.out.trans (hn.mono HB_w4.out.size))
  clear HD_w4 HDO_w4 HBm_w4 HEA_w4 HB_w4 hn
  have hfd := rFind_any a n c fs s x4 (HR.out.carry HB_x4.out) HN.out HW.out
  rw [hV.out, hE1.out] at hfd
  have HSB := hide HBm_x4.out.size
  have r0 := HD_x4.out.cell
  rw [hx4] at r0
  go_wp2_with fail
  try rw [← hx4]
  refine (hfd).mono ?_
  rintro e w5 ⟨v5, rfl, ho5, hb5⟩
  clear r0 hx4
  have HD_w5 := hide (HD_x4.out.carry hb5)
  have HDO_w5 := hide (HDO_x4.out.carry hb5)
  have HBm_w5 := hide (HBm_x4.out.carry hb5)
  have HEA_w5 := hide (HEA_x4.out.carry hb5)
  have HFA_w5 := hide (HFA_x4.out.carry hb5)
  have HB_w5 := hide (show Below w.heap.size w w5 from HB_x4.out.trans (hb5.mono HB_x4.out.size))
  clear HD_x4 HDO_x4 HBm_x4 HEA_x4 HFA_x4 HB_x4 hb5
  obtain ⟨pB, hp⟩ : ∃ p : Nat, p = vl.length := ⟨_, rfl⟩
  obtain ⟨aB, cB, hf⟩ : ∃ a c, v5 = .slice a pB c := by rw [hp]; exact ho5.form
  subst hf
  have HPB := hide hp
  have HEB_w5 := hide (show OwE w5 wm.heap.size (.slice aB pB cB) vl from ho5.mono HSB.out)
  clear hp ho5 hfd HSB
  have hn : Below w5.heap.size w5 (w5.alloc (.cells #[.string (bs vn), .slice aB pB cB] 39)) := (Below.refl _ _).alloc (Nat.le_refl _) _
  obtain ⟨x5, hx5⟩ : ∃ x, x = w5.alloc (.cells #[.string (bs vn), .slice aB pB cB] 39) := ⟨_, rfl⟩
  have HFB_x5 := hide (FileAt.new w5 (bs vn) (.slice aB pB cB))
  rw [← hx5] at hn HFB_x5
  have HD_x5 := hide (HD_w5.out.carry hn)
  have HDO_x5 := hide (HDO_w5.out.carry hn)
  have HBm_x5 := hide (HBm_w5.out.carry hn)
  have HEA_x5 := hide (HEA_w5.out.carry hn)
  have HFA_x5 := hide (HFA_w5.out.carry hn)
  have HEB_x5 := hide (HEB_w5.out.carry hn)
  have HB_x5 := hide (show Below w.heap.size w x5 from HB_w5.out.trans (hn.mono HB_w5.out.size))
  clear HD_w5 HDO_w5 HBm_w5 HEA_w5 HFA_w5 HEB_w5 HB_w5 hn
  have hfd := create_any ao n co fs s gm m cm l B x5 (HOM.out.carry HBm_x5.out) HN.out HW.out (HMR.out.carry HBm_x5.out) HM.out (by have := HM.out; omega) HWL.out
  rw [hE2.out, hCc.out] at hfd
  have HSB := hide HBm_x5.out.size
  have r0 := HDO_x5.out.cell
  rw [hx5] at r0
  go_wp2_with fail
  try rw [← hx5]
  refine (hfd).mono ?_
  rintro e w6 ⟨v6, rfl, ho6, hb6⟩
  clear r0 hx5
  have HD_w6 := hide (HD_x5.out.carry hb6)
  have HDO_w6 := hide (HDO_x5.out.carry hb6)
  have HBm_w6 := hide (HBm_x5.out.carry hb6)
  have HEA_w6 := hide (HEA_x5.out.carry hb6)
  have HFA_w6 := hide (HFA_x5.out.carry hb6)
  have HEB_w6 := hide (HEB_x5.out.carry hb6)
  have HFB_w6 := hide (HFB_x5.out.carry hb6)
  have HB_w6 := hide (show Below w.heap.size w w6 from HB_x5.out.trans (hb6.mono HB_x5.out.size))
  clear HD_x5 HDO_x5 HBm_x5 HEA_x5 HFA_x5 HEB_x5 HFB_x5 HB_x5 hb6
  obtain ⟨pC, hp⟩ : ∃ p : Nat, p = Cc.length := ⟨_, rfl⟩
  obtain ⟨aC, cC, hf⟩ : ∃ a c, v6 = .slice a pC c := by rw [hp]; exact ho6.form
  subst hf
  have HPC := hide hp
  have HOC_w6 := hide (show OwF w6 wm.heap.size (.slice aC pC cC) Cc from ho6.mono HSB.out)
  clear hp ho6 hfd HSB
  have hn : Below w6.heap.size w6 (w6.alloc (.cells #[.slice aC pC cC] 25)) := (Below.refl _ _).alloc (Nat.le_refl _) _
  obtain ⟨x6, hx6⟩ : ∃ x, x = w6.alloc (.cells #[.slice aC pC cC] 25) := ⟨_, rfl⟩
  have HDC_x6 := hide (DirAt.new w6 (.slice aC pC cC))
  rw [← hx6] at hn HDC_x6
  have HD_x6 := hide (HD_w6.out.carry hn)
  have HDO_x6 := hide (HDO_w6.out.carry hn)
  have HBm_x6 := hide (HBm_w6.out.carry hn)
  have HEA_x6 := hide (HEA_w6.out.carry hn)
  have HFA_x6 := hide (HFA_w6.out.carry hn)
  have HEB_x6 := hide (HEB_w6.out.carry hn)
  have HFB_x6 := hide (HFB_w6.out.carry hn)
  have HOC_x6 := hide (HOC_w6.out.carry hn)
  have HB_x6 := hide (show Below w.heap.size w x6 from HB_w6.out.trans (hn.mono HB_w6.out.size))
  clear HD_w6 HDO_w6 HBm_w6 HEA_w6 HFA_w6 HEB_w6 HFB_w6 HOC_w6 HB_w6 hn
  have hfd := rCreate_any a n c fs s al m cl l B x6 (HR.out.carry HB_x6.out) HN.out HW.out (HL.out.carry HB_x6.out) HM.out (by have := HM.out; omega) HWL.out
  rw [hE2.out, hCc.out] at hfd
  have HSB := hide HBm_x6.out.size
  have r0 := HD_x6.out.cell
  rw [hx6] at r0
  go_wp2_with fail
  try rw [← hx6]
  refine (hfd).mono ?_
  rintro e w7 ⟨v7, rfl, ho7, hb7⟩
  clear r0 hx6
  have HD_w7 := hide (HD_x6.out.carry hb7)
  have HDO_w7 := hide (HDO_x6.out.carry hb7)
  have HBm_w7 := hide (HBm_x6.out.carry hb7)
  have HEA_w7 := hide (HEA_x6.out.carry hb7)
  have HFA_w7 := hide (HFA_x6.out.carry hb7)
  have HEB_w7 := hide (HEB_x6.out.carry hb7)
  have HFB_w7 := hide (HFB_x6.out.carry hb7)
  have HOC_w7 := hide (HOC_x6.out.carry hb7)
  have HDC_w7 := hide (HDC_x6.out.carry hb7)
  have HB_w7 := hide (show Below w.heap.size w w7 from HB_x6.out.trans (hb7.mono HB_x6.out.size))
  clear HD_x6 HDO_x6 HBm_x6 HEA_x6 HFA_x6 HEB_x6 HFB_x6 HOC_x6 HDC_x6 HB_x6 hb7
  obtain ⟨pG, hp⟩ : ∃ p : Nat, p = Cc.length := ⟨_, rfl⟩
  obtain ⟨aG, cG, hf⟩ : ∃ a c, v7 = .slice a pG c := by rw [hp]; exact ho7.form
  subst hf
  have HPG := hide hp
  have HOG_w7 := hide (show OwF w7 wm.heap.size (.slice aG pG cG) Cc from ho7.mono HSB.out)
  clear hp ho7 hfd HSB
  have hn : Below w7.heap.size w7 (w7.alloc (.cells #[.slice aG pG cG] 25)) := (Below.refl _ _).alloc (Nat.le_refl _) _
  obtain ⟨x7, hx7⟩ : ∃ x, x = w7.alloc (.cells #[.slice aG pG cG] 25) := ⟨_, rfl⟩
  have HDG_x7 := hide (DirAt.new w7 (.slice aG pG cG))
  rw [← hx7] at hn HDG_x7
  have HD_x7 := hide (HD_w7.out.carry hn)
  have HDO_x7 := hide (HDO_w7.out.carry hn)
  have HBm_x7 := hide (HBm_w7.out.carry hn)
  have HEA_x7 := hide (HEA_w7.out.carry hn)
  have HFA_x7 := hide (HFA_w7.out.carry hn)
  have HEB_x7 := hide (HEB_w7.out.carry hn)
  have HFB_x7 := hide (HFB_w7.out.carry hn)
  have HOC_x7 := hide (HOC_w7.out.carry hn)
  have HDC_x7 := hide (HDC_w7.out.carry hn)
  have HOG_x7 := hide (HOG_w7.out.carry hn)
  have HB_x7 := hide (show Below w.heap.size w x7 from HB_w7.out.trans (hn.mono HB_w7.out.size))
  clear HD_w7 HDO_w7 HBm_w7 HEA_w7 HFA_w7 HEB_w7 HFB_w7 HOC_w7 HDC_w7 HOG_w7 HB_w7 hn
  have hfd := delete_any ao n co fs s x7 (HOM.out.carry HBm_x7.out) HN.out HW.out
  rw [hE1.out, hXx.out] at hfd
  have HSB := hide HBm_x7.out.size
  have r0 := HDO_x7.out.cell
  rw [hx7] at r0
  go_wp2_with fail
  try rw [← hx7]
  refine (hfd).mono ?_
  rintro e w8 ⟨v8, rfl, ho8, hb8⟩
  clear r0 hx7
  have HD_w8 := hide (HD_x7.out.carry hb8)
  have HDO_w8 := hide (HDO_x7.out.carry hb8)
  have HBm_w8 := hide (HBm_x7.out.carry hb8)
  have HEA_w8 := hide (HEA_x7.out.carry hb8)
  have HFA_w8 := hide (HFA_x7.out.carry hb8)
  have HEB_w8 := hide (HEB_x7.out.carry hb8)
  have HFB_w8 := hide (HFB_x7.out.carry hb8)
  have HOC_w8 := hide (HOC_x7.out.carry hb8)
  have HDC_w8 := hide (HDC_x7.out.carry hb8)
  have HOG_w8 := hide (HOG_x7.out.carry hb8)
  have HDG_w8 := hide (HDG_x7.out.carry hb8)
  have HB_w8 := hide (show Below w.heap.size w w8 from HB_x7.out.trans (hb8.mono HB_x7.out.size))
  clear HD_x7 HDO_x7 HBm_x7 HEA_x7 HFA_x7 HEB_x7 HFB_x7 HOC_x7 HDC_x7 HOG_x7 HDG_x7 HB_x7 hb8
  obtain ⟨pX, hp⟩ : ∃ p : Nat, p = Xx.length := ⟨_, rfl⟩
  obtain ⟨aX, cX, hf⟩ : ∃ a c, v8 = .slice a pX c := by rw [hp]; exact ho8.form
  subst hf
  have HPX := hide hp
  have HOX_w8 := hide (show OwF w8 wm.heap.size (.slice aX pX cX) Xx from ho8.mono HSB.out)
  clear hp ho8 hfd HSB
  have hn : Below w8.heap.size w8 (w8.alloc (.cells #[.slice aX pX cX] 25)) := (Below.refl _ _).alloc (Nat.le_refl _) _
  obtain ⟨x8, hx8⟩ : ∃ x, x = w8.alloc (.cells #[.slice aX pX cX] 25) := ⟨_, rfl⟩
  have HDX_x8 := hide (DirAt.new w8 (.slice aX pX cX))
  rw [← hx8] at hn HDX_x8
  have HD_x8 := hide (HD_w8.out.carry hn)
  have HDO_x8 := hide (HDO_w8.out.carry hn)
  have HBm_x8 := hide (HBm_w8.out.carry hn)
  have HEA_x8 := hide (HEA_w8.out.carry hn)
  have HFA_x8 := hide (HFA_w8.out.carry hn)
  have HEB_x8 := hide (HEB_w8.out.carry hn)
  have HFB_x8 := hide (HFB_w8.out.carry hn)
  have HOC_x8 := hide (HOC_w8.out.carry hn)
  have HDC_x8 := hide (HDC_w8.out.carry hn)
  have HOG_x8 := hide (HOG_w8.out.carry hn)
  have HDG_x8 := hide (HDG_w8.out.carry hn)
  have HOX_x8 := hide (HOX_w8.out.carry hn)
  have HB_x8 := hide (show Below w.heap.size w x8 from HB_w8.out.trans (hn.mono HB_w8.out.size))
  clear HD_w8 HDO_w8 HBm_w8 HEA_w8 HFA_w8 HEB_w8 HFB_w8 HOC_w8 HDC_w8 HOG_w8 HDG_w8 HOX_w8 HB_w8 hn
  have hfd := rDelete_any a n c fs s x8 (HR.out.carry HB_x8.out) HN.out HW.out
  rw [hE1.out, hXx.out] at hfd
  have HSB := hide HBm_x8.out.size
  have r0 := HD_x8.out.cell
  rw [hx8] at r0
  go_wp2_with fail
  try rw [← hx8]
  refine (hfd).mono ?_
  rintro e w9 ⟨v9, rfl, ho9, hb9⟩
  clear r0 hx8
  have HD_w9 := hide (HD_x8.out.carry hb9)
  have HDO_w9 := hide (HDO_x8.out.carry hb9)
  have HBm_w9 := hide (HBm_x8.out.carry hb9)
  have HEA_w9 := hide (HEA_x8.out.carry hb9)
  have HFA_w9 := hide (HFA_x8.out.carry hb9)
  have HEB_w9 := hide (HEB_x8.out.carry hb9)
  have HFB_w9 := hide (HFB_x8.out.carry hb9)
  have HOC_w9 := hide (HOC_x8.out.carry hb9)
  have HDC_w9 := hide (HDC_x8.out.carry hb9)
  have HOG_w9 := hide (HOG_x8.out.carry hb9)
  have HDG_w9 := hide (HDG_x8.out.carry hb9)
  have HOX_w9 := hide (HOX_x8.out.carry hb9)
  have HDX_w9 := hide (HDX_x8.out.carry hb9)
  have HB_w9 := hide (show Below w.heap.size w w9 from HB_x8.out.trans (hb9.mono HB_x8.out.size))
  clear HD_x8 HDO_x8 HBm_x8 HEA_x8 HFA_x8 HEB_x8 HFB_x8 HOC_x8 HDC_x8 HOG_x8 HDG_x8 HOX_x8 HDX_x8 HB_x8 hb9
  obtain ⟨pY, hp⟩ : ∃ p : Nat, p = Xx.length := ⟨_, rfl⟩
  obtain ⟨aY, cY, hf⟩ : ∃ a c, v9 = .slice a pY c := by rw [hp]; exact ho9.form
  subst hf
  have HPY := hide hp
  have HOY_w9 := hide (show OwF w9 wm.heap.size (.slice aY pY cY) Xx from ho9.mono HSB.out)
  clear hp ho9 hfd HSB
  have hn : Below w9.heap.size w9 (w9.alloc (.cells #[.slice aY pY cY] 25)) := (Below.refl _ _).alloc (Nat.le_refl _) _
  obtain ⟨x9, hx9⟩ : ∃ x, x = w9.alloc (.cells #[.slice aY pY cY] 25) := ⟨_, rfl⟩
  have HDY_x9 := hide (DirAt.new w9 (.slice aY pY cY))
  rw [← hx9] at hn HDY_x9
  have HD_x9 := hide (HD_w9.out.carry hn)
  have HDO_x9 := hide (HDO_w9.out.carry hn)
  have HBm_x9 := hide (HBm_w9.out.carry hn)
  have HEA_x9 := hide (HEA_w9.out.carry hn)
  have HFA_x9 := hide (HFA_w9.out.carry hn)
  have HEB_x9 := hide (HEB_w9.out.carry hn)
  have HFB_x9 := hide (HFB_w9.out.carry hn)
  have HOC_x9 := hide (HOC_w9.out.carry hn)
  have HDC_x9 := hide (HDC_w9.out.carry hn)
  have HOG_x9 := hide (HOG_w9.out.carry hn)
  have HDG_x9 := hide (HDG_w9.out.carry hn)
  have HOX_x9 := hide (HOX_w9.out.carry hn)
  have HDX_x9 := hide (HDX_w9.out.carry hn)
  have HOY_x9 := hide (HOY_w9.out.carry hn)
  have HB_x9 := hide (show Below w.heap.size w x9 from HB_w9.out.trans (hn.mono HB_w9.out.size))
  clear HD_w9 HDO_w9 HBm_w9 HEA_w9 HFA_w9 HEB_w9 HFB_w9 HOC_w9 HDC_w9 HOG_w9 HDG_w9 HOX_w9 HDX_w9 HOY_w9 HB_w9 hn
  have hfd := rename_any ao n co fs s t x9 (HOM.out.carry HBm_x9.out) HN.out HW.out
  rw [hE4.out, hUu.out] at hfd
  have HSB := hide HBm_x9.out.size
  have r0 := HDO_x9.out.cell
  rw [hx9] at r0
  go_wp2_with fail
  try rw [← hx9]
  refine (hfd).mono ?_
  rintro e w10 ⟨v10, rfl, ho10, hb10⟩
  clear r0 hx9
  have HD_w10 := hide (HD_x9.out.carry hb10)
  have HDO_w10 := hide (HDO_x9.out.carry hb10)
  have HBm_w10 := hide (HBm_x9.out.carry hb10)
  have HEA_w10 := hide (HEA_x9.out.carry hb10)
  have HFA_w10 := hide (HFA_x9.out.carry hb10)
  have HEB_w10 := hide (HEB_x9.out.carry hb10)
  have HFB_w10 := hide (HFB_x9.out.carry hb10)
  have HOC_w10 := hide (HOC_x9.out.carry hb10)
  have HDC_w10 := hide (HDC_x9.out.carry hb10)
  have HOG_w10 := hide (HOG_x9.out.carry hb10)
  have HDG_w10 := hide (HDG_x9.out.carry hb10)
  have HOX_w10 := hide (HOX_x9.out.carry hb10)
  have HDX_w10 := hide (HDX_x9.out.carry hb10)
  have HOY_w10 := hide (HOY_x9.out.carry hb10)
  have HDY_w10 := hide (HDY_x9.out.carry hb10)
  have HB_w10 := hide (show Below w.heap.size w w10 from HB_x9.out.trans (hb10.mono HB_x9.out.size))
  clear HD_x9 HDO_x9 HBm_x9 HEA_x9 HFA_x9 HEB_x9 HFB_x9 HOC_x9 HDC_x9 HOG_x9 HDG_x9 HOX_x9 HDX_x9 HOY_x9 HDY_x9 HB_x9 hb10
  obtain ⟨pU, hp⟩ : ∃ p : Nat, p = Uu.length := ⟨_, rfl⟩
  obtain ⟨aU, cU, hf⟩ : ∃ a c, v10 = .slice a pU c := by rw [hp]; exact ho10.form
  subst hf
  have HPU := hide hp
  have HOU_w10 := hide (show OwF w10 wm.heap.size (.slice aU pU cU) Uu from ho10.mono HSB.out)
  clear hp ho10 hfd HSB
  have hn : Below w10.heap.size w10 (w10.alloc (.cells #[.slice aU pU cU] 25)) := (Below.refl _ _).alloc (Nat.le_refl _) _
  obtain ⟨x10, hx10⟩ : ∃ x, x = w10.alloc (.cells #[.slice aU pU cU] 25) := ⟨_, rfl⟩
  have HDU_x10 := hide (DirAt.new w10 (.slice aU pU cU))
  rw [← hx10] at hn HDU_x10
  have HD_x10 := hide (HD_w10.out.carry hn)
  have HDO_x10 := hide (HDO_w10.out.carry hn)
  have HBm_x10 := hide (HBm_w10.out.carry hn)
  have HEA_x10 := hide (HEA_w10.out.carry hn)
  have HFA_x10 := hide (HFA_w10.out.carry hn)
  have HEB_x10 := hide (HEB_w10.out.carry hn)
  have HFB_x10 := hide (HFB_w10.out.carry hn)
  have HOC_x10 := hide (HOC_w10.out.carry hn)
  have HDC_x10 := hide (HDC_w10.out.carry hn)
  have HOG_x10 := hide (HOG_w10.out.carry hn)
  have HDG_x10 := hide (HDG_w10.out.carry hn)
  have HOX_x10 := hide (HOX_w10.out.carry hn)
  have HDX_x10 := hide (HDX_w10.out.carry hn)
  have HOY_x10 := hide (HOY_w10.out.carry hn)
  have HDY_x10 := hide (HDY_w10.out.carry hn)
  have HOU_x10 := hide (HOU_w10.out.carry hn)
  have HB_x10 := hide (show Below w.heap.size w x10 from HB_w10.out.trans (hn.mono HB_w10.out.size))
  clear HD_w10 HDO_w10 HBm_w10 HEA_w10 HFA_w10 HEB_w10 HFB_w10 HOC_w10 HDC_w10 HOG_w10 HDG_w10 HOX_w10 HDX_w10 HOY_w10 HDY_w10 HOU_w10 HB_w10 hn
  have hfd := rRename_any a n c fs s t x10 (HR.out.carry HB_x10.out) HN.out HW.out
  rw [hE4.out, hUu.out] at hfd
  have HSB := hide HBm_x10.out.size
  have r0 := HD_x10.out.cell
  rw [hx10] at r0
  go_wp2_with fail
  try rw [← hx10]
  refine (hfd).mono ?_
  rintro e w11 ⟨v11, rfl, ho11, hb11⟩
  clear r0 hx10
  have HD_w11 := hide (HD_x10.out.carry hb11)
  have HDO_w11 := hide (HDO_x10.out.carry hb11)
  have HBm_w11 := hide (HBm_x10.out.carry hb11)
  have HEA_w11 := hide (HEA_x10.out.carry hb11)
  have HFA_w11 := hide (HFA_x10.out.carry hb11)
  have HEB_w11 := hide (HEB_x10.out.carry hb11)
  have HFB_w11 := hide (HFB_x10.out.carry hb11)
  have HOC_w11 := hide (HOC_x10.out.carry hb11)
  have HDC_w11 := hide (HDC_x10.out.carry hb11)
  have HOG_w11 := hide (HOG_x10.out.carry hb11)
  have HDG_w11 := hide (HDG_x10.out.carry hb11)
  have HOX_w11 := hide (HOX_x10.out.carry hb11)
  have HDX_w11 := hide (HDX_x10.out.carry hb11)
  have HOY_w11 := hide (HOY_x10.out.carry hb11)
  have HDY_w11 := hide (HDY_x10.out.carry hb11)
  have HOU_w11 := hide (HOU_x10.out.carry hb11)
  have HDU_w11 := hide (HDU_x10.out.carry hb11)
  have HB_w11 := hide (show Below w.heap.size w w11 from HB_x10.out.trans (hb11.mono HB_x10.out.size))
  clear HD_x10 HDO_x10 HBm_x10 HEA_x10 HFA_x10 HEB_x10 HFB_x10 HOC_x10 HDC_x10 HOG_x10 HDG_x10 HOX_x10 HDX_x10 HOY_x10 HDY_x10 HOU_x10 HDU_x10 HB_x10 hb11
  obtain ⟨pV, hp⟩ : ∃ p : Nat, p = Uu.length := ⟨_, rfl⟩
  obtain ⟨aV, cV, hf⟩ : ∃ a c, v11 = .slice a pV c := by rw [hp]; exact ho11.form
  subst hf
  have HPV := hide hp
  have HOV_w11 := hide (show OwF w11 wm.heap.size (.slice aV pV cV) Uu from ho11.mono HSB.out)
  clear hp ho11 hfd HSB
  have hn : Below w11.heap.size w11 (w11.alloc (.cells #[.slice aV pV cV] 25)) := (Below.refl _ _).alloc (Nat.le_refl _) _
  obtain ⟨x11, hx11⟩ : ∃ x, x = w11.alloc (.cells #[.slice aV pV cV] 25) := ⟨_, rfl⟩
  have HDV_x11 := hide (DirAt.new w11 (.slice aV pV cV))
  rw [← hx11] at hn HDV_x11
  have HD_x11 := hide (HD_w11.out.carry hn)
  have HDO_x11 := hide (HDO_w11.out.carry hn)
  have HBm_x11 := hide (HBm_w11.out.carry hn)
  have HEA_x11 := hide (HEA_w11.out.carry hn)
  have HFA_x11 := hide (HFA_w11.out.carry hn)
  have HEB_x11 := hide (HEB_w11.out.carry hn)
  have HFB_x11 := hide (HFB_w11.out.carry hn)
  have HOC_x11 := hide (HOC_w11.out.carry hn)
  have HDC_x11 := hide (HDC_w11.out.carry hn)
  have HOG_x11 := hide (HOG_w11.out.carry hn)
  have HDG_x11 := hide (HDG_w11.out.carry hn)
  have HOX_x11 := hide (HOX_w11.out.carry hn)
  have HDX_x11 := hide (HDX_w11.out.carry hn)
  have HOY_x11 := hide (HOY_w11.out.carry hn)
  have HDY_x11 := hide (HDY_w11.out.carry hn)
  have HOU_x11 := hide (HOU_w11.out.carry hn)
  have HDU_x11 := hide (HDU_w11.out.carry hn)
  have HOV_x11 := hide (HOV_w11.out.carry hn)
  have HB_x11 := hide (show Below w.heap.size w x11 from HB_w11.out.trans (hn.mono HB_w11.out.size))
  clear HD_w11 HDO_w11 HBm_w11 HEA_w11 HFA_w11 HEB_w11 HFB_w11 HOC_w11 HDC_w11 HOG_w11 HDG_w11 HOX_w11 HDX_w11 HOY_w11 HDY_w11 HOU_w11 HDU_w11 HOV_w11 HB_w11 hn
  have hfd := used_any ao n co fs x11 (HOM.out.carry HBm_x11.out) HN.out HW.out
  rw [hE5.out, hPp.out] at hfd
  have HSB := hide HBm_x11.out.size
  have r0 := HDO_x11.out.cell
  rw [hx11] at r0
  go_wp2_with fail
  try rw [← hx11]
  refine (hfd).mono ?_
  rintro e w12 ⟨v12, rfl, ho12, hb12⟩
  clear r0 hx11
  have HD_w12 := hide (HD_x11.out.carry hb12)
  have HDO_w12 := hide (HDO_x11.out.carry hb12)
  have HBm_w12 := hide (HBm_x11.out.carry hb12)
  have HEA_w12 := hide (HEA_x11.out.carry hb12)
  have HFA_w12 := hide (HFA_x11.out.carry hb12)
  have HEB_w12 := hide (HEB_x11.out.carry hb12)
  have HFB_w12 := hide (HFB_x11.out.carry hb12)
  have HOC_w12 := hide (HOC_x11.out.carry hb12)
  have HDC_w12 := hide (HDC_x11.out.carry hb12)
  have HOG_w12 := hide (HOG_x11.out.carry hb12)
  have HDG_w12 := hide (HDG_x11.out.carry hb12)
  have HOX_w12 := hide (HOX_x11.out.carry hb12)
  have HDX_w12 := hide (HDX_x11.out.carry hb12)
  have HOY_w12 := hide (HOY_x11.out.carry hb12)
  have HDY_w12 := hide (HDY_x11.out.carry hb12)
  have HOU_w12 := hide (HOU_x11.out.carry hb12)
  have HDU_w12 := hide (HDU_x11.out.carry hb12)
  have HOV_w12 := hide (HOV_x11.out.carry hb12)
  have HDV_w12 := hide (HDV_x11.out.carry hb12)
  have HB_w12 := hide (show Below w.heap.size w w12 from HB_x11.out.trans (hb12.mono HB_x11.out.size))
  clear HD_x11 HDO_x11 HBm_x11 HEA_x11 HFA_x11 HEB_x11 HFB_x11 HOC_x11 HDC_x11 HOG_x11 HDG_x11 HOX_x11 HDX_x11 HOY_x11 HDY_x11 HOU_x11 HDU_x11 HOV_x11 HDV_x11 HB_x11 hb12
  obtain ⟨pP, hp⟩ : ∃ p : Nat, p = Pp.length := ⟨_, rfl⟩
  obtain ⟨aP, cP, hf⟩ : ∃ a c, v12 = .slice a pP c := by rw [hp]; exact ho12.form
  subst hf
  have HPP := hide hp
  have HEP_w12 := hide (show OwE w12 wm.heap.size (.slice aP pP cP) Pp from ho12.mono HSB.out)
  clear hp ho12 hfd HSB
  have hfd := rUsed_any a n c fs w12 (HR.out.carry HB_w12.out) HN.out HW.out
  rw [hE5.out, hPp.out] at hfd
  have HSB := hide HBm_w12.out.size
  have r0 := HD_w12.out.cell
  go_wp2_with fail
  refine (hfd).mono ?_
  rintro e w13 ⟨v13, rfl, ho13, hb13⟩
  clear r0
  have HD_w13 := hide (HD_w12.out.carry hb13)
  have HDO_w13 := hide (HDO_w12.out.carry hb13)
  have HBm_w13 := hide (HBm_w12.out.carry hb13)
  have HEA_w13 := hide (HEA_w12.out.carry hb13)
  have HFA_w13 := hide (HFA_w12.out.carry hb13)
  have HEB_w13 := hide (HEB_w12.out.carry hb13)
  have HFB_w13 := hide (HFB_w12.out.carry hb13)
  have HOC_w13 := hide (HOC_w12.out.carry hb13)
  have HDC_w13 := hide (HDC_w12.out.carry hb13)
  have HOG_w13 := hide (HOG_w12.out.carry hb13)
  have HDG_w13 := hide (HDG_w12.out.carry hb13)
  have HOX_w13 := hide (HOX_w12.out.carry hb13)
  have HDX_w13 := hide (HDX_w12.out.carry hb13)
  have HOY_w13 := hide (HOY_w12.out.carry hb13)
  have HDY_w13 := hide (HDY_w12.out.carry hb13)
  have HOU_w13 := hide (HOU_w12.out.carry hb13)
  have HDU_w13 := hide (HDU_w12.out.carry hb13)
  have HOV_w13 := hide (HOV_w12.out.carry hb13)
  have HDV_w13 := hide (HDV_w12.out.carry hb13)
  have HEP_w13 := hide (HEP_w12.out.carry hb13)
  have HB_w13 := hide (show Below w.heap.size w w13 from HB_w12.out.trans (hb13.mono HB_w12.out.size))
  clear HD_w12 HDO_w12 HBm_w12 HEA_w12 HFA_w12 HEB_w12 HFB_w12 HOC_w12 HDC_w12 HOG_w12 HDG_w12 HOX_w12 HDX_w12 HOY_w12 HDY_w12 HOU_w12 HDU_w12 HOV_w12 HDV_w12 HEP_w12 HB_w12 hb13
  obtain ⟨pQ, hp⟩ : ∃ p : Nat, p = Pp.length := ⟨_, rfl⟩
  obtain ⟨aQ, cQ, hf⟩ : ∃ a c, v13 = .slice a pQ c := by rw [hp]; exact ho13.form
  subst hf
  have HPQ := hide hp
  have HEQ_w13 := hide (show OwE w13 wm.heap.size (.slice aQ pQ cQ) Pp from ho13.mono HSB.out)
  clear hp ho13 hfd HSB
  go_wp2
  obtain ⟨rb, hrb⟩ : ∃ r, decide (fs = Xx) = r := ⟨_, rfl⟩
  refine fturn15 (fs := fs) (Cc := Cc) (Xx := Xx) (Uu := Uu) (vn := vn) (vl := vl) (Pp := Pp) (rb := rb) (E6 := E6) _ _ _ _ _ _ _ _ _ _ _ _ _ _ _ _ _ _ _ _ _ _ _ _ _ _ _ _ _ _ _ _ _ _ _ _ _ _ _ _ _ _ _ _ _ _ _ _ _ _ _ _ _ _ _ _ _ _ _ _ _ _ _ _ _ _ _ _ _ _ _ _ _ _ _ _ _ _ _ _ _ _ _ _ _ _ _ _ _ _ _ _ _ _ _ _ _ _ _ _ _ _ _ _ _ _ _ _ _ _ _ _ _ _ _ _ _ _ _ _ _ _ _ _ _ _ _ _ _ _ _ _ _ _ _ _ _ _ _ _ _ _ _ _ _ _ _ _ _ _ _ _ _ _ _ _ _ _ _ _ _ _ _ _ _ _ _ _ _ _ _ _ _ _ _ _ _ _ _ _ _ _ _ _ _ _ _ _ _ _ _ _ _ _ _ _ _ _ _ _ _ _ _ _ _ _ _ _ _ _ _ _ _ _ _ _ _ _ _ w13 _ HN HW HPA HPB HPC HPG HPX HPY HPU HPV HPP HPQ hE6 hrb (⟨HD_w13.out, HDO_w13.out, HDC_w13.out, HDG_w13.out, HDX_w13.out, HDY_w13.out, HDU_w13.out, HDV_w13.out, HFA_w13.out, HFB_w13.out, (HR.out.carry HB_w13.out), (HOM.out.carry HBm_w13.out), HOC_w13.out.rd, HOG_w13.out.rd, HOX_w13.out.rd, HOY_w13.out.rd, HOU_w13.out.rd, HOV_w13.out.rd, HEA_w13.out.rd, HEB_w13.out.rd, HEP_w13.out.rd, HEQ_w13.out.rd, Below.refl _ _⟩ : _ ∧ _) ?_
  clear hrb
  intro z116 z117 z118 z119 z120 z121 z122 z123 z124 z125 z126 z127 z128 z129 z130 z131 z132 z133 z134 z135 z136 z137 z138 z139 z140 z141 z142 z143 z144 z145 z146 z147 z148 z149 z150 z151 z152 z153 z154 z155 z156 z157 z158 z159 z160 z161 z162 z163 z164 z165 z166 z167 z168 z169 z170 z171 z172 z173 z174 z175 z176 z177 z178 z179 z180 z181 z182 z183 z184 z185 w20 hS
  have hb20 := hS.out.2.2.2.2.2.2.2.2.2.2.2.2.2.2.2.2.2.2.2.2.2.2
  clear hS
  clear HFB_w13
  clear HEB_w13
  clear HDG_w13
  clear HOG_w13
  clear HDV_w13
  clear HOV_w13
  clear HEQ_w13
  clear HDY_w13
  clear HOY_w13
  have HD_w20 := hide (HD_w13.out.carry hb20)
  have HDO_w20 := hide (HDO_w13.out.carry hb20)
  have HBm_w20 := hide (HBm_w13.out.carry hb20)
  have HEA_w20 := hide (HEA_w13.out.carry hb20)
  have HFA_w20 := hide (HFA_w13.out.carry hb20)
  have HOC_w20 := hide (HOC_w13.out.carry hb20)
  have HDC_w20 := hide (HDC_w13.out.carry hb20)
  have HOX_w20 := hide (HOX_w13.out.carry hb20)
  have HDX_w20 := hide (HDX_w13.out.carry hb20)
  have HOU_w20 := hide (HOU_w13.out.carry hb20)
  have HDU_w20 := hide (HDU_w13.out.carry hb20)
  have HEP_w20 := hide (HEP_w13.out.carry hb20)
  have HB_w20 := hide (show Below w.heap.size w w20 from HB_w13.out.trans (hb20.mono HB_w13.out.size))
  clear HD_w13 HDO_w13 HBm_w13 HEA_w13 HFA_w13 HOC_w13 HDC_w13 HOX_w13 HDX_w13 HOU_w13 HDU_w13 HEP_w13 HB_w13 hb20
  have HTA := hide (show TurnOk w20 wm.heap.size (.slice aA pA cA) from HEA_w20.out.turn)
  have HTP := hide (show TurnOk w20 wm.heap.size (.slice aP pP cP) from HEP_w20.out.turn)
  have HTC := hide (show TurnF w20 wm.heap.size (.slice aC pC cC) pC by have := HOC_w20.out.turnF HlC.out.2; rwa [← HPC.out] at this)
  have HTX := hide (show TurnF w20 wm.heap.size (.slice aX pX cX) pX by have := HOX_w20.out.turnF HlX.out.2; rwa [← HPX.out] at this)
  have HTU := hide (show TurnF w20 wm.heap.size (.slice aU pU cU) pU by have := HOU_w20.out.turnF HlU.out.2; rwa [← HPU.out] at this)
  have hlC : pC ≤ 1000 := by have := HlC.out.1; have := HPC.out; omega
  have hlX : pX ≤ 1000 := by have := HlX.out.1; have := HPX.out; omega
  have hlU : pU ≤ 1000 := by have := HlU.out.1; have := HPU.out; omega
  have hlA : pA ≤ 1000000 := by have := HlV.out; have := HPA.out; omega
  have hlP : pP ≤ 1000000 := by have := HlP.out; have := HPP.out; omega
  have HSE := hide HBm_w20.out.size
  have r0 := HFA_w20.out.cell1
  go_wp2_with fail
  refine (turn_any aA pA cA wm.heap.size w20 HSE.out hlA HTA.out).mono ?_
  rintro e t1 ⟨⟨vt, rfl⟩, hs1⟩
  have HS1 := hide hs1
  clear hs1 r0 HTA
  go_wp2_with fail
  refine (turn_any aP pP cP wm.heap.size t1 (Nat.le_trans HSE.out HS1.out.2.1) hlP (HTP.out.shp HS1.out)).mono ?_
  rintro e t2 ⟨⟨vt2, rfl⟩, hs2⟩
  have HS2 := hide (HS1.out.trans hs2)
  clear hs2 HS1 HTP
  have dz := (HS2.out.dir HDC_w20.out).cell
  go_wp2
  go_loopw [33] (fun i wr => ∃ k : Nat, k ≤ pC ∧ i = .int .i64 k ∧ Hid (Shp wm.heap.size w20 wr)) (fun i _ => pC - (intOf i).toNat)
  case atStart => exact ⟨0, Nat.zero_le _, rfl, HS2⟩
  case round =>
    obtain ⟨kC, hk, rfl, hsh⟩ := hrel
    try clear dz
    have dr := (hsh.out.dir HDC_w20.out).cell
    by_cases hlt : kC < pC
    · have hlt' : (kC : Int) < pC := by omega
      obtain ⟨g, a2, n2, c2, rfl, q0, q1, q2⟩ := (HTC.out.shp hsh.out).at kC hlt
      go_wp2_with fail
      refine (turn_any a2 n2 c2 wm.heap.size wr (Nat.le_trans HSE.out hsh.out.2.1) q1 q2).mono ?_
      rintro e t9 ⟨⟨vt9, rfl⟩, hs9⟩
      have HS9 := hide (hsh.out.trans hs9)
      clear hs9 q0 dr
      go_wp2
      go_roundw
      case rel => exact ⟨kC + 1, by omega, rfl, HS9⟩
      case measure => simp only [intOf]; omega
    have hdend1 : decide ((kC : Int) < pC) = false := by simpa using (by omega : ¬ (kC : Int) < pC)
    obtain ⟨yC, hy⟩ : ∃ y, y = wr := ⟨_, rfl⟩
    rw [← hy] at hsh dr ⊢
    have HSlC := hsh
    clear hsh hy
    have dzz := dr
    clear dr
    have dz := (HSlC.out.dir HDX_w20.out).cell
    have hd0 := hdend1
    go_wp2
    go_loopw [34] (fun i wr => ∃ k : Nat, k ≤ pX ∧ i = .int .i64 k ∧ Hid (Shp wm.heap.size w20 wr)) (fun i _ => pX - (intOf i).toNat)
    case atStart => exact ⟨0, Nat.zero_le _, rfl, HSlC⟩
    case round =>
      obtain ⟨kX, hk, rfl, hsh⟩ := hrel
      try clear dz
      have dr := (hsh.out.dir HDX_w20.out).cell
      by_cases hlt : kX < pX
      · have hlt' : (kX : Int) < pX := by omega
        obtain ⟨g, a2, n2, c2, rfl, q0, q1, q2⟩ := (HTX.out.shp hsh.out).at kX hlt
        go_wp2_with fail
        refine (turn_any a2 n2 c2 wm.heap.size wr (Nat.le_trans HSE.out hsh.out.2.1) q1 q2).mono ?_
        rintro e t9 ⟨⟨vt9, rfl⟩, hs9⟩
        have HS9 := hide (hsh.out.trans hs9)
        clear hs9 q0 dr
        go_wp2
        go_roundw
        case rel => exact ⟨kX + 1, by omega, rfl, HS9⟩
        case measure => simp only [intOf]; omega
      have hdend2 : decide ((kX : Int) < pX) = false := by simpa using (by omega : ¬ (kX : Int) < pX)
      obtain ⟨yX, hy⟩ : ∃ y, y = wr := ⟨_, rfl⟩
      rw [← hy] at hsh dr ⊢
      have HSlX := hsh
      clear hsh hy
      have dzz := dr
      clear dr
      have dz := (HSlX.out.dir HDU_w20.out).cell
      have hd0 := hdend2
      go_wp2
      go_loopw [35] (fun i wr => ∃ k : Nat, k ≤ pU ∧ i = .int .i64 k ∧ Hid (Shp wm.heap.size w20 wr)) (fun i _ => pU - (intOf i).toNat)
      case atStart => exact ⟨0, Nat.zero_le _, rfl, HSlX⟩
      case round =>
        obtain ⟨kU, hk, rfl, hsh⟩ := hrel
        try clear dz
        have dr := (hsh.out.dir HDU_w20.out).cell
        by_cases hlt : kU < pU
        · have hlt' : (kU : Int) < pU := by omega
          obtain ⟨g, a2, n2, c2, rfl, q0, q1, q2⟩ := (HTU.out.shp hsh.out).at kU hlt
          go_wp2_with fail
          refine (turn_any a2 n2 c2 wm.heap.size wr (Nat.le_trans HSE.out hsh.out.2.1) q1 q2).mono ?_
          rintro e t9 ⟨⟨vt9, rfl⟩, hs9⟩
          have HS9 := hide (hsh.out.trans hs9)
          clear hs9 q0 dr
          go_wp2
          go_roundw
          case rel => exact ⟨kU + 1, by omega, rfl, HS9⟩
          case measure => simp only [intOf]; omega
        have hdend3 : decide ((kU : Int) < pU) = false := by simpa using (by omega : ¬ (kU : Int) < pU)
        obtain ⟨yU, hy⟩ : ∃ y, y = wr := ⟨_, rfl⟩
        rw [← hy] at hsh dr ⊢
        have HSlU := hsh
        clear hsh hy
        have HBZ := hide (show Below wm.heap.size wm yU from (show Below wm.heap.size wm w20 from HBm_w20.out).trans HSlU.out.1)
        have HBW := hide (show Below w.heap.size w yU from HB_w20.out.trans (HSlU.out.1.mono HWT.out))
        have do_ := (HSlU.out.dir HDO_w20.out).cell
        have dd_ := (HSlU.out.dir HD_w20.out).cell
        have hsm := same_ref ao n co fs a n c fs yU (HOM.out.carry HBZ.out) HN.out (HR.out.carry HBW.out) HN.out
        rw [decide_eq_true rfl] at hsm
        go_wp2_with fail
        refine hsm.mono ?_
        rintro e z1 ⟨rfl, hbz⟩
        have HBZ1 := hide (HBZ.out.trans (hbz.mono HBZ.out.size))
        have HBW1 := hide (HBW.out.trans (hbz.mono HBW.out.size))
        clear hsm hbz do_ dd_ dr
        have hsm := same_ext gm al m cm m cl l l z1 (HMR.out.carry HBZ1.out) (HL.out.carry HBW1.out) HM.out HM.out
        rw [decide_eq_true rfl] at hsm
        go_wp2_with fail
        refine hsm.mono ?_
        rintro e z2 ⟨rfl, hbz⟩
        have HBW2 := hide (HBW1.out.trans (hbz.mono HBW1.out.size))
        clear hsm hbz
        go_wp2
        go_ret
        exact ⟨rfl, HBW2.out⟩

end Go.Proofs.Ytjjhaahlinbpdaa

/-
  What the statement MergeSees answers.
-/
import Derived.Test.YtdgjinfaopkalaaLg7
import Derived.Test.YtdgjinfaopkalaaRegP
import Derived.Test.YtdgjinfaopkalaaBxK
namespace Go.Proofs.Ytdgjinfaopkalaa
open Go.RowKit
set_option linter.unusedVariables false
set_option linter.unusedSimpArgs false

theorem rdR_two {w : World} {a : Option Addr} {n c : Nat} {l : List Ent} {a' : Option Addr} {n' c' : Nat} {l' : List Ent} (h : RdN w (.slice a n c) l) (h' : RdN w (.slice a' n' c') l') : RdR (w.alloc (.cells #[.slice a n c, .slice a' n' c'] 22)) (.slice (some ⟨w.heap.size, 0, none⟩) 2 2) [(.slice a n c, l), (.slice a' n' c', l')] := by
  have hb : Below w.heap.size w (w.alloc (.cells #[.slice a n c, .slice a' n' c'] 22)) := (Below.refl _ _).alloc (Nat.le_refl _) _
  refine ⟨.inr ⟨w.heap.size, 0, 2, rfl, Nat.le_refl _, by unfold maxLen; omega, fun j hj i u hu => ?_⟩, fun p hp => ?_⟩
  · have hn := World.news_of_block (w := w.alloc (.cells #[.slice a n c, .slice a' n' c'] 22)) (heap_alloc_new w _)
    match j, hj with
    | 0, _ =>
      match i, hu with
      | 0, hu => cases hu; exact hn 0 (.slice a n c) rfl
      | i + 1, hu => simp [ecR] at hu
    | 1, _ =>
      match i, hu with
      | 0, hu => cases hu; exact hn 1 (.slice a' n' c') rfl
      | i + 1, hu => simp [ecR] at hu
    | j + 2, hj => exact absurd hj (by simp)
  · rcases List.mem_cons.1 hp with rfl | hp
    · exact h.carry hb
    · obtain rfl := List.mem_singleton.1 hp
      exact h'.carry hb
theorem rws_swap {A B : List Ent} (h : rwsE [A, B] = 0) : rwsE [B, A] = 0 ∧ rwsL [B, A] = rwsL [A, B] := by
  obtain ⟨h1, h2, h3, h4⟩ := rws_ok h
  have hc : ∀ l ∈ [B, A], chkG l = 0 := fun l hl => h1 l (by simp at hl ⊢; exact hl.symm)
  have p : (putsM [] [A, B].flatten).Perm [B, A].flatten := (puts_perm _ []).trans (by simpa using List.perm_append_comm)
  obtain ⟨q1, q2⟩ := rws_same hc p (ord_wk h2.2)
  have e : chkG (putsM [] [A, B].flatten) = 0 := (rws_all h1).symm.trans h
  exact ⟨q1.symm.trans e, by rw [h4, ← q2 e]⟩
theorem rws_bool (A B : List Ent) : ((rwsE [A, B] == 0) == (rwsE [B, A] == 0)) = true := by
  by_cases h : rwsE [A, B] = 0
  · rw [h, (rws_swap h).1]; rfl
  · have h' : ¬ rwsE [B, A] = 0 := fun q => h (rws_swap q).1
    have e1 : (rwsE [A, B] == 0) = false := by simpa using h
    have e2 : (rwsE [B, A] == 0) = false := by simpa using h'
    rw [e1, e2]; rfl
theorem rws_two {A B : List Ent} (h : rwsE [A, B] = 0) : ∃ M, rwsL [A, B] = M ∧ okM M ∧ okM A ∧ okM B ∧ M.Perm (A ++ B) ∧ chkG A = 0 ∧ chkG B = 0 ∧ chkG M = 0 := by
  obtain ⟨h1, h2, h3, h4⟩ := rws_ok h
  have hA := h1 A (by simp)
  have hB := h1 B (by simp)
  refine ⟨rwsL [A, B], rfl, by rw [h4]; exact h2, (chkG_ok.1 hA).2, (chkG_ok.1 hB).2, ?_, hA, hB, ?_⟩
  · rw [h4]
    exact (puts_perm _ []).trans (by simp)
  · rw [h4]; exact (rws_all h1).symm.trans h
theorem ask_same {A M : List Ent} {s : Int} (hM : chkG M = 0) (hA : chkG A = 0) (h : askG M s = 0) : askG A s = 0 := askG_ok.2 ⟨hA, (askG_ok.1 h).2⟩
theorem see_len (l : List Ent) (s : Int) : (lseG s false l).length ≤ l.length := Nat.le_trans (List.length_filter_le _ _) (seeG_len s [] l)
def cntG (X B : List Ent) (s : Int) (j : Nat) : Nat := ((X.take j).filter fun e => (seenM B e.1 s).isNone).length
theorem cnt_no {X B : List Ent} {s : Int} {j : Nat} (hj : j < X.length) (h : seenM B (X[j]).1 s = none) : cntG X B s (j + 1) = cntG X B s j + 1 := by
  unfold cntG
  rw [filter_snoc _ X j hj, h]
  simp
theorem cnt_yes {X B : List Ent} {s : Int} {j : Nat} {o : Ent} (hj : j < X.length) (h : seenM B (X[j]).1 s = some o) : cntG X B s (j + 1) = cntG X B s j := by
  unfold cntG
  rw [filter_snoc _ X j hj, h]
  simp
theorem cnt_le (X B : List Ent) (s : Int) (j : Nat) : cntG X B s j ≤ X.length := Nat.le_trans (List.length_filter_le _ _) (by rw [List.length_take]; omega)
def CarS (w wx : World) : Prop := Below w.heap.size w wx
theorem CarS.carry {w wx wy : World} (h : CarS w wx) (hb : Below wx.heap.size wx wy) : CarS w wy := Below.trans h (hb.mono (Below.size h))

set_option maxHeartbeats 16000000 in
set_option maxRecDepth 100000 in
theorem mergeSees_any (a : Option Addr) (n c : Nat) (l : List Ent) (a' : Option Addr) (n' c' : Nat) (l' : List Ent) (s : Int) (w : World) (hrd : RdN w (.slice a n c) l) (hrd' : RdN w (.slice a' n' c') l') :
    Calls Try.prog 6 #[.slice a n c, .slice a' n' c', .int .i64 s] w fun e w' => e = .returned (.bool true) ∧ Below w.heap.size w w' := by
  have HN := hide hrd.len
  have HN' := hide hrd'.len
  have HR_w := hide hrd
  have HQ_w := hide hrd'
  clear hrd hrd'
  go_enter Try.func6, Try.ntmps6
  go_wp2_with fail
  refine (alive_mg w).mono ?_
  rintro e w1 ⟨rfl, b1⟩
  have HB_w1 := hide b1
  have HR_w1 := hide (HR_w.out.carry b1)
  have HQ_w1 := hide (HQ_w.out.carry b1)
  clear b1 HR_w HQ_w
  by_cases h4 : 400 < n
  · have h4' : (400 : Int) < n := by omega
    go_wp2
    go_ret
    exact ⟨by simp, HB_w1.out⟩
  have h4' : decide ((400 : Int) < n) = false := by simpa using (by omega : ¬ (400 : Int) < n)
  have hn4 : n ≤ 400 := by omega
  by_cases h5 : 400 < n'
  · have h5' : (400 : Int) < n' := by omega
    go_wp2
    go_ret
    exact ⟨by simp, HB_w1.out⟩
  have h5' : decide ((400 : Int) < n') = false := by simpa using (by omega : ¬ (400 : Int) < n')
  have hn5 : n' ≤ 400 := by omega
  clear h4 h5
  obtain ⟨w2, hw2⟩ : ∃ wx, wx = w1.alloc (.cells #[.slice a n c, .slice a' n' c'] 22) := ⟨_, rfl⟩
  have hbw2 : Below w1.heap.size w1 w2 := by rw [hw2]; exact (Below.refl _ _).alloc (Nat.le_refl _) _
  have HD := hide (show RdR w2 (.slice (some ⟨w1.heap.size, 0, none⟩) 2 2) [(.slice a n c, l), (.slice a' n' c', l')] by rw [hw2]; exact rdR_two HR_w1.out HQ_w1.out)
  obtain ⟨G1, hG1⟩ : ∃ A, A = w1.heap.size := ⟨_, rfl⟩
  rw [← hG1] at HD
  have HR_w2 := hide (HR_w1.out.carry hbw2)
  have HQ_w2 := hide (HQ_w1.out.carry hbw2)
  have HB_w2 := hide (show Below w.heap.size w w2 from HB_w1.out.trans (hbw2.mono HB_w1.out.size))
  clear hbw2 HR_w1 HQ_w1 HB_w1
  go_wp2_with fail
  rw [← hw2]
  try rw [← hG1]
  clear hw2 hG1
  refine (rgreat_mg _ 2 2 _ w2 HD.out).mono ?_
  rintro e w3 ⟨bg, rfl, -, b3⟩
  clear HD
  have HR_w3 := hide (HR_w2.out.carry b3)
  have HQ_w3 := hide (HQ_w2.out.carry b3)
  have HB_w3 := hide (show Below w.heap.size w w3 from HB_w2.out.trans (b3.mono HB_w2.out.size))
  clear b3 HR_w2 HQ_w2 HB_w2
  cases bg with
  | true =>
    go_wp2
    go_ret
    exact ⟨by simp, HB_w3.out⟩
  | false =>
  obtain ⟨w4, hw4⟩ : ∃ wx, wx = w3.alloc (.cells #[.slice a n c, .slice a' n' c'] 22) := ⟨_, rfl⟩
  have hbw4 : Below w3.heap.size w3 w4 := by rw [hw4]; exact (Below.refl _ _).alloc (Nat.le_refl _) _
  have HD := hide (show RdR w4 (.slice (some ⟨w3.heap.size, 0, none⟩) 2 2) [(.slice a n c, l), (.slice a' n' c', l')] by rw [hw4]; exact rdR_two HR_w3.out HQ_w3.out)
  obtain ⟨G2, hG2⟩ : ∃ A, A = w3.heap.size := ⟨_, rfl⟩
  rw [← hG2] at HD
  have HR_w4 := hide (HR_w3.out.carry hbw4)
  have HQ_w4 := hide (HQ_w3.out.carry hbw4)
  have HB_w4 := hide (show Below w.heap.size w w4 from HB_w3.out.trans (hbw4.mono HB_w3.out.size))
  clear hbw4 HR_w3 HQ_w3 HB_w3
  go_wp2_with fail
  rw [← hw4]
  try rw [← hG2]
  clear hw4 hG2
  refine (rows_mg _ 2 2 _ w4 HD.out (by omega)).mono ?_
  rintro e w5 ⟨a5, n5, c5, rfl, o5, b5⟩
  have HM_w5 := hide (OwG.rd ecN_len o5)
  clear HD o5
  have HR_w5 := hide (HR_w4.out.carry b5)
  have HQ_w5 := hide (HQ_w4.out.carry b5)
  have HB_w5 := hide (show Below w.heap.size w w5 from HB_w4.out.trans (b5.mono HB_w4.out.size))
  clear b5 HR_w4 HQ_w4 HB_w4
  obtain ⟨w6, hw6⟩ : ∃ wx, wx = w5.alloc (.cells #[.slice a' n' c', .slice a n c] 22) := ⟨_, rfl⟩
  have hbw6 : Below w5.heap.size w5 w6 := by rw [hw6]; exact (Below.refl _ _).alloc (Nat.le_refl _) _
  have HD := hide (show RdR w6 (.slice (some ⟨w5.heap.size, 0, none⟩) 2 2) [(.slice a' n' c', l'), (.slice a n c, l)] by rw [hw6]; exact rdR_two HQ_w5.out HR_w5.out)
  obtain ⟨G3, hG3⟩ : ∃ A, A = w5.heap.size := ⟨_, rfl⟩
  rw [← hG3] at HD
  have HR_w6 := hide (HR_w5.out.carry hbw6)
  have HQ_w6 := hide (HQ_w5.out.carry hbw6)
  have HM_w6 := hide (HM_w5.out.carry hbw6)
  have HB_w6 := hide (show Below w.heap.size w w6 from HB_w5.out.trans (hbw6.mono HB_w5.out.size))
  clear hbw6 HR_w5 HQ_w5 HM_w5 HB_w5
  go_wp2_with fail
  rw [← hw6]
  try rw [← hG3]
  clear hw6 hG3
  refine (rows_mg _ 2 2 _ w6 HD.out (by omega)).mono ?_
  rintro e w7 ⟨a7, n7, c7, rfl, o7, b7⟩
  have HO_w7 := hide (OwG.rd ecN_len o7)
  clear HD o7
  have HR_w7 := hide (HR_w6.out.carry b7)
  have HQ_w7 := hide (HQ_w6.out.carry b7)
  have HM_w7 := hide (HM_w6.out.carry b7)
  have HB_w7 := hide (show Below w.heap.size w w7 from HB_w6.out.trans (b7.mono HB_w6.out.size))
  clear b7 HR_w6 HQ_w6 HM_w6 HB_w6
  simp only [lsG, List.map_cons, List.map_nil] at HM_w7 HO_w7 ⊢
  have HBO := hide (rws_bool l l')
  by_cases h : rwsE [l, l'] = 0
  case neg =>
    obtain ⟨z1, hz1⟩ : ∃ z, z = rwsE [l, l'] := ⟨_, rfl⟩
    obtain ⟨z2, hz2⟩ : ∃ z, z = rwsE [l', l] := ⟨_, rfl⟩
    rw [← hz1, ← hz2] at HBO
    rw [← hz1, ← hz2]
    have hz : (z1 == 0) = false := by simpa using (hz1 ▸ h : ¬ z1 = 0)
    have hzn : (z1 != 0) = true := by simpa using (hz1 ▸ h : ¬ z1 = 0)
    have hzz : (z2 == 0) = false := by have := HBO.out; rw [hz] at this; simpa using this
    clear h hz1 hz2 HBO
    obtain ⟨M, hM⟩ : ∃ M, M = rwsL [l, l'] := ⟨_, rfl⟩
    rw [← hM] at HM_w7
    clear hM
    go_wp2_with fail
    refine (at_mg a5 n5 c5 M s w7 HM_w7.out).mono ?_
    rintro e w8 ⟨a8, n8, c8, rfl, -, b8⟩
    have HBE := hide (show Below w.heap.size w w8 from HB_w7.out.trans (b8.mono HB_w7.out.size))
    generalize askG M s = z3
    clear b8
    go_wp2
    go_ret
    exact ⟨rfl, HBE.out⟩
  obtain ⟨M, hM, kM, kA, kB, pM, cA, cB, cM⟩ := rws_two h
  obtain ⟨h', hM'⟩ := rws_swap h
  rw [hM] at hM' HM_w7
  rw [hM'] at HO_w7
  rw [h, h']
  clear h h' hM hM' HBO
  have HLM := hide (show M.length = n + n' by have h1 := pM.length_eq; rw [List.length_append] at h1; have := HN.out; have := HN'.out; omega)
  by_cases h : askG M s = 0
  case neg =>
    obtain ⟨z3, hz3⟩ : ∃ z, z = askG M s := ⟨_, rfl⟩
    have HC := hide (hz3 ▸ at_mg a5 n5 c5 M s w7 HM_w7.out)
    have hz : (z3 == 0) = false := by simpa using (hz3 ▸ h : ¬ z3 = 0)
    have hzn : (z3 != 0) = true := by simpa using (hz3 ▸ h : ¬ z3 = 0)
    clear h hz3 kM kA kB pM cA cB cM
    go_wp2_with fail
    refine HC.out.mono ?_
    rintro e w8 ⟨a8, n8, c8, rfl, -, b8⟩
    have HBE := hide (show Below w.heap.size w w8 from HB_w7.out.trans (b8.mono HB_w7.out.size))
    clear b8
    go_wp2
    go_ret
    exact ⟨rfl, HBE.out⟩
  have hA := ask_same cM cA h
  have hB := ask_same cM cB h
  have C1 := hide (at_mg a5 n5 c5 M s w7 HM_w7.out)
  have C2 := hide (fun wx hx => at_mg a n c l s wx hx)
  have C3 := hide (fun wx hx => at_mg a' n' c' l' s wx hx)
  simp only [h, ansG_ok h] at C1
  simp only [hA, ansG_ok hA] at C2
  simp only [hB, ansG_ok hB] at C3
  have HX0 := hide (fun k => fnd_lse kA s k)
  have HY0 := hide (fun k => fnd_lse kB s k)
  have HS0 := hide (fun k => (fnd_lse kM s k).trans (seen_two kM.2 kA.2 kB.2 pM k s))
  have HXE := hide (fun e (q : e ∈ lseG s false l) => (mem_lse kA).1 q)
  have HYE := hide (fun e (q : e ∈ lseG s false l') => (mem_lse kB).1 q)
  have HMANY := hide (seen_many kM kA kB pM s)
  have LX := hide (see_len l s)
  have LY := hide (see_len l' s)
  have LS := hide (see_len M s)
  clear h hA hB kM kA kB pM cA cB cM
  obtain ⟨X, hX⟩ : ∃ X, X = lseG s false l := ⟨_, rfl⟩
  obtain ⟨Y, hY⟩ : ∃ Y, Y = lseG s false l' := ⟨_, rfl⟩
  obtain ⟨Z, hZ⟩ : ∃ Z, Z = lseG s false M := ⟨_, rfl⟩
  rw [← hX] at C2 HX0 HXE HMANY LX
  rw [← hY] at C3 HY0 HYE HMANY LY
  rw [← hZ] at C1 HS0 HMANY LS
  clear hX hY hZ
  go_wp2_with fail
  refine (C1.out).mono ?_
  rintro e w8 ⟨aZ, nZ, cZ, rfl, oZ, b8⟩
  have HR_w8 := hide (HR_w7.out.carry b8)
  have HQ_w8 := hide (HQ_w7.out.carry b8)
  have HM_w8 := hide (HM_w7.out.carry b8)
  have HO_w8 := hide (HO_w7.out.carry b8)
  have HB_w8 := hide (show Below w.heap.size w w8 from HB_w7.out.trans (b8.mono HB_w7.out.size))
  clear b8 HR_w7 HQ_w7 HM_w7 HO_w7 HB_w7
  have HZ_w8 := hide (OwG.rd ecN_len oZ)
  clear oZ C1
  go_wp2_with fail
  refine (C2.out w8 HR_w8.out).mono ?_
  rintro e w9 ⟨aX, nX, cX, rfl, oX, b9⟩
  have HR_w9 := hide (HR_w8.out.carry b9)
  have HQ_w9 := hide (HQ_w8.out.carry b9)
  have HM_w9 := hide (HM_w8.out.carry b9)
  have HO_w9 := hide (HO_w8.out.carry b9)
  have HZ_w9 := hide (HZ_w8.out.carry b9)
  have HB_w9 := hide (show Below w.heap.size w w9 from HB_w8.out.trans (b9.mono HB_w8.out.size))
  clear b9 HR_w8 HQ_w8 HM_w8 HO_w8 HZ_w8 HB_w8
  have HX_w9 := hide (OwG.rd ecN_len oX)
  clear oX C2
  go_wp2_with fail
  refine (C3.out w9 HQ_w9.out).mono ?_
  rintro e w10 ⟨aY, nY, cY, rfl, oY, b10⟩
  have HR_w10 := hide (HR_w9.out.carry b10)
  have HQ_w10 := hide (HQ_w9.out.carry b10)
  have HM_w10 := hide (HM_w9.out.carry b10)
  have HO_w10 := hide (HO_w9.out.carry b10)
  have HZ_w10 := hide (HZ_w9.out.carry b10)
  have HX_w10 := hide (HX_w9.out.carry b10)
  have HB_w10 := hide (show Below w.heap.size w w10 from HB_w9.out.trans (b10.mono HB_w9.out.size))
  clear b10 HR_w9 HQ_w9 HM_w9 HO_w9 HZ_w9 HX_w9 HB_w9
  have HY_w10 := hide (OwG.rd ecN_len oY)
  clear oY C3
  have hse := (decide_eq_true (rfl : M = M)) ▸ sameEntries_bt a5 n5 c5 M a7 n7 c7 M w10 (by have := HLM.out; omega) HM_w10.out HO_w10.out
  have hML : (n5 : Int) = n + n' := by have h1 := HM_w10.out.len; have := HLM.out; omega
  have hML2 : n5 = n + n' := by have h1 := HM_w10.out.len; have := HLM.out; omega
  subst hML2
  clear hML
  go_wp2_with fail
  refine (hse).mono ?_
  rintro e w11 ⟨rfl, b11⟩
  have HZ_w11 := hide (HZ_w10.out.carry b11)
  have HX_w11 := hide (HX_w10.out.carry b11)
  have HY_w11 := hide (HY_w10.out.carry b11)
  have HB_w11 := hide (show Below w.heap.size w w11 from HB_w10.out.trans (b11.mono HB_w10.out.size))
  clear b11 HZ_w10 HX_w10 HY_w10 HB_w10
  clear hse HR_w10 HQ_w10 HM_w10 HO_w10
  have HNX := hide HX_w11.out.len
  have HNY := hide HY_w11.out.len
  have HNZ := hide HZ_w11.out.len
  have hX4 : nX ≤ 400 := by have := HNX.out; have := LX.out; have := HN.out; omega
  have hY4 : nY ≤ 400 := by have := HNY.out; have := LY.out; have := HN'.out; omega
  have hZ8 : nZ ≤ 800 := by have := HNZ.out; have := LS.out; have := HLM.out; omega
  clear LX LY LS HLM HN HN'
  obtain ⟨v, hv⟩ : ∃ v, v = w11 := ⟨_, rfl⟩
  have HXv := hide (show RdN v (.slice aX nX cX) X by rw [hv]; exact HX_w11.out)
  have HYv := hide (show RdN v (.slice aY nY cY) Y by rw [hv]; exact HY_w11.out)
  have HZv := hide (show RdN v (.slice aZ nZ cZ) Z by rw [hv]; exact HZ_w11.out)
  have HBv := hide (show Below w.heap.size w v by rw [hv]; exact HB_w11.out)
  have HCv := hide (show CarS v w11 by rw [hv]; exact Below.refl _ _)
  clear hv HX_w11 HY_w11 HZ_w11 HB_w11
  go_wp2
  clear h4' h5'
  go_loopw [19, 18] (fun i m wr => ∃ j : Nat, j ≤ nX ∧ i = .int .i64 j ∧ ∃ t : Nat, m = .int .i64 t ∧ Hid (t = nY + cntG X l' s j) ∧ Hid (CarS v wr)) (fun i _ _ => nX - (intOf i).toNat)
  case atStart => exact ⟨0, Nat.zero_le _, rfl, nY, rfl, hide rfl, HCv⟩
  case round =>
    obtain ⟨j, hj, rfl, t, rfl, hT, hC⟩ := hrel
    have ht8 : t ≤ 800 := by have := hT.out; have := cnt_le X l' s j; have := HNX.out; omega
    clear HCv
    by_cases hlt : j < nX
    · have hlt' : (j : Int) < nX := by omega
      have hjl : j < X.length := by have := HNX.out; omega
      obtain ⟨b, off, rfl, p0, p1, p2, p3⟩ := RdN.cells HXv.out (Below.refl _ _) j hjl
      have HQV := hide (show CellsN v b (off + j * 4) X[j] from ⟨p0, p1, p2, p3⟩)
      obtain ⟨q0, q1, q2, q3⟩ := HQV.out.carry hC.out
      clear p0 p1 p2 p3
      have HE := hide (HXE.out _ (List.getElem_mem hjl))
      have HNO := hide (fun q => cnt_no (B := l') (s := s) hjl q)
      have HYES := hide (fun o q => cnt_yes (B := l') (s := s) (o := o) hjl q)
      obtain ⟨x, hx⟩ : ∃ x, x = X[j] := ⟨_, rfl⟩
      simp only [← hx] at q0 q1 q2 q3 HE HNO HYES HQV
      clear hx
      have HFY := hide (HY0.out x.1)
      have HFZ := hide (HS0.out x.1)
      rw [HE.out] at HFZ
      obtain ⟨w2, hw2⟩ : ∃ w2, w2 = wr.alloc (.cells #[.string (bs x.1), .int .i64 x.2.1, .bool x.2.2.1, .string (bs x.2.2.2)] 30) := ⟨_, rfl⟩
      have hb2 : Below wr.heap.size wr w2 := by rw [hw2]; exact (Below.refl _ _).alloc (Nat.le_refl _) _
      obtain ⟨G, hG⟩ : ∃ G, G = wr.heap.size := ⟨_, rfl⟩
      have HE2 := hide (show EntAt w2 G x by rw [hG, hw2]; exact EntAt.new wr x)
      have HC2 := hide (show CarS v w2 from hC.out.carry hb2)
      have HQQ := hide (show ∀ wx, CarS v wx → CellsN wx b (off + j * 4) x from fun wx hb => HQV.out.carry hb)
      have HQ2 := hide (show CellsN w2 b (off + j * 4) x from CellsN.carry ⟨q0, q1, q2, q3⟩ hb2)
      have hc := found_mg aY nY cY Y x.1 w2 (HYv.out.carry HC2.out) (by omega)
      rw [HFY.out] at hc
      have HGv := hide (show v.heap.size ≤ G by rw [hG]; exact Below.size hC.out)
      have HTT := hT
      obtain ⟨x0, x1, x2, x3⟩ := HE2.out.cells
      obtain ⟨r0, -, -, -⟩ := HQ2.out
      rw [hw2] at x0 x1 x2 x3 r0
      rw [hG] at x0 x1 x2 x3
      clear hC hb2 HFY HE hjl hT
      obtain ⟨o, ho⟩ : ∃ o, o = fndV (seenM l' x.1 s) := ⟨_, rfl⟩
      rw [← ho] at hc
      have heg : ∀ op x y xs ys wx, (eqGuard op 30 x y (.agg xs) (.agg ys)).run Try.prog wx = .ok () wx := fun op x y xs ys wx => run_eqGuard_agg wx op 30 x y xs ys (by kernel_rfl)
      cases hq : seenM l' x.1 s with
      | none =>
        rw [hq] at hc HFZ
        have HN2 := hide (show t + 1 = nY + cntG X l' s (j + 1) by rw [HNO.out hq, HTT.out]; omega)
        have HFP := hide (show fndG Z x.1 = some x from HFZ.out)
        clear hq ho HNO HYES HFZ HTT
        simp only [Option.isSome] at hc
        go_wp2_with fail
        rw [← hw2]
        try rw [← hG]
        clear x0 x1 x2 x3 q0 q1 q2 q3 r0 hw2 hG
        refine hc.mono ?_
        rintro e w3 ⟨rfl, b3⟩
        have HE3 := hide (HE2.out.carry b3)
        have HQ3 := hide (HQ2.out.carry b3)
        have HC3 := hide (HC2.out.carry b3)
        clear hc b3 HE2 HQ2 HC2
        obtain ⟨w4, hw4⟩ : ∃ w4, w4 = w3.alloc (.cells #[.string (bs o.1), .int .i64 o.2.1, .bool o.2.2.1, .string (bs o.2.2.2)] 30) := ⟨_, rfl⟩
        have hb4 : Below w3.heap.size w3 w4 := by rw [hw4]; exact (Below.refl _ _).alloc (Nat.le_refl _) _
        obtain ⟨G4, hG4⟩ : ∃ G, G = w3.heap.size := ⟨_, rfl⟩
        have HO4 := hide (show EntAt w4 G4 o by rw [hG4, hw4]; exact EntAt.new w3 o)
        have HE4 := hide (HE3.out.carry hb4)
        have HQ4 := hide (HQ3.out.carry hb4)
        have HC4 := hide (HC3.out.carry hb4)
        clear hb4 HE3 HQ3 HC3
        obtain ⟨x0, x1, x2, x3⟩ := HE4.out.cells
        obtain ⟨o0, o1, o2, o3⟩ := HO4.out.cells
        obtain ⟨q0, q1, q2, q3⟩ := HQ4.out
        rw [hG4] at o0 o1 o2 o3
        rw [hw4] at x0 x1 x2 x3 o0 o1 o2 o3 q0 q1 q2 q3
        go_wp2_with fail
        try rw [← hw4]
        try rw [← hG4]
        clear x0 x1 x2 x3 o0 o1 o2 o3 q0 q1 q2 q3 hw4 hG4
        have hc := found_mg aZ nZ cZ Z x.1 w4 (HZv.out.carry HC4.out) (by omega)
        rw [HFP.out] at hc
        simp only [Option.isSome, fndV, Option.getD] at hc
        refine hc.mono ?_
        rintro e w6 ⟨rfl, b6⟩
        have HE6 := hide (HE4.out.carry b6)
        have HC6 := hide (HC4.out.carry b6)
        clear hc b6 HFP
        obtain ⟨w7, hw7⟩ : ∃ w7, w7 = w6.alloc (.cells #[.string (bs x.1), .int .i64 x.2.1, .bool x.2.2.1, .string (bs x.2.2.2)] 30) := ⟨_, rfl⟩
        have hb7 : Below w6.heap.size w6 w7 := by rw [hw7]; exact (Below.refl _ _).alloc (Nat.le_refl _) _
        obtain ⟨y0, y1, y2, y3⟩ := (show EntAt w7 w6.heap.size x by rw [hw7]; exact EntAt.new w6 x).cells
        obtain ⟨x0, x1, x2, x3⟩ := (HE6.out.carry hb7).cells
        have HC7 := hide (HC6.out.carry hb7)
        rw [hw7] at x0 x1 x2 x3 y0 y1 y2 y3 HC7
        have hst : ∀ wx, (binOp .neq 30 (.agg #[.string (bs x.1), .int .i64 x.2.1, .bool x.2.2.1, .string (bs x.2.2.2)]) (.agg #[.string (bs x.1), .int .i64 x.2.1, .bool x.2.2.1, .string (bs x.2.2.2)])).run Try.prog wx = .ok (.bool false) wx := by
          intro wx
          rw [run_neq_struct, run_equal_ent wx x x, decide_eq_true rfl]; rfl
        clear hb7 hw7 HC6 HE6
        go_wp2
        go_roundw
        case rel => exact ⟨j + 1, by omega, by go_num, t + 1, by go_num, HN2, HC7⟩
        case measure => simp only [intOf]; omega
      | some f =>
        have hof : o = f := by rw [ho, hq]; rfl
        subst hof
        rw [hq] at hc HFZ
        have HN2 := hide (show t = nY + cntG X l' s (j + 1) by rw [HYES.out _ hq, HTT.out])
        by_cases hlt2 : x.2.1 < o.2.1
        · have HFP := hide (show fndG Z x.1 = some o by rw [HFZ.out, nw_two, if_pos hlt2])
          clear hq ho HNO HYES HFZ HTT
          simp only [Option.isSome] at hc
          go_wp2_with fail
          rw [← hw2]
          try rw [← hG]
          clear x0 x1 x2 x3 q0 q1 q2 q3 r0 hw2 hG
          refine hc.mono ?_
          rintro e w3 ⟨rfl, b3⟩
          have HE3 := hide (HE2.out.carry b3)
          have HQ3 := hide (HQ2.out.carry b3)
          have HC3 := hide (HC2.out.carry b3)
          clear hc b3 HE2 HQ2 HC2
          obtain ⟨w4, hw4⟩ : ∃ w4, w4 = w3.alloc (.cells #[.string (bs o.1), .int .i64 o.2.1, .bool o.2.2.1, .string (bs o.2.2.2)] 30) := ⟨_, rfl⟩
          have hb4 : Below w3.heap.size w3 w4 := by rw [hw4]; exact (Below.refl _ _).alloc (Nat.le_refl _) _
          obtain ⟨G4, hG4⟩ : ∃ G, G = w3.heap.size := ⟨_, rfl⟩
          have HO4 := hide (show EntAt w4 G4 o by rw [hG4, hw4]; exact EntAt.new w3 o)
          have HE4 := hide (HE3.out.carry hb4)
          have HQ4 := hide (HQ3.out.carry hb4)
          have HC4 := hide (HC3.out.carry hb4)
          clear hb4 HE3 HQ3 HC3
          obtain ⟨x0, x1, x2, x3⟩ := HE4.out.cells
          obtain ⟨o0, o1, o2, o3⟩ := HO4.out.cells
          obtain ⟨q0, q1, q2, q3⟩ := HQ4.out
          rw [hG4] at o0 o1 o2 o3
          have f0 := HE4.out.fz 0
          have f1 := HE4.out.fz 1
          have f2 := HE4.out.fz 2
          have f3 := HE4.out.fz 3
          obtain ⟨w5, hw5⟩ : ∃ w5, w5 = set4 w4 G (.string (bs o.1)) (.int .i64 o.2.1) (.bool o.2.2.1) (.string (bs o.2.2.2)) := ⟨_, rfl⟩
          have HE5 := hide (show EntAt w5 G o by rw [hw5]; exact HE4.out.put o)
          have HC5 := hide (show CarS v w5 by rw [hw5]; exact below_set4 HC4.out HGv.out _ _ _ _)
          have HQ5 := hide (show CellsN w5 b (off + j * 4) x from HQQ.out w5 HC5.out)
          obtain ⟨q0, q1, q2, q3⟩ := HQ5.out
          unfold set4 at hw5
          rw [hw4] at hw5
          rw [hw5] at q0 q1 q2 q3
          rw [hw4] at f0 f1 f2 f3
          rw [hw4] at x0 x1 x2 x3 o0 o1 o2 o3
          go_wp2_with fail
          rw [← hw5]
          try rw [← hw4]
          try rw [← hG4]
          clear x0 x1 x2 x3 o0 o1 o2 o3 q0 q1 q2 q3 f0 f1 f2 f3 hw5 hw4 hG4
          have hc := found_mg aZ nZ cZ Z x.1 w5 (HZv.out.carry HC5.out) (by omega)
          rw [HFP.out] at hc
          simp only [Option.isSome, fndV, Option.getD] at hc
          refine hc.mono ?_
          rintro e w6 ⟨rfl, b6⟩
          have HE6 := hide (HE5.out.carry b6)
          have HC6 := hide (HC5.out.carry b6)
          clear hc b6 HFP
          obtain ⟨w7, hw7⟩ : ∃ w7, w7 = w6.alloc (.cells #[.string (bs o.1), .int .i64 o.2.1, .bool o.2.2.1, .string (bs o.2.2.2)] 30) := ⟨_, rfl⟩
          have hb7 : Below w6.heap.size w6 w7 := by rw [hw7]; exact (Below.refl _ _).alloc (Nat.le_refl _) _
          obtain ⟨y0, y1, y2, y3⟩ := (show EntAt w7 w6.heap.size o by rw [hw7]; exact EntAt.new w6 o).cells
          obtain ⟨x0, x1, x2, x3⟩ := (HE6.out.carry hb7).cells
          have HC7 := hide (HC6.out.carry hb7)
          rw [hw7] at x0 x1 x2 x3 y0 y1 y2 y3 HC7
          have hst : ∀ wx, (binOp .neq 30 (.agg #[.string (bs o.1), .int .i64 o.2.1, .bool o.2.2.1, .string (bs o.2.2.2)]) (.agg #[.string (bs o.1), .int .i64 o.2.1, .bool o.2.2.1, .string (bs o.2.2.2)])).run Try.prog wx = .ok (.bool false) wx := by
            intro wx
            rw [run_neq_struct, run_equal_ent wx o o, decide_eq_true rfl]; rfl
          clear hb7 hw7 HC6 HE6
          go_wp2
          go_roundw
          case rel => exact ⟨j + 1, by omega, by go_num, t, by go_num, HN2, HC7⟩
          case measure => simp only [intOf]; omega
        · have hlt2' : decide (x.2.1 < o.2.1) = false := by simpa using hlt2
          have HFP := hide (show fndG Z x.1 = some x by rw [HFZ.out, nw_two, if_neg hlt2])
          clear hq ho HNO HYES HFZ HTT hlt2
          simp only [Option.isSome] at hc
          go_wp2_with fail
          rw [← hw2]
          try rw [← hG]
          clear x0 x1 x2 x3 q0 q1 q2 q3 r0 hw2 hG
          refine hc.mono ?_
          rintro e w3 ⟨rfl, b3⟩
          have HE3 := hide (HE2.out.carry b3)
          have HQ3 := hide (HQ2.out.carry b3)
          have HC3 := hide (HC2.out.carry b3)
          clear hc b3 HE2 HQ2 HC2
          obtain ⟨w4, hw4⟩ : ∃ w4, w4 = w3.alloc (.cells #[.string (bs o.1), .int .i64 o.2.1, .bool o.2.2.1, .string (bs o.2.2.2)] 30) := ⟨_, rfl⟩
          have hb4 : Below w3.heap.size w3 w4 := by rw [hw4]; exact (Below.refl _ _).alloc (Nat.le_refl _) _
          obtain ⟨G4, hG4⟩ : ∃ G, G = w3.heap.size := ⟨_, rfl⟩
          have HO4 := hide (show EntAt w4 G4 o by rw [hG4, hw4]; exact EntAt.new w3 o)
          have HE4 := hide (HE3.out.carry hb4)
          have HQ4 := hide (HQ3.out.carry hb4)
          have HC4 := hide (HC3.out.carry hb4)
          clear hb4 HE3 HQ3 HC3
          obtain ⟨x0, x1, x2, x3⟩ := HE4.out.cells
          obtain ⟨o0, o1, o2, o3⟩ := HO4.out.cells
          obtain ⟨q0, q1, q2, q3⟩ := HQ4.out
          rw [hG4] at o0 o1 o2 o3
          rw [hw4] at x0 x1 x2 x3 o0 o1 o2 o3 q0 q1 q2 q3
          go_wp2_with fail
          try rw [← hw4]
          try rw [← hG4]
          clear x0 x1 x2 x3 o0 o1 o2 o3 q0 q1 q2 q3 hw4 hG4
          have hc := found_mg aZ nZ cZ Z x.1 w4 (HZv.out.carry HC4.out) (by omega)
          rw [HFP.out] at hc
          simp only [Option.isSome, fndV, Option.getD] at hc
          refine hc.mono ?_
          rintro e w6 ⟨rfl, b6⟩
          have HE6 := hide (HE4.out.carry b6)
          have HC6 := hide (HC4.out.carry b6)
          clear hc b6 HFP
          obtain ⟨w7, hw7⟩ : ∃ w7, w7 = w6.alloc (.cells #[.string (bs x.1), .int .i64 x.2.1, .bool x.2.2.1, .string (bs x.2.2.2)] 30) := ⟨_, rfl⟩
          have hb7 : Below w6.heap.size w6 w7 := by rw [hw7]; exact (Below.refl _ _).alloc (Nat.le_refl _) _
          obtain ⟨y0, y1, y2, y3⟩ := (show EntAt w7 w6.heap.size x by rw [hw7]; exact EntAt.new w6 x).cells
          obtain ⟨x0, x1, x2, x3⟩ := (HE6.out.carry hb7).cells
          have HC7 := hide (HC6.out.carry hb7)
          rw [hw7] at x0 x1 x2 x3 y0 y1 y2 y3 HC7
          have hst : ∀ wx, (binOp .neq 30 (.agg #[.string (bs x.1), .int .i64 x.2.1, .bool x.2.2.1, .string (bs x.2.2.2)]) (.agg #[.string (bs x.1), .int .i64 x.2.1, .bool x.2.2.1, .string (bs x.2.2.2)])).run Try.prog wx = .ok (.bool false) wx := by
            intro wx
            rw [run_neq_struct, run_equal_ent wx x x, decide_eq_true rfl]; rfl
          clear hb7 hw7 HC6 HE6
          go_wp2
          go_roundw
          case rel => exact ⟨j + 1, by omega, by go_num, t, by go_num, HN2, HC7⟩
          case measure => simp only [intOf]; omega
    · have hd : decide ((j : Int) < nX) = false := by simpa using (by omega : ¬ (j : Int) < nX)
      have HT := hide (show nZ = t by
        rw [hT.out, HNZ.out, HMANY.out, ← HNY.out]
        unfold cntG
        rw [List.take_of_length_le (by have := HNX.out; omega)])
      obtain ⟨v2, hv2⟩ : ∃ v2, v2 = wr := ⟨_, rfl⟩
      clear hT
      go_wp2
      clear hlt hd hj
      go_loopw [25] (fun i wr => ∃ j : Nat, j ≤ nY ∧ i = .int .i64 j ∧ Hid (CarS v wr)) (fun i _ => nY - (intOf i).toNat)
      case atStart => exact ⟨0, Nat.zero_le _, rfl, hC⟩
      case round =>
        rename_i zq wq
        obtain ⟨j, hj, rfl, hC⟩ := hrel
        by_cases hlt : j < nY
        · have hlt' : (j : Int) < nY := by omega
          have hjl : j < Y.length := by have := HNY.out; omega
          obtain ⟨b, off, rfl, p0, p1, p2, p3⟩ := RdN.cells HYv.out (Below.refl _ _) j hjl
          have HQV := hide (show CellsN v b (off + j * 4) Y[j] from ⟨p0, p1, p2, p3⟩)
          obtain ⟨q0, q1, q2, q3⟩ := HQV.out.carry hC.out
          clear p0 p1 p2 p3
          have HE := hide (HYE.out _ (List.getElem_mem hjl))
          obtain ⟨x, hx⟩ : ∃ x, x = Y[j] := ⟨_, rfl⟩
          simp only [← hx] at q0 q1 q2 q3 HE HQV
          clear hx hjl
          have HFX := hide (HX0.out x.1)
          have HFZ := hide (HS0.out x.1)
          rw [HE.out] at HFZ
          have hc := found_mg aX nX cX X x.1 wr (HXv.out.carry hC.out) (by omega)
          rw [HFX.out] at hc
          have heg : ∀ op x y xs ys wx, (eqGuard op 30 x y (.agg xs) (.agg ys)).run Try.prog wx = .ok () wx := fun op x y xs ys wx => run_eqGuard_agg wx op 30 x y xs ys (by kernel_rfl)
          clear HFX HE
          obtain ⟨o, ho⟩ : ∃ o, o = fndV (seenM l x.1 s) := ⟨_, rfl⟩
          rw [← ho] at hc
          clear ho
          cases hq : seenM l x.1 s with
          | none =>
            rw [hq] at hc HFZ
            have HFP := hide (show fndG Z x.1 = some x from HFZ.out)
            clear hq HFZ
            simp only [Option.isSome] at hc
            go_wp2_with fail
            refine hc.mono ?_
            rintro e w3 ⟨rfl, b3⟩
            have HC3 := hide (hC.out.carry b3)
            clear hc b3 q0 q1 q2 q3
            obtain ⟨w4, hw4⟩ : ∃ w4, w4 = w3.alloc (.cells #[.string (bs o.1), .int .i64 o.2.1, .bool o.2.2.1, .string (bs o.2.2.2)] 30) := ⟨_, rfl⟩
            have hb4 : Below w3.heap.size w3 w4 := by rw [hw4]; exact (Below.refl _ _).alloc (Nat.le_refl _) _
            have HC4 := hide (HC3.out.carry hb4)
            obtain ⟨r0, -, -, -⟩ := HQV.out.carry HC4.out
            obtain ⟨G4, hG4⟩ : ∃ G, G = w3.heap.size := ⟨_, rfl⟩
            rw [hw4] at r0
            clear hb4 HC3
            go_wp2_with fail
            rw [← hw4]
            try rw [← hG4]
            clear r0 hw4 hG4
            have hc := found_mg aZ nZ cZ Z x.1 w4 (HZv.out.carry HC4.out) (by omega)
            rw [HFP.out] at hc
            simp only [Option.isSome, fndV, Option.getD] at hc
            refine hc.mono ?_
            rintro e w6 ⟨rfl, b6⟩
            have HC6 := hide (HC4.out.carry b6)
            clear hc b6 HFP HC4
            obtain ⟨w7, hw7⟩ : ∃ w7, w7 = w6.alloc (.cells #[.string (bs x.1), .int .i64 x.2.1, .bool x.2.2.1, .string (bs x.2.2.2)] 30) := ⟨_, rfl⟩
            have hb7 : Below w6.heap.size w6 w7 := by rw [hw7]; exact (Below.refl _ _).alloc (Nat.le_refl _) _
            have hC7 := HC6.out.carry hb7
            have hq7 := HQV.out.carry hC7
            obtain ⟨G7, hG7⟩ : ∃ G, G = w6.heap.size := ⟨_, rfl⟩
            have he7 : EntAt w7 G7 x := by rw [hG7, hw7]; exact EntAt.new w6 x
            have hst : ∀ wx, (binOp .neq 30 (.agg #[.string (bs x.1), .int .i64 x.2.1, .bool x.2.2.1, .string (bs x.2.2.2)]) (.agg #[.string (bs x.1), .int .i64 x.2.1, .bool x.2.2.1, .string (bs x.2.2.2)])).run Try.prog wx = .ok (.bool false) wx := by
              intro wx
              rw [run_neq_struct, run_equal_ent wx x x, decide_eq_true rfl]; rfl
            clear hb7
            have hK : Keeps (fun wx => EntAt wx G7 x ∧ CellsN wx b (off + j * 4) x ∧ CarS v wx) := fun w1 w2 h hb => ⟨h.1.carry hb, h.2.1.carry hb, h.2.2.carry hb⟩
            have hS0 : EntAt w7 G7 x ∧ CellsN w7 b (off + j * 4) x ∧ CarS v w7 := ⟨he7, hq7, hC7⟩
            clear he7 hq7 hC7
            go_wp2_with fail
            rw [← hw7]
            try rw [← hG7]
            clear hw7 hG7
            refine reg_begin hK (by kernel_rfl) hS0 ?_
            intro hS
            clear hS0
            generalize w7.drew = wd at *
            refine reg_plan [0, 1, 2, 3, 4, 5, 6, 7, 8, 9, 10, 11, 12, 13] (fuel := 0) (a' := ?qna1) (by kernel_rfl) (by kernel_rfl) (by kernel_rfl) ?qnp1 hS ?qnn1
            case qnp1 =>
              iterate 14 (apply Yl.cons rfl (by kernel_rfl); focus (rintro wx ⟨hx1, hx2, _⟩; obtain ⟨k0, k1, k2, k3⟩ := hx1.cells; obtain ⟨m0, m1, m2, m3⟩ := hx2; clear hx1; go_simp; all_goals (with_reducible rfl)); try simp only [Act.put, List.setIfInBounds_toArray, List.set_cons_zero, List.set_cons_succ])
              exact Yl.nil
            refine wpAnyH_done (by kernel_rfl) ?_ _
            refine NoPanic.normal ?_
            try simp only [Act.put, List.setIfInBounds_toArray, List.set_cons_zero, List.set_cons_succ]
            have HCe := hide hS.2.2
            clear hS hK hst heg HC6
            go_wp2
            go_roundw
            case rel => exact ⟨j + 1, by omega, by go_num, HCe⟩
            case measure => simp only [intOf]; omega
          | some f =>
            rw [hq] at hc HFZ
            obtain ⟨p, hp⟩ := nw_some f (some x)
            have HFP := hide (show fndG Z x.1 = some p from HFZ.out.trans hp)
            clear hq hp HFZ
            simp only [Option.isSome] at hc
            go_wp2_with fail
            refine hc.mono ?_
            rintro e w3 ⟨rfl, b3⟩
            have HC3 := hide (hC.out.carry b3)
            clear hc b3 q0 q1 q2 q3
            obtain ⟨w4, hw4⟩ : ∃ w4, w4 = w3.alloc (.cells #[.string (bs o.1), .int .i64 o.2.1, .bool o.2.2.1, .string (bs o.2.2.2)] 30) := ⟨_, rfl⟩
            have hb4 : Below w3.heap.size w3 w4 := by rw [hw4]; exact (Below.refl _ _).alloc (Nat.le_refl _) _
            have HC4 := hide (HC3.out.carry hb4)
            obtain ⟨r0, -, -, -⟩ := HQV.out.carry HC4.out
            obtain ⟨G4, hG4⟩ : ∃ G, G = w3.heap.size := ⟨_, rfl⟩
            rw [hw4] at r0
            clear hb4 HC3
            go_wp2_with fail
            rw [← hw4]
            try rw [← hG4]
            clear r0 hw4 hG4
            have hc := found_mg aZ nZ cZ Z x.1 w4 (HZv.out.carry HC4.out) (by omega)
            rw [HFP.out] at hc
            simp only [Option.isSome, fndV, Option.getD] at hc
            refine hc.mono ?_
            rintro e w6 ⟨rfl, b6⟩
            have HC6 := hide (HC4.out.carry b6)
            clear hc b6 HFP HC4
            obtain ⟨w7, hw7⟩ : ∃ w7, w7 = w6.alloc (.cells #[.string (bs p.1), .int .i64 p.2.1, .bool p.2.2.1, .string (bs p.2.2.2)] 30) := ⟨_, rfl⟩
            have hb7 : Below w6.heap.size w6 w7 := by rw [hw7]; exact (Below.refl _ _).alloc (Nat.le_refl _) _
            have hC7 := HC6.out.carry hb7
            have hq7 := HQV.out.carry hC7
            obtain ⟨G7, hG7⟩ : ∃ G, G = w6.heap.size := ⟨_, rfl⟩
            have he7 : EntAt w7 G7 p := by rw [hG7, hw7]; exact EntAt.new w6 p
            have hst : ∀ wx, (binOp .neq 30 (.agg #[.string (bs p.1), .int .i64 p.2.1, .bool p.2.2.1, .string (bs p.2.2.2)]) (.agg #[.string (bs p.1), .int .i64 p.2.1, .bool p.2.2.1, .string (bs p.2.2.2)])).run Try.prog wx = .ok (.bool false) wx := by
              intro wx
              rw [run_neq_struct, run_equal_ent wx p p, decide_eq_true rfl]; rfl
            clear hb7
            have hK : Keeps (fun wx => EntAt wx G7 p ∧ CellsN wx b (off + j * 4) x ∧ CarS v wx) := fun w1 w2 h hb => ⟨h.1.carry hb, h.2.1.carry hb, h.2.2.carry hb⟩
            have hS0 : EntAt w7 G7 p ∧ CellsN w7 b (off + j * 4) x ∧ CarS v w7 := ⟨he7, hq7, hC7⟩
            clear he7 hq7 hC7
            go_wp2_with fail
            rw [← hw7]
            try rw [← hG7]
            clear hw7 hG7
            refine reg_begin hK (by kernel_rfl) hS0 ?_
            intro hS
            clear hS0
            generalize w7.drew = wd at *
            refine reg_plan [0, 1, 2, 3, 4, 5, 6, 7, 8, 9, 10, 11, 12, 13] (fuel := 0) (a' := ?qya1) (by kernel_rfl) (by kernel_rfl) (by kernel_rfl) ?qyp1 hS ?qyn1
            case qyp1 =>
              iterate 6 (apply Yl.cons rfl (by kernel_rfl); focus (rintro wx ⟨hx1, hx2, _⟩; go_simp; all_goals (with_reducible rfl)); try simp only [Act.put, List.setIfInBounds_toArray, List.set_cons_zero, List.set_cons_succ])
              iterate 6 (apply Yl.skip rfl (by kernel_rfl); try simp only [Act.put, List.setIfInBounds_toArray, List.set_cons_zero, List.set_cons_succ])
              iterate 2 (apply Yl.cons rfl (by kernel_rfl); focus (rintro wx ⟨hx1, hx2, _⟩; go_simp; all_goals (with_reducible rfl)); try simp only [Act.put, List.setIfInBounds_toArray, List.set_cons_zero, List.set_cons_succ])
              exact Yl.nil
            refine wpAnyH_done (by kernel_rfl) ?_ _
            refine NoPanic.normal ?_
            try simp only [Act.put, List.setIfInBounds_toArray, List.set_cons_zero, List.set_cons_succ]
            have HCe := hide hS.2.2
            clear hS hK hst heg HC6
            go_wp2
            go_roundw
            case rel => exact ⟨j + 1, by omega, by go_num, HCe⟩
            case measure => simp only [intOf]; omega
        · have hd : decide ((j : Int) < nY) = false := by simpa using (by omega : ¬ (j : Int) < nY)
          have HBe := hide (show Below w.heap.size w wr from HBv.out.trans (Below.mono hC.out HBv.out.size))
          have hzt := HT.out
          subst hzt
          go_wp2
          go_ret
          exact ⟨by simp, HBe.out⟩
end Go.Proofs.Ytdgjinfaopkalaa

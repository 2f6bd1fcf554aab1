/-
  What merge.Rows does, and the document's Rows.
-/
import Derived.Test.YtdgjinfaopkalaaMg9
namespace Go.Proofs.Ytdgjinfaopkalaa
open Go.RowKit
set_option linter.unusedVariables false
set_option linter.unusedSimpArgs false

def lsG (R : List (Value × List Ent)) : List (List Ent) := R.map Prod.snd
theorem lsG_len (R : List (Value × List Ent)) : (lsG R).length = R.length := List.length_map ..
theorem lsG_get {R : List (Value × List Ent)} {k : Nat} (h : k < R.length) (h' : k < (lsG R).length) : (lsG R)[k] = (R[k]).2 := by simp [lsG]
theorem allG_is (R : List (Value × List Ent)) : allG R = (lsG R).flatten := rfl
theorem fla_snoc (Ls : List (List Ent)) (k : Nat) (h : k < Ls.length) : (Ls.take (k + 1)).flatten = (Ls.take k).flatten ++ Ls[k] := by
  rw [List.take_succ_eq_append_getElem h, List.flatten_append]; simp
def firE : List (List Ent) → Int
  | [] => 0
  | l :: R => if chkG l = 0 then firE R else chkG l
theorem firE_bad : ∀ {R : List (List Ent)} {k : Nat} (hk : k < R.length), (∀ l ∈ R.take k, chkG l = 0) → chkG R[k] ≠ 0 → firE R = chkG R[k]
  | l :: R, 0, _, _, h => by unfold firE; rw [if_neg (show ¬ chkG l = 0 from h)]; rfl
  | l :: R, k + 1, hk, hp, h => by
    unfold firE
    rw [if_pos (hp l (by rw [List.take_succ_cons]; exact List.mem_cons_self))]
    exact firE_bad (k := k) (by simpa using hk) (fun x hx => hp x (by rw [List.take_succ_cons]; exact List.mem_cons_of_mem _ hx)) h
theorem firE_ok : ∀ {R : List (List Ent)}, firE R = 0 ↔ ∀ l ∈ R, chkG l = 0
  | [] => by simp [firE]
  | l :: R => by
    unfold firE
    by_cases h : chkG l = 0
    · rw [if_pos h, firE_ok]; simp [h]
    · rw [if_neg h]; simp [h]
def rwsE (Ls : List (List Ent)) : Int := if firE Ls ≠ 0 then firE Ls else chkG (putsM [] Ls.flatten)
def rwsL (Ls : List (List Ent)) : List Ent := if rwsE Ls = 0 then putsM [] Ls.flatten else []
theorem rws_bad {Ls : List (List Ent)} {k : Nat} (hk : k < Ls.length) (hp : ∀ l ∈ Ls.take k, chkG l = 0) (h : chkG Ls[k] ≠ 0) : rwsE Ls = chkG Ls[k] ∧ rwsL Ls = [] := by
  have e := firE_bad hk hp h
  have e1 : rwsE Ls = chkG Ls[k] := by unfold rwsE; rw [e, if_pos h]
  exact ⟨e1, by unfold rwsL; rw [if_neg (by rw [e1]; exact h)]⟩
theorem rws_all {Ls : List (List Ent)} (h : ∀ l ∈ Ls, chkG l = 0) : rwsE Ls = chkG (putsM [] Ls.flatten) := by
  unfold rwsE
  rw [if_neg (fun q => q (firE_ok.2 h))]
theorem rws_many {Ls : List (List Ent)} (h : ∀ l ∈ Ls, chkG l = 0) (hn : 65536 < Ls.flatten.length) : rwsE Ls = 4 ∧ rwsL Ls = [] := by
  have e : rwsE Ls = 4 := by rw [rws_all h]; unfold chkG; rw [if_pos (by rw [putsM_len]; simpa using hn)]
  exact ⟨e, by unfold rwsL; rw [if_neg (by rw [e]; decide)]⟩
theorem rws_ok {Ls : List (List Ent)} (h : rwsE Ls = 0) : (∀ l ∈ Ls, chkG l = 0) ∧ okM (putsM [] Ls.flatten) ∧ Ls.flatten.length ≤ 65536 ∧ rwsL Ls = putsM [] Ls.flatten := by
  have h1 : firE Ls = 0 := by
    refine Decidable.byContradiction fun q => ?_
    unfold rwsE at h
    rw [if_pos q] at h
    exact q h
  have h2 := firE_ok.1 h1
  have h3 := h
  rw [rws_all h2] at h3
  have h4 := chkG_ok.1 h3
  refine ⟨h2, h4.2, by have := h4.1; rw [putsM_len] at this; simpa using this, ?_⟩
  unfold rwsL; rw [if_pos h]
theorem rwsL_bad {Ls : List (List Ent)} (h : rwsE Ls ≠ 0) : rwsL Ls = [] := by unfold rwsL; rw [if_neg h]
theorem rws_same {Ls : List (List Ent)} {M : List Ent} (h : ∀ l ∈ Ls, chkG l = 0) (p : M.Perm Ls.flatten) (hw : WkG M) : chkG M = rwsE Ls ∧ (chkG M = 0 → M = rwsL Ls) := by
  have hok : ∀ e ∈ Ls.flatten, entOk e = true := fun e he => by
    obtain ⟨l, hl, hel⟩ := List.mem_flatten.1 he
    exact (chkG_ok.1 (h l hl)).2.1 e hel
  obtain ⟨h1, h2⟩ := rows_same p hw hok
  have hlen : M.length = (putsM [] Ls.flatten).length := by rw [p.length_eq, putsM_len]; simp
  have e : chkG M = rwsE Ls := by
    rw [rws_all h]
    by_cases hl : 65536 < M.length
    · unfold chkG; rw [if_pos hl, if_pos (by omega)]
    · by_cases ho : okM M
      · rw [chkG_ok.2 ⟨by omega, ho⟩, chkG_ok.2 ⟨by omega, h1.1 ho⟩]
      · have hf : ordM M M.length = false := by
          cases q : ordM M M.length with
          | false => rfl
          | true => exact absurd (ordM_ok.1 q) ho
        have hf2 : ordM (putsM [] Ls.flatten) (putsM [] Ls.flatten).length = false := by
          cases q : ordM (putsM [] Ls.flatten) (putsM [] Ls.flatten).length with
          | false => rfl
          | true => exact absurd (h1.2 (ordM_ok.1 q)) ho
        rw [chkG_bad (by omega) hf, chkG_bad (by omega) hf2]
  refine ⟨e, fun q => ?_⟩
  rw [e] at q
  rw [(rws_ok q).2.2.2, h2 (chkG_ok.1 (e.trans q)).2]
theorem chk_wk {l : List Ent} (h : chkG l = 0) : WkG l := ord_wk (chkG_ok.1 h).2.2

set_option maxHeartbeats 4000000 in
set_option maxRecDepth 100000 in
theorem rows_mg (a : Option Addr) (n c : Nat) (R : List (Value × List Ent)) (w : World) (hrd : RdR w (.slice a n c) R) (hn : n ≤ 100000) :
    Calls Try.prog 11 #[.slice a n c] w fun e w' => ∃ av nv cv, e = .returned (.tuple #[.slice av nv cv, .int .i64 (rwsE (lsG R))]) ∧ OwN w' w.heap.size (.slice av nv cv) (rwsL (lsG R)) ∧ Below w.heap.size w w' := by
  have HN := hide hrd.len
  have HR := hide hrd
  clear hrd
  go_enter Try.func11, Try.ntmps11
  go_wp2
  go_loopw [12, 4] (fun i v wr => ∃ k : Nat, k ≤ n ∧ i = .int .i64 k ∧ ∃ T : Nat, v = .int .i64 T ∧ Hid (T = ((lsG R).take k).flatten.length ∧ T ≤ k * 65536) ∧ Hid (∀ l ∈ (lsG R).take k, chkG l = 0) ∧ Hid (Below w.heap.size w wr)) (fun i _ _ => n - (intOf i).toNat)
  case atStart => exact ⟨0, Nat.zero_le _, rfl, 0, rfl, hide ⟨rfl, Nat.zero_le _⟩, hide (fun l hl => by simp at hl), hide (Below.refl _ _)⟩
  case round =>
    obtain ⟨k, hk, rfl, T, rfl, hT, hC, hbel⟩ := hrel
    by_cases hlt : k < n
    · have hlt' : (k : Int) < n := by omega
      have hkl : k < R.length := by have := HN.out; omega
      have hkg : k < (lsG R).length := by rw [lsG_len]; exact hkl
      obtain ⟨b, off, ax, nx, cx, rfl, q0, hRx, hnx⟩ := HR.out.cells hbel.out k hkl
      rw [← lsG_get hkl hkg] at hRx hnx
      have HFL := hide (fla_snoc (lsG R) k hkg)
      have HTK := hide (List.take_succ_eq_append_getElem hkg)
      have HBAD := hide (fun q => rws_bad hkg hC.out q)
      obtain ⟨x, hx⟩ : ∃ x, x = (lsG R)[k] := ⟨_, rfl⟩
      rw [← hx] at hRx hnx HFL HTK HBAD
      clear hx
      have hcon := check_mg ax nx cx x wr (hRx.carry hbel.out)
      have HNX := hide hnx
      clear hRx hnx
      by_cases hc : chkG x = 0
      · have hnx6 : nx ≤ 65536 := by have := (chkG_ok.1 hc).1; have := HNX.out; omega
        have hT6 : T ≤ 6553600000 := by have := hT.out.2; omega
        have HT2 := hide (show T + nx = ((lsG R).take (k + 1)).flatten.length ∧ T + nx ≤ (k + 1) * 65536 from ⟨by rw [HFL.out, List.length_append, ← hT.out.1, HNX.out], by have := hT.out.2; omega⟩)
        have HC2 := hide (show ∀ l ∈ (lsG R).take (k + 1), chkG l = 0 from fun l hl => by
          rw [HTK.out] at hl
          rcases List.mem_append.1 hl with hl | hl
          · exact hC.out l hl
          · obtain rfl := List.mem_singleton.1 hl; exact hc)
        rw [hc] at hcon
        clear hc hT hC HFL HTK HBAD HNX
        go_wp2_with fail
        refine hcon.mono ?_
        rintro e w1 ⟨rfl, b1⟩
        have HB1 := hide (show Below w.heap.size w w1 from hbel.out.trans (b1.mono hbel.out.size))
        clear hcon b1 hbel
        go_wp2
        go_roundw
        case rel => exact ⟨k + 1, by omega, by go_num, T + nx, by go_num, HT2, HC2, HB1⟩
        case measure => simp only [intOf]; omega
      · have HE := hide (HBAD.out hc)
        clear HBAD HFL HTK hT hC HNX
        generalize chkG x = z at *
        have hz : (z == 0) = false := by simpa using hc
        clear hc
        go_wp2_with fail
        refine hcon.mono ?_
        rintro e w1 ⟨rfl, b1⟩
        have HB1 := hide (show Below w.heap.size w w1 from hbel.out.trans (b1.mono hbel.out.size))
        clear hcon b1 hbel
        go_wp2
        go_ret2
        exact ⟨_, _, _, by rw [HE.out.1]; rfl, by rw [HE.out.2]; exact OwG.nil _ _, HB1.out⟩
    · have hd : decide ((k : Int) < n) = false := by simpa using (by omega : ¬ (k : Int) < n)
      have hkg : (lsG R).length ≤ k := by rw [lsG_len]; have := HN.out; omega
      have HC2 := hide (show ∀ l ∈ lsG R, chkG l = 0 by have := hC.out; rwa [List.take_of_length_le hkg] at this)
      have HT2 := hide (show T = (lsG R).flatten.length by have := hT.out.1; rwa [List.take_of_length_le hkg] at this)
      clear hkg hC hT
      by_cases hm : 65536 < T
      · have hm' : (65536 : Int) < T := by omega
        have HE := hide (rws_many HC2.out (by rw [← HT2.out]; exact hm))
        go_wp2
        go_ret2
        exact ⟨_, _, _, by rw [HE.out.1]; rfl, by rw [HE.out.2]; exact OwG.nil _ _, hbel.out⟩
      have hm' : decide ((65536 : Int) < T) = false := by simpa using (by omega : ¬ (65536 : Int) < T)
      have hcon := merged_mg n a n c R wr (Nat.le_refl _) hn (HR.out.carry hbel.out) (by rw [allG_is, ← HT2.out]; omega)
      clear hm HT2
      go_wp2_with fail
      refine hcon.mono ?_
      rintro e w1 ⟨v, rfl, hM, b1⟩
      obtain ⟨av, nv, cv, M, rfl, o1, p1, k1⟩ := hM
      have HS := hide (rws_same HC2.out (by rw [← allG_is]; exact p1) (k1 fun p hp => chk_wk (HC2.out p.2 (List.mem_map_of_mem hp))))
      have HB1 := hide (show Below w.heap.size w w1 from hbel.out.trans (b1.mono hbel.out.size))
      have HO1 := hide (o1.mono hbel.out.size)
      have hcon2 := check_mg av nv cv M w1 (OwG.rd ecN_len o1)
      rw [HS.out.1] at hcon2
      clear hcon b1 hbel p1 k1 o1
      by_cases hz : rwsE (lsG R) = 0
      · have HL := hide (HS.out.2 (HS.out.1.trans hz))
        have HZ := hide hz
        rw [hz] at hcon2
        clear HS hz
        go_wp2_with fail
        refine hcon2.mono ?_
        rintro e w2 ⟨rfl, b2⟩
        have HB2 := hide (show Below w.heap.size w w2 from HB1.out.trans (b2.mono HB1.out.size))
        have HO2 := hide (HO1.out.carry b2)
        clear hcon2 b2
        go_wp2
        go_ret2
        exact ⟨_, _, _, by rw [HZ.out]; rfl, by rw [← HL.out]; exact HO2.out, HB2.out⟩
      · have HL := hide (rwsL_bad hz)
        clear HS
        obtain ⟨z, hze⟩ : ∃ z, z = rwsE (lsG R) := ⟨_, rfl⟩
        rw [← hze] at hcon2
        have hz' : (z == 0) = false := by simpa using (hze ▸ hz : ¬ z = 0)
        have HZE := hide hze
        clear hz hze
        go_wp2_with fail
        refine hcon2.mono ?_
        rintro e w2 ⟨rfl, b2⟩
        have HB2 := hide (show Below w.heap.size w w2 from HB1.out.trans (b2.mono HB1.out.size))
        clear hcon2 b2
        go_wp2
        go_ret2
        exact ⟨_, _, _, by rw [← HZE.out]; rfl, by rw [HL.out]; exact OwG.nil _ _, HB2.out⟩

end Go.Proofs.Ytdgjinfaopkalaa

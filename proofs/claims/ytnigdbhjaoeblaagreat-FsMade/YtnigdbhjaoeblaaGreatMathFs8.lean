/-
  Plain mathematics of files on a disk: files that are made, deleted and renamed.
-/
import Derived.Test.YtnigdbhjaoeblaaGreatLFs5
namespace Go.Proofs.YtnigdbhjaoeblaaGreat
open Go.RowKit
set_option linter.unusedVariables false
set_option linter.unusedSimpArgs false

/-- Files of one directory that are in the other with the same blocks, on the same disk. -/
theorem like_sub {f g : Fsd} {but : List UInt8} (hf : okFs f) (hg : okFs g) (hd : g.1 = f.1) (hs : ∀ x ∈ f.2.2.1, x ∈ g.2.2.1) : Like f g but := by
  intro x hx _
  have h1 := file_in hf hx
  have h2 := file_in hg (hs x hx)
  refine ⟨h1.2.2.2.2, h2.2.2.2.2, cont_same h1.2.2.2.2 h2.2.2.2.2 (by rw [h1.2.2.2.1, h2.2.2.2.1]) ?_⟩
  intro n _
  rw [hd]
theorem kept_ok {f : Fsd} (h : okFs f) : okFs (f.1, f.2.1, f.2.2.2, f.2.2.2) := turned_ok h (kept_chk h)
theorem like_kept {f : Fsd} (h : okFs f) : Like (f.1, f.2.1, f.2.2.2, f.2.2.2) (f.1, f.2.1, f.2.2.2, f.2.2.2) [] := like_sub (kept_ok h) (kept_ok h) rfl (fun _ hx => hx)
theorem turn_err {f : Fsd} {l : List Fl} {e : Int} (h : (turnFs f l e).2 ≠ 0) : (turnFs f l e).1 = fz := by
  unfold turnFs at *
  split
  · rfl
  · split
    · rfl
    · rename_i h0 h1
      rw [if_neg h0, if_neg h1] at h
      exact absurd rfl h
/-- A file is deleted. -/
theorem delete_all {f : Fsd} {s : List UInt8} (h : (deleteFs f s).2 = 0) : okFs f ∧ deleteFs f s = ((f.1, f.2.1, delF f.2.2.1 s, f.2.2.2), 0) ∧ okFs (f.1, f.2.1, delF f.2.2.1 s, f.2.2.2) ∧ sizeE (f.1, f.2.1, delF f.2.2.1 s, f.2.2.2) s = 6 ∧ Like (f.1, f.2.1, delF f.2.2.1 s, f.2.2.2) f [] := by
  obtain ⟨h0, h1, h2⟩ := turn_ok h
  have hok := fsE_ok h0
  have e : deleteL f.2.2.1 s = delF f.2.2.1 s := by unfold deleteL; rw [if_pos h1]
  have ha := deleted_all hok.2.2.2.2.2 h1
  have hB : okFs (f.1, f.2.1, delF f.2.2.1 s, f.2.2.2) := turned_ok hok ha.1
  refine ⟨hok, by unfold deleteFs; rw [h2, e], hB, ?_, like_sub hB hok rfl (fun x hx => (delF_sub _ _).subset hx)⟩
  unfold sizeE
  rw [if_neg (by rw [fsE_of hB]; decide)]
  unfold bloE
  show (if thereE (delF f.2.2.1 s) s ≠ 0 then thereE (delF f.2.2.1 s) s else _) = 6
  rw [ha.2.1]
  rfl
/-- A file is renamed. -/
theorem rename_all {f : Fsd} {s t : List UInt8} (h : (renameFs f s t).2 = 0) : okFs f ∧ renameFs f s t = ((f.1, f.2.1, renF f.2.2.1 s t, f.2.2.2), 0) ∧ okFs (f.1, f.2.1, renF f.2.2.1 s t, f.2.2.2) ∧ sizeE f s = 0 ∧ sizeE (f.1, f.2.1, renF f.2.2.1 s t, f.2.2.2) t = 0 ∧ contF f s = contF (f.1, f.2.1, renF f.2.2.1 s t, f.2.2.2) t := by
  obtain ⟨h0, h1, h2⟩ := turn_ok h
  have hok := fsE_ok h0
  have e : renameL f.2.2.1 s t = renF f.2.2.1 s t := by unfold renameL; rw [if_pos h1]
  have ha := renamed_all hok.2.2.2.2.2 h1
  have hC : okFs (f.1, f.2.1, renF f.2.2.1 s t, f.2.2.2) := turned_ok hok ha.2.2.1
  have hr := (okFs_may hok).2.1.2
  have m1 : (s, getF f.2.2.1 s) ∈ f.2.2.1 := getF_in hr (thereE_okF ha.1).2.2
  have m2 : (t, getF f.2.2.1 s) ∈ renF f.2.2.1 s t := ins_mem.2 (.inl rfl)
  have i1 := file_in hok m1
  have i2 := file_in hC m2
  refine ⟨hok, by unfold renameFs; rw [h2, e], hC, i1.2.2.2.2, i2.2.2.2.2, ?_⟩
  have s1 : sizeE f s = 0 := i1.2.2.2.2
  have s2 : sizeE (f.1, f.2.1, renF f.2.2.1 s t, f.2.2.2) t = 0 := i2.2.2.2.2
  have b1 : bloL f s = blocksX (getF f.2.2.1 s) := i1.2.2.2.1
  have b2 : bloL (f.1, f.2.1, renF f.2.2.1 s t, f.2.2.2) t = blocksX (getF f.2.2.1 s) := i2.2.2.2.1
  unfold contF
  rw [if_neg (by rw [s1]; decide), if_neg (by rw [s2]; decide), b1, b2]
/-- What is taken lies in what is free. -/
theorem taken_in {a b : Int} {l : List Ex} {n : Int} (ha : 0 ≤ a) (h : takeE a b l n = 0) : riseX a b (takeL a b l n) ∧ manyX (takeL a b l n) = n ∧ takeL a b l n ≠ [] ∧ ∀ k, inL (takeL a b l n) k = true → inL l k = false := by
  obtain ⟨f1, f2, r, f3, f4⟩ := takeE_ok h
  obtain ⟨r1, r2, r3⟩ := freeL_rise f1
  rcases cutX_spec (freeL a b l) n f2 (fun x hx => (r1.1 x hx).2.1) with ⟨k1, _⟩ | ⟨p, x, q, c, k1, k2, k3, k4, k5⟩
  · rw [k1] at f3; cases f3
  rw [k2] at f3
  cases f3
  rw [f4]
  refine ⟨take_parts (q := q) (x := x) (y := (x.1, c)) (k1 ▸ r1) rfl k3 k4, ?_, by simp, ?_⟩
  · unfold manyX at *
    rw [List.map_append, List.sum_append]
    simpa using k5
  · intro k hk
    have hin : inL (freeL a b l) k = true := by
      rw [inL_iff] at hk ⊢
      obtain ⟨y, hy, h1, h2⟩ := hk
      rw [k1]
      rcases List.mem_append.1 hy with hy | hy
      · exact ⟨y, List.mem_append_left _ hy, h1, h2⟩
      · obtain rfl : y = (x.1, c) := by simpa using hy
        exact ⟨x, by simp, h1, by simp only at h2; omega⟩
    rw [r2] at hin
    simp only [Bool.and_eq_true, Bool.not_eq_true'] at hin
    exact hin.2
/-- A file is made. -/
theorem create_all {f : Fsd} {s : List UInt8} {n : Int} (h : (createFs f s n).2 = 0) : okFs f ∧ createFs f s n = ((f.1, f.2.1, mkL f s n, f.2.2.2), 0) ∧ okFs (f.1, f.2.1, mkL f s n, f.2.2.2) ∧ sizeE (f.1, f.2.1, mkL f s n, f.2.2.2) s = 0 ∧ sizeN (f.1, f.2.1, mkL f s n, f.2.2.2) s = n ∧ Like f (f.1, f.2.1, mkL f s n, f.2.2.2) [] ∧ roomE (f.1, f.2.1, mkL f s n, f.2.2.2) = 0 ∧ roomN (f.1, f.2.1, mkL f s n, f.2.2.2) = roomN f - n ∧ 1 ≤ n ∧ n ≤ 4096 ∧ 0 ≤ roomN f ∧ roomN f ≤ 4096 := by
  obtain ⟨h0, h1, h2⟩ := turn_ok h
  have hok := fsE_ok h0
  obtain ⟨m1, m2, m3, m4⟩ := mk_ok h1
  have hd := (okFs_disk hok).1
  have hmm := mnyFs_ok hd
  have h34 := (okFs_disk hok).2.1
  have hm4 := ((okD_iff f.1).1 hd).2.2.1
  obtain ⟨T, hT⟩ : ∃ T, T = takeL 34 (mnyFs f) (usedFs f) n := ⟨_, rfl⟩
  rw [← hT] at m3 m4
  have ht := taken_in (by decide) m2
  rw [← hT, hmm] at ht
  rw [hmm] at m3
  have ha := created_all m3
  have hA : okFs (f.1, f.2.1, insF f.2.2.1 (s, T), f.2.2.2) := turned_ok hok ha.2.1
  have hin : (s, T) ∈ insF f.2.2.1 (s, T) := ins_mem.2 (.inl rfl)
  have hfi := file_in hA hin
  have hpos : ∀ x ∈ T, 0 ≤ x.2 := fun x hx => by have := ht.1.1 x hx; omega
  have hlen := blocks_many hpos
  rw [ht.2.1] at hlen
  rw [m4]
  refine ⟨hok, by unfold createFs; rw [h2, m4], hA, hfi.2.2.2.2, ?_, like_sub hok hA rfl (fun x hx => ins_mem.2 (.inr hx)), ?_⟩
  · have hs : sizeE (f.1, f.2.1, insF f.2.2.1 (s, T), f.2.2.2) s = 0 := hfi.2.2.2.2
    rw [(size_ok hs).2.2]
    have hb : bloL (f.1, f.2.1, insF f.2.2.1 (s, T), f.2.2.2) s = blocksX T := hfi.2.2.2.1
    rw [hb]; exact hlen
  · obtain ⟨c1, c2⟩ := room_cnt hA
    obtain ⟨d1, d2⟩ := room_cnt hok
    have u1 := (used_all hA).2.1
    have u2 := (used_all hok).2.1
    have hap : apX T = true := by
      have hx := (createE_ok m3).2.2.2.2.1
      exact (chkX_ok (ext_chk hx (List.sublist_append_right _ _))).2
    have hcT := manyX_cnt (a := 34) (k := mny f.1 - 34) T (fun x hx => by have := ht.1.1 x hx; omega) hap
    rw [ht.2.1] at hcT
    have hor : ∀ k, inL (usedFs (f.1, f.2.1, insF f.2.2.1 (s, T), f.2.2.2)) k = (inL (usedFs f) k || inL T k) := by
      intro k
      rw [u1, u2]
      show inL (usedF (insF f.2.2.1 (s, T)) ++ usedF f.2.2.2) k = _
      rw [Bool.eq_iff_iff]
      simp only [Bool.or_eq_true, inL_iff, List.mem_append]
      have hp := used_ins f.2.2.1 (s, T)
      constructor
      · rintro ⟨x, hx | hx, h1, h2⟩
        · rcases List.mem_append.1 (hp.mem_iff.1 hx) with hx | hx
          · exact .inl ⟨x, .inl hx, h1, h2⟩
          · exact .inr ⟨x, hx, h1, h2⟩
        · exact .inl ⟨x, .inr hx, h1, h2⟩
      · rintro (⟨x, hx | hx, h1, h2⟩ | ⟨x, hx, h1, h2⟩)
        · exact ⟨x, .inl (hp.mem_iff.2 (List.mem_append_left _ hx)), h1, h2⟩
        · exact ⟨x, .inr hx, h1, h2⟩
        · exact ⟨x, .inl (hp.mem_iff.2 (List.mem_append_right _ hx)), h1, h2⟩
    have e1 := cntB_or (p := inL (usedFs f)) (q := inL T) 34 (mny f.1 - 34) (fun i _ hp => by
      cases e : inL T (34 + (i : Int)) with
      | false => rfl
      | true => rw [ht.2.2.2 _ e] at hp; cases hp)
    have e2 := cnt_not (p := inL (usedFs f)) (a := 34) (mny f.1 - 34)
    have e3 := cnt_not (p := fun k => inL (usedFs f) k || inL T k) (a := 34) (mny f.1 - 34)
    have e4 : roomN (f.1, f.2.1, insF f.2.2.1 (s, T), f.2.2.2) = cntB (fun k => !(inL (usedFs f) k || inL T k)) 34 (mny f.1 - 34) := by
      rw [c2]
      exact cnt_congr _ (fun i _ => by rw [hor])
    have hw := (takeE_ok m2).2.1
    have hn : n ≤ 4096 := by
      by_cases hx : n < 1 ∨ 4096 < n
      · rw [(takeE_arg (takeE_ok m2).1 hx).1] at m2; cases m2
      · omega
    have b1 := cntB_le (fun k => !inL (usedFs f) k) 34 (mny f.1 - 34)
    have b2 := cntB_le (inL (usedFs f)) 34 (mny f.1 - 34)
    refine ⟨c1, ?_, hw, hn, ?_, ?_⟩
    · rw [e4, d2]; omega
    · rw [d2]; omega
    · rw [d2]; omega

theorem tx_len (s : List UInt8) (h : s.length ≤ 16) : (tx s).length ≤ 17 := by
  unfold tx
  rw [List.length_append]
  have := sm_len_le 1 s.length (by omega)
  omega
theorem bytE_len6 {l : List Ex} (h : ∀ x ∈ l, 0 ≤ x.1 ∧ 0 ≤ x.2 ∧ x.1 + x.2 ≤ 4096) : (bytE l).length ≤ 4 * l.length := by
  induction l with
  | nil => simp [bytE]
  | cons x l ih =>
    have a := ih (fun y hy => h y (List.mem_cons_of_mem _ hy))
    have b := h x (List.mem_cons_self ..)
    have e : bytE (x :: l) = bytX x ++ bytE l := rfl
    rw [e, List.length_append, List.length_cons]
    unfold bytX
    rw [List.length_append]
    have c1 := sm_len_le 2 x.1.toNat (by omega)
    have c2 := sm_len_le 2 x.2.toNat (by omega)
    omega
theorem bytFl_len6 {g : Fl} (h1 : g.1.length ≤ 16) (h2 : g.2.length ≤ 64) (h : ∀ x ∈ g.2, 0 ≤ x.1 ∧ 0 ≤ x.2 ∧ x.1 + x.2 ≤ 4096) : (bytFl g).length ≤ 274 := by
  unfold bytFl
  rw [List.length_append, List.length_append]
  have a := tx_len g.1 h1
  have b := sm_len_le 1 g.2.length (by omega)
  have c := bytE_len6 h
  omega
theorem bytF_len {fs : List Fl} (hl : fs.length ≤ 5) (h : ∀ g ∈ fs, g.1.length ≤ 16 ∧ g.2.length ≤ 64 ∧ ∀ x ∈ g.2, 0 ≤ x.1 ∧ 0 ≤ x.2 ∧ x.1 + x.2 ≤ 4096) : (bytF fs).length ≤ 2048 := by
  unfold bytF
  rw [List.length_append]
  have a := sm_len_le 1 fs.length (by omega)
  have b : ∀ l : List Fl, (∀ g ∈ l, (bytFl g).length ≤ 274) → (l.flatMap bytFl).length ≤ 274 * l.length := by
    intro l
    induction l with
    | nil => intro _; simp
    | cons g l ih =>
      intro hg
      have := ih (fun k hk => hg k (List.mem_cons_of_mem _ hk))
      have := hg g (List.mem_cons_self ..)
      rw [List.flatMap_cons, List.length_append, List.length_cons]
      omega
  have := b fs (fun g hg => bytFl_len6 (h g hg).1 (h g hg).2.1 (h g hg).2.2)
  omega
theorem room_many {f : Fsd} (h : okFs f) : roomN f = manyX (freeL 34 (mnyFs f) (usedFs f)) := by
  have hf := free_ok h
  obtain ⟨r1, r2, r3⟩ := freeL_rise hf
  have h1 := (okFs_disk h).1
  have hmm := ((okD_iff f.1).1 h1).2.2.1
  have hm := mnyFs_ok h1
  have hch : chkX (freeL 34 (mnyFs f) (usedFs f)) = 0 := riseX_chk r1 (by decide) (by rw [hm]; omega) r3
  unfold roomN manyR
  rw [if_neg (by rw [fsE_of h]; decide), if_neg (by rw [hf]; decide), if_pos hch]
/-- Where few files are there, so many blocks are found. -/
theorem no_room {f : Fsd} {s : List UInt8} {n : Int} (hok : okFs f) (h : (createFs f s n).2 = 40) (h1 : n ≤ roomN f) (h2 : roomN f ≤ 64) (h3 : f.2.2.1.length < 5) : False := by
  have hc := hok.2.2.2.2.2
  have hd := (okFs_disk hok).1
  have hmm := mnyFs_ok hd
  have e : (createFs f s n).2 = mkE f s n := by
    unfold createFs turnFs
    rw [if_neg (by rw [fsE_of hok]; decide)]
    split
    · rfl
    · rename_i h0; simp only; omega
  rw [e] at h
  have hth : thereE f.2.2.1 s ≠ 40 := by
    unfold thereE
    rw [if_neg (by rw [chkF_top hc]; decide)]
    split
    · decide
    · split <;> decide
  unfold mkE at h
  split at h
  · cases h
  · rename_i t0
    split at h
    · exact hth h
    · rename_i t1
      have t1 : thereE f.2.2.1 s = 6 := by simpa using t1
      by_cases ht : takeE 34 (mnyFs f) (usedFs f) n = 0
      · rw [if_neg (by rw [ht]; decide)] at h
        have tk := taken_in (by decide) ht
        obtain ⟨T, hT⟩ : ∃ T, T = takeL 34 (mnyFs f) (usedFs f) n := ⟨_, rfl⟩
        rw [← hT] at h tk
        have hTl : (T.length : Int) ≤ 64 := by
          have := len_many (l := T) (fun x hx => (tk.1.1 x hx).2.1)
          omega
        have hmy := okFs_may hok
        rw [hmm] at h tk
        have hm4 := ((okD_iff f.1).1 hd).2.2.1
        unfold createE at h
        rw [if_neg (by rw [hc]; decide)] at h
        split at h
        · cases h
        · rename_i n0
          split at h
          · cases h
          · split at h
            · cases h
            · rw [if_neg (by omega)] at h
              unfold fitE at h
              rw [if_pos] at h
              · cases h
              · refine bytF_len (by rw [ins_len]; omega) ?_
                intro g hg
                rcases ins_mem.1 hg with rfl | hg
                · refine ⟨?_, by show T.length ≤ 64; omega, fun x hx => by have := tk.1.1 x hx; omega⟩
                  have : nameF s = true := by simpa using n0
                  exact nameF_len this
                · have hp := may_one hmy g hg
                  refine ⟨hp.2.1, hp.2.2.2, fun x hx => ?_⟩
                  have := extP_all hmy.2.2.1 x ((mem_sub hg).subset hx)
                  omega
      · rw [if_pos ht] at h
        have hf := free_ok hok
        have hr := (freeL_rise hf).1
        by_cases hx : n < 1 ∨ 4096 < n
        · rw [(takeE_arg hf hx).1] at h; cases h
        · rcases cutX_spec (freeL 34 (mnyFs f) (usedFs f)) n (by omega) (fun x hx => (hr.1 x hx).2.1) with ⟨k1, k2⟩ | ⟨p, x, q, c, k1, k2, k3, k4, k5⟩
          · rw [room_many hok] at h1; omega
          · exact ht (takeE_some hf (by omega) (by omega) k2).1

end Go.Proofs.YtnigdbhjaoeblaaGreat

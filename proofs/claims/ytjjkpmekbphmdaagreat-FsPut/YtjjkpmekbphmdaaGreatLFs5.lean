/-
  Are files great?
-/
import Derived.Test.YtjjkpmekbphmdaaGreatLFs4
import Derived.Test.YtjjkpmekbphmdaaGreatL2a
import Derived.Test.YtjjkpmekbphmdaaGreatFiRef1
namespace Go.Proofs.YtjjkpmekbphmdaaGreat
open Go.RowKit
set_option linter.unusedVariables false
set_option linter.unusedSimpArgs false

theorem blkX_nodup (x : Ex) (k : Nat) : (blkX x k).Nodup := by
  unfold blkX
  rw [List.nodup_iff_pairwise_ne, List.pairwise_map]
  exact List.Pairwise.imp (fun h => by omega) List.nodup_range
theorem blocksX_nodup {l : List Ex} (h : apX l = true) (hp : ∀ x ∈ l, 1 ≤ x.2) : (blocksX l).Nodup := by
  have h := (apX_pw l).1 h
  unfold blocksX
  rw [List.nodup_iff_pairwise_ne, List.pairwise_flatMap]
  refine ⟨fun x _ => blkX_nodup x _, ?_⟩
  refine List.Pairwise.imp ?_ h
  intro x y hm a ha b hb
  unfold blkX at ha hb
  obtain ⟨i, hi, rfl⟩ := List.mem_map.1 ha
  obtain ⟨j, hj, rfl⟩ := List.mem_map.1 hb
  have := List.mem_range.1 hi
  have := List.mem_range.1 hj
  unfold meetX at hm
  simp only [Bool.and_eq_false_iff, decide_eq_false_iff_not] at hm
  omega
theorem blocks_used (fs : List Fl) : blocksX (usedF fs) = fs.flatMap fun g => blocksX g.2 := by
  unfold blocksX usedF
  rw [List.flatMap_assoc]
theorem dir_nodup {f : Fsd} (h : okFs f) : (f.2.2.1.flatMap fun g => blocksX g.2).Nodup := by
  rw [← blocks_used]
  have hm := okFs_may h
  have := extP_parts.1 hm.2.2.1
  exact blocksX_nodup this.1 (fun x hx => (extP_all hm.2.2.1 x hx).2.1)
theorem file_nodup {f : Fsd} (h : okFs f) {g : Fl} (hg : g ∈ f.2.2.1) : (blocksX g.2).Nodup := by
  have := dir_nodup h
  rw [List.nodup_iff_pairwise_ne, List.pairwise_flatMap] at this
  exact this.1 g hg
/-- Blocks of two files are apart. -/
theorem files_apart {f : Fsd} (h : okFs f) {g k : Fl} (hg : g ∈ f.2.2.1) (hk : k ∈ f.2.2.1) (hne : g.1 ≠ k.1) {n : Int} (h1 : n ∈ blocksX g.2) : n ∉ blocksX k.2 := by
  have hp := dir_nodup h
  rw [List.nodup_iff_pairwise_ne, List.pairwise_flatMap] at hp
  intro h2
  have hs : ∀ a ∈ f.2.2.1, ∀ b ∈ f.2.2.1, a.1 ≠ b.1 → ∀ x ∈ blocksX a.2, ∀ y ∈ blocksX b.2, x ≠ y := by
    have := hp.2
    intro a ha b hb hab
    obtain ⟨i, hi, rfl⟩ := List.mem_iff_getElem.1 ha
    obtain ⟨j, hj, rfl⟩ := List.mem_iff_getElem.1 hb
    have hpw := List.pairwise_iff_getElem.1 this
    rcases Nat.lt_trichotomy i j with hij | hij | hij
    · exact hpw i j hi hj hij
    · subst hij; exact absurd rfl hab
    · intro x hx y hy e
      exact hpw j i hj hi hij y hy x hx e.symm
  exact hs g hg k hk hne n h1 n h2 rfl
/-- A write of a block. -/
theorem put_all {f : Fsd} {s : List UInt8} {i : Int} {b : List UInt8} (h : (putFs f s i b).2 = 0) :
    okFs f ∧ ∃ d', putFs f s i b = ((d', f.2), 0) ∧ atE f s i = 0 ∧ oneD f.1 (false, atN f s i, b) = some d' ∧ actE (mny f.1) (false, atN f s i, b) = 0 := by
  rw [put_is] at h ⊢
  by_cases h0 : fsE f = 0
  · have hok := fsE_ok h0
    rw [if_neg (by rw [h0]; decide)] at h ⊢
    by_cases h1 : atE f s i = 0
    · rw [if_neg (by rw [h1]; decide)] at h ⊢
      by_cases h2 : (doD f.1 [(false, atN f s i, b)] 1).2 = 0
      · obtain ⟨a1, a2, a3, a4, x, a5, a6⟩ := doD_ok h2
        have a7 := a2 (false, atN f s i, b) (by simp)
        refine ⟨hok, x, ?_, h1, ?_, a7⟩
        · rw [if_neg (by rw [h2]; decide), a6]
        · have : onesD f.1 [(false, atN f s i, b)] = some x := a5
          rw [onesD_one] at this
          exact this
      · rw [if_pos h2] at h; exact absurd h h2
    · rw [if_pos h1] at h; exact absurd h h1
  · rw [if_pos h0] at h; exact absurd h h0
theorem at_file {f : Fsd} {s : List UInt8} {i : Int} (h : okFs f) (ha : atE f s i = 0) : sizeE f s = 0 ∧ ∃ j : Nat, i = j ∧ ∃ hj : j < (bloL f s).length, atN f s i = (bloL f s)[j] := by
  have ha2 := ha
  unfold atE at ha
  by_cases h1 : bloE f s = 0
  · have hs : sizeE f s = 0 := by unfold sizeE; rw [if_neg (by rw [fsE_of h]; decide), h1]
    rw [if_neg (by rw [h1]; decide)] at ha
    by_cases h2 : i < 0 ∨ ((bloL f s).length : Int) ≤ i
    · rw [if_pos h2] at ha; cases ha
    · refine ⟨hs, i.toNat, by omega, by omega, ?_⟩
      have e : i = (i.toNat : Int) := by omega
      have := (get_ok hs (show i.toNat < (bloL f s).length by omega)).2.1
      rw [← e] at this
      exact this
  · rw [if_pos h1] at ha; exact absurd ha h1
theorem put_err {f : Fsd} {s : List UInt8} {i : Int} {b : List UInt8} (h : (putFs f s i b).2 ≠ 0) : (putFs f s i b).1 = fz := by
  rw [put_is] at h ⊢
  by_cases h0 : fsE f ≠ 0
  · rw [if_pos h0]
  · rw [if_neg h0] at h ⊢
    by_cases h1 : atE f s i ≠ 0
    · rw [if_pos h1]
    · rw [if_neg h1] at h ⊢
      by_cases h2 : (doD f.1 [(false, atN f s i, b)] 1).2 ≠ 0
      · rw [if_pos h2]
      · rw [if_neg h2] at h; exact absurd rfl h
theorem flat_set (F G : Int → List UInt8) (b : List UInt8) : ∀ (l : List Int) (j : Nat) (hj : j < l.length), l.Nodup → (∀ n ∈ l, (F n).length = 128) → (∀ n, G n = if n = l[j] then b else F n) →
    l.flatMap G = (l.flatMap F).take (128 * j) ++ (b ++ (l.flatMap F).drop (128 * j + 128))
  | n :: l, 0, hj, hn, hF, hG => by
    have h1 : G n = b := by rw [hG]; simp
    have h2 : l.flatMap G = l.flatMap F := by
      have hx : ∀ m ∈ l, G m = F m := by
        intro m hm
        rw [hG, if_neg]
        intro e
        have e : m = n := e
        subst e
        exact (List.nodup_cons.1 hn).1 hm
      clear hG hF hn hj h1
      induction l with
      | nil => rfl
      | cons a l ih => rw [List.flatMap_cons, List.flatMap_cons, hx a (List.mem_cons_self ..), ih (fun m hm => hx m (List.mem_cons_of_mem _ hm))]
    rw [List.flatMap_cons, h1, h2, List.flatMap_cons]
    have hl := hF n (List.mem_cons_self ..)
    rw [Nat.mul_zero, List.take_zero, Nat.zero_add, List.nil_append, ← hl, List.drop_left]
  | n :: l, j + 1, hj, hn, hF, hG => by
    have hj' : j < l.length := by simpa using hj
    have ih := flat_set F G b l j hj' (List.nodup_cons.1 hn).2 (fun m hm => hF m (List.mem_cons_of_mem _ hm)) (fun m => by rw [hG]; rfl)
    have h1 : G n = F n := by
      rw [hG, if_neg]
      intro e
      have e : n = l[j] := e
      exact (List.nodup_cons.1 hn).1 (e ▸ List.getElem_mem hj')
    have hl := hF n (List.mem_cons_self ..)
    rw [List.flatMap_cons, h1, ih, List.flatMap_cons]
    have e1 : 128 * (j + 1) = (F n).length + 128 * j := by omega
    have e2 : 128 * (j + 1) + 128 = (F n).length + (128 * j + 128) := by omega
    rw [e2, e1, List.take_length_add_append, List.drop_length_add_append, List.append_assoc]
/-- What was put is there, and nothing else has changed. -/
theorem put_spec {f : Fsd} {s : List UInt8} {i : Int} {b : List UInt8} (h : (putFs f s i b).2 = 0) :
    okFs (putFs f s i b).1 ∧ (putFs f s i b).1.2 = f.2 ∧ b.length = 128 ∧ sizeE f s = 0 ∧ sizeE (putFs f s i b).1 s = 0 ∧ (∃ j : Nat, i = j ∧ 128 * j + 128 ≤ (contF f s).length ∧ contF (putFs f s i b).1 s = (contF f s).take (128 * j) ++ (b ++ (contF f s).drop (128 * j + 128))) ∧ getE (putFs f s i b).1 s i = 0 ∧ getL (putFs f s i b).1 s i = b ∧ Like f (putFs f s i b).1 s := by
  obtain ⟨hok, d', e, ha, ho, hact⟩ := put_all h
  rw [e]
  obtain ⟨hs, j, rfl, hj, hN⟩ := at_file hok ha
  obtain ⟨hd, hm34, _, _⟩ := okFs_disk hok
  obtain ⟨o1, o2, _⟩ := okD_one hd hact ho
  have hr := blo_rng2 hs _ (List.getElem_mem hj)
  have hb : b.length = 128 := by
    have : putE (mny f.1) (atN f s j, b) = 0 := by unfold actE at hact; simpa using hact
    exact (putE_ok this).2.2
  have hd1 : d'.1 = f.1.1 ∧ d'.2.1 = f.1.2.1 ++ [(atN f s j, b)] := by
    unfold oneD at ho
    split at ho
    · cases ho
    · simp only [Bool.false_eq_true, if_false] at ho; cases ho; exact ⟨rfl, rfl⟩
  have hokF : okFs (d', f.2.1, f.2.2.1, f.2.2.2) := ok_same hok o1 (by rw [hd1.1]) (fun k _ => by rw [hd1.1]) (by
    intro p hp
    rw [hd1.2] at hp
    rcases List.mem_append.1 hp with hp | hp
    · exact hok.2.2.1 p hp
    · rw [List.mem_singleton.1 hp]; show 34 ≤ atN f s j; rw [hN]; exact hr.1) hok.2.2.2.2.2
  have hokF : okFs (d', f.2) := hokF
  have hsF : sizeE (d', f.2) s = 0 := by rw [size_dir (f := f) (g := (d', f.2)) rfl hok hokF]; exact hs
  have hbl : bloL (d', f.2) s = bloL f s := (blo_dir (f := f) (g := (d', f.2)) rfl s).1
  have hnow : ∀ k : Nat, k < mny f.1 → nowD d' k = if (k : Int) = atN f s j then b else nowD f.1 k := by
    intro k hk
    have := block_write hd hact ho hk
    rw [blockD_now o1 (by omega), blockD_now hd hk] at this
    exact this
  obtain ⟨h0, l, hl⟩ := size_there hs
  have hfi := (file_in hok hl).2.2.2.1
  have hnd : (bloL f s).Nodup := by rw [hfi]; exact file_nodup hok hl
  refine ⟨hokF, rfl, hb, hs, hsF, ⟨j, rfl, ?_, ?_⟩, ?_, ?_, ?_⟩
  · unfold contF
    rw [if_neg (by rw [hs]; decide), flat_len hd _ (blo_rng2 hs)]
    omega
  · unfold contF
    rw [if_neg (by rw [hsF]; decide), if_neg (by rw [hs]; decide), hbl]
    have hG : ∀ n ∈ bloL f s, nowD d' n.toNat = if n = (bloL f s)[j] then b else nowD f.1 n.toNat := by
      intro n hn
      have := blo_rng2 hs n hn
      rw [hnow _ (by omega), hN]
      have e : ((n.toNat : Nat) : Int) = n := by omega
      rw [e]
    have hc : (bloL f s).flatMap (fun n => nowD d' n.toNat) = (bloL f s).flatMap (fun n => if n = (bloL f s)[j] then b else nowD f.1 n.toNat) := by
      have : ∀ (l : List Int), (∀ n ∈ l, n ∈ bloL f s) → l.flatMap (fun n => nowD d' n.toNat) = l.flatMap (fun n => if n = (bloL f s)[j] then b else nowD f.1 n.toNat) := by
        intro l
        induction l with
        | nil => intro _; rfl
        | cons a l ih => intro hx; rw [List.flatMap_cons, List.flatMap_cons, hG a (hx a (List.mem_cons_self ..)), ih (fun m hm => hx m (List.mem_cons_of_mem _ hm))]
      exact this _ (fun n hn => hn)
    show (bloL f s).flatMap (fun n => nowD d' n.toNat) = _
    rw [hc]
    exact flat_set (fun n => nowD f.1 n.toNat) (fun n => if n = (bloL f s)[j] then b else nowD f.1 n.toNat) b (bloL f s) j hj hnd (fun n hn => by have := blo_rng2 hs n hn; exact now_len hd (by omega)) (fun n => rfl)
  · exact (get_ok hsF (i := j) (by rw [hbl]; exact hj)).2.2.1
  · rw [(get_ok hsF (i := j) (by rw [hbl]; exact hj)).2.2.2]
    have e : (bloL (d', f.2) s)[j]'(by rw [hbl]; exact hj) = (bloL f s)[j] := by simp only [hbl]
    rw [e]
    show nowD d' _ = b
    rw [hnow _ (by omega), if_pos (by rw [hN]; omega)]
  · intro g hg hne
    have hsg := (file_in hok hg).2.2.2.2
    have hsg' : sizeE (d', f.2) g.1 = 0 := by rw [size_dir (f := f) (g := (d', f.2)) rfl hok hokF]; exact hsg
    refine ⟨hsg, hsg', cont_same hsg hsg' (blo_dir (f := f) (g := (d', f.2)) rfl g.1).1 ?_⟩
    intro n hn
    have hrn := blo_rng2 hsg n hn
    show nowD d' n.toNat = _
    rw [hnow _ (by omega), if_neg]
    intro e
    rw [hN] at e
    have e : n = (bloL f s)[j] := by omega
    rw [(file_in hok hg).2.2.2.1] at hn
    have hin : n ∈ blocksX l := by
      have h9 : n ∈ bloL f s := e ▸ List.getElem_mem hj
      have hfi' : bloL f s = blocksX l := hfi
      rw [hfi'] at h9
      exact h9
    exact files_apart hok hg hl hne hn hin

end Go.Proofs.YtjjkpmekbphmdaaGreat
namespace Go.Proofs.YtjjkpmekbphmdaaGreat
open Go.RowKit
set_option linter.unusedVariables false
set_option linter.unusedSimpArgs false

set_option maxHeartbeats 1000000 in
set_option maxRecDepth 100000 in
theorem great6_any (x : FsV) (f : Fsd) (w : World) (h : RdX w x f) (hs : (∀ g ∈ f.2.2.1, g.2.length ≤ 1000000000000000) ∧ ∀ g ∈ f.2.2.2, g.2.length ≤ 1000000000000000) :
    Calls Tryz.prog 23 #[x.val] w fun e w' => ∃ r, e = .returned (.bool r) ∧ (r = false → (f.1.1.length ≤ 100000 ∧ f.1.2.1.length ≤ 2000 ∧ f.1.2.2.length ≤ 2000) ∧ okG f.2.2.1 ∧ okG f.2.2.2) ∧ Below w.heap.size w w' := by
  have HSZ := hide hs
  clear hs
  obtain ⟨w1, ew⟩ : ∃ w1, w.alloc (.cells x.cs 33) = w1 := ⟨_, rfl⟩
  have hb1 : Below w.heap.size w w1 := by rw [← ew]; exact (Below.refl _ _).alloc (Nat.le_refl _) _
  have HF_w1 := hide (show FsAt w1 w.heap.size x by rw [← ew]; exact Bq.new _ _ _)
  obtain ⟨k0, k1, k2, k3, k4, k5⟩ := fs_cells HF_w1.out
  have HX := hide h
  have HB_w1 := hide hb1
  clear h hb1
  unfold FsV.val
  unfold FsV.cs at ew
  go_enter Tryz.func23, Tryz.ntmps23
  go_wp2_with fail
  refine (great_any (d := f.1) w1 (HX.out.d.carry HB_w1.out)).mono ?_
  rintro e w2 ⟨⟨r1, rfl, hr1⟩, hb2⟩
  have HF_w2 := hide (HF_w1.out.carry hb2)
  have HB_w2 := hide (show Below w.heap.size w w2 from HB_w1.out.trans (hb2.mono HB_w1.out.size))
  clear k0 k1 k2 k3 k4 k5 ew hb2
  have H1 := hide hr1
  clear hr1
  cases r1 with
  | true =>
    go_wp2
    go_ret
    exact ⟨_, rfl, (fun h => by cases h), HB_w2.out⟩
  | false =>
  obtain ⟨k0, k1, k2, k3, k4, k5⟩ := fs_cells HF_w2.out
  go_wp2_with fail
  refine (great5_any _ _ _ f.2.2.1 w2 (HX.out.fl.carry HB_w2.out) HX.out.n4 HSZ.out.1).mono ?_
  rintro e w3 ⟨r2, rfl, hr2, hb3⟩
  have HF_w3 := hide (HF_w2.out.carry hb3)
  have HB_w3 := hide (show Below w.heap.size w w3 from HB_w2.out.trans (hb3.mono HB_w2.out.size))
  clear k0 k1 k2 k3 k4 k5 hb3
  have H2 := hide hr2
  clear hr2
  cases r2 with
  | true =>
    go_wp2
    go_ret
    exact ⟨_, rfl, (fun h => by cases h), HB_w3.out⟩
  | false =>
  obtain ⟨k0, k1, k2, k3, k4, k5⟩ := fs_cells HF_w3.out
  go_wp2_with fail
  refine (great5_any _ _ _ f.2.2.2 w3 (HX.out.kl.carry HB_w3.out) HX.out.n5 HSZ.out.2).mono ?_
  rintro e w4 ⟨r3, rfl, hr3, hb4⟩
  have HB_w4 := hide (show Below w.heap.size w w4 from HB_w3.out.trans (hb4.mono HB_w3.out.size))
  clear k0 k1 k2 k3 k4 k5 hb4
  have H3 := hide hr3
  clear hr3
  go_wp2
  go_ret
  exact ⟨r3, rfl, fun h => ⟨H1.out (by trivial), H2.out (by trivial), H3.out h⟩, HB_w4.out⟩

end Go.Proofs.YtjjkpmekbphmdaaGreat

/-
  What the statement MountNames answers.
-/
import Derived.Test.YtnigdbhjaoeblaaGreatLFs1
import Derived.Test.YtnigdbhjaoeblaaGreatMathFs4
import Derived.Test.YtnigdbhjaoeblaaGreatFsTop6
namespace Go.Proofs.YtnigdbhjaoeblaaGreat
open Go.RowKit
set_option linter.unusedVariables false
set_option linter.unusedSimpArgs false

set_option maxHeartbeats 4000000 in
set_option maxRecDepth 100000 in
theorem alive6_any (w : World) :
    Calls Tryz.prog 13 #[] w fun e w' => e = .returned (.bool true) ∧ Below w.heap.size w w' := by
  go_enter Tryz.func13, Tryz.ntmps13
  go_wp2_with fail
  refine (one6_any w).mono ?_
  rintro e w1 ⟨v1, x0, hE, rfl, ho1, hb1⟩
  have HE := hide hE
  have HB_w1 := hide hb1
  obtain ⟨x1, e9, hx9, ho9⟩ := ho1.bx
  subst e9
  obtain ⟨w2, ew2⟩ : ∃ wq, w1.alloc (.cells x1.cs 33) = wq := ⟨_, rfl⟩
  have hbw2 : Below w1.heap.size w1 w2 := by rw [← ew2]; exact (Below.refl _ _).alloc (Nat.le_refl _) _
  have HF_w2 := hide (show FsAt w2 w1.heap.size x1 by rw [← ew2]; exact Bq.new _ _ _)
  unfold FsV.cs at ew2
  unfold FsV.val
  have HB_w2 := hide (show Below w.heap.size w w2 from HB_w1.out.trans (hbw2.mono HB_w1.out.size))
  have HR_w2 := hide (hx9.carry hbw2)
  have HWX := hide (show WfX (ex2 x0) from wf_ex _ _ (by decide) _ _ (.inr rfl) (.inl rfl))
  have hge := get_fs x1 (ex2 x0) [97] 2 w2 HR_w2.out HWX.out
  rw [(ex2_get HE.out).1, (ex2_get HE.out).2.1] at hge
  obtain ⟨k0, k1, k2, k3, k4, k5⟩ := fs_cells HF_w2.out
  clear ho1 hb1 ho9 hx9 hbw2 hE
  go_wp2_with fail
  try rw [ew2]
  refine hge.mono ?_
  rintro e w3 ⟨v3, rfl, ho3, hb3⟩
  have HF_w3 := hide (HF_w2.out.carry hb3)
  have HR_w3 := hide (HR_w2.out.carry hb3)
  have HB_w3 := hide (show Below w.heap.size w w3 from HB_w2.out.trans (hb3.mono HB_w2.out.size))
  obtain ⟨ng, hng⟩ : ∃ n, n = ones6.length := ⟨_, rfl⟩
  obtain ⟨ag, cg, eg⟩ : ∃ a c, v3 = .slice a ng c := by rw [hng]; exact ho3.form
  subst eg
  have HO_w3 := hide (ho3.mono HB_w2.out.size)
  have hro := room_fs x1 (ex2 x0) w3 HR_w3.out HWX.out
  rw [(ex2_room HE.out).1, (ex2_room HE.out).2] at hro
  clear k0 k1 k2 k3 k4 k5 hge ho3 hb3 ew2 hng
  obtain ⟨k0, k1, k2, k3, k4, k5⟩ := fs_cells HF_w3.out
  go_wp2_with fail
  refine hro.mono ?_
  rintro e w4 ⟨rfl, hb4⟩
  have HO_w4 := hide (HO_w3.out.carry hb4)
  have HB_w4 := hide (show Below w.heap.size w w4 from HB_w3.out.trans (hb4.mono HB_w3.out.size))
  clear k0 k1 k2 k3 k4 k5 hro hb4
  obtain ⟨L1, hL1⟩ : ∃ L, L = ones6 := ⟨_, rfl⟩
  have HALL := hide (fun wx => all6_any 1 wx)
  rw [show (List.replicate 128 (1 : UInt8)) = L1 from hL1.symm] at HALL
  rw [← hL1] at HO_w4
  clear hL1
  have hK : Keeps (fun wx => OwB wx w.heap.size (.slice ag ng cg) L1 ∧ Below w.heap.size w wx) := fun w1 w2 h hb => ⟨h.1.carry hb, h.2.trans (hb.mono h.2.size)⟩
  go_wp2_with fail
  refine reg_begin hK (by kernel_rfl) ⟨HO_w4.out, HB_w4.out⟩ ?_
  intro hS
  refine reg_plan [0, 1, 2, 3, 4, 5, 6, 7] (fuel := 13) (a' := ?qaa1) (by kernel_rfl) (by kernel_rfl) (by kernel_rfl) ?qap1 hS ?qan1
  case qap1 =>
    iterate 8 (apply Yl.cons rfl (by kernel_rfl); focus (rintro wx ⟨x1, x2⟩; (have cv1 := conv_own x1); (try have cv2 := conv_own x9); go_simp; all_goals (with_reducible rfl)); try simp only [Act.put, List.setIfInBounds_toArray, List.set_cons_zero, List.set_cons_succ])
    exact Yl.nil
  refine reg_call hK (i := 8) (R := fun v wx => OwB wx w.heap.size v L1) rfl (by kernel_rfl) (by kernel_rfl) (by go_simp) hS ((HALL.out _).mono fun e wy ⟨v, h1, h2, h3⟩ => ⟨v, h1, h2.mono hS.2.size, h3⟩) (fun v w1 w2 h hb => h.carry hb) ?_
  intro v29 w29 hKn hRn hSn
  clear hK hS
  have hK := hKn
  have hS := hSn
  clear hKn hSn
  try simp only [Act.put, List.setIfInBounds_toArray, List.set_cons_zero, List.set_cons_succ]
  refine reg_plan [9, 10, 11, 12, 13, 14, 15, 16, 17, 18, 19, 20] (fuel := 0) (a' := ?qaa2) (by kernel_rfl) (by kernel_rfl) (by kernel_rfl) ?qap2 hS ?qan2
  case qap2 =>
    iterate 12 (apply Yl.cons rfl (by kernel_rfl); focus (rintro wx ⟨⟨x1, x2⟩, x9⟩; (have cv1 := conv_own x1); (try have cv2 := conv_own x9); go_simp; all_goals (with_reducible rfl)); try simp only [Act.put, List.setIfInBounds_toArray, List.set_cons_zero, List.set_cons_succ])
    exact Yl.nil
  refine wpAnyH_done (by kernel_rfl) ?_ _
  refine NoPanic.normal ?_
  try simp only [Act.put, List.setIfInBounds_toArray, List.set_cons_zero, List.set_cons_succ]
  have HB9 := hide hS.1.2
  clear hS hK hRn
  go_wp2
  go_ret
  exact ⟨rfl, HB9.out⟩

end Go.Proofs.YtnigdbhjaoeblaaGreat
namespace Go.Proofs.YtnigdbhjaoeblaaGreat
open Go.RowKit
set_option linter.unusedVariables false
set_option linter.unusedSimpArgs false

def contF (f : Fsd) (s : List UInt8) : List UInt8 := if sizeE f s ≠ 0 then [] else (bloL f s).flatMap fun n => nowD f.1 n.toNat
theorem okFs_may {f : Fsd} (h : okFs f) : mayF f.2.2.1 (mny f.1) := (chkF_may h.2.2.2.2.2).2
theorem ext_chk {l m : List Ex} {b : Int} (h : extP m b) (hs : l.Sublist m) : chkX l = 0 := (extP_sub hs h).1
theorem mem_sub {fs : List Fl} {g : Fl} (h : g ∈ fs) : g.2.Sublist (usedF fs) := by
  have h1 : [g].Sublist fs := List.singleton_sublist.2 h
  have := used_sub h1
  simpa [usedF] using this
/-- A file of a directory that may be. -/
theorem file_in {f : Fsd} (h : okFs f) {g : Fl} (hg : g ∈ f.2.2.1) : thereE f.2.2.1 g.1 = 0 ∧ getF f.2.2.1 g.1 = g.2 ∧ bloE f g.1 = 0 ∧ bloL f g.1 = blocksX g.2 ∧ sizeE f g.1 = 0 := by
  have hm := okFs_may h
  have h1 : isF f.2.2.1 g.1 = true := (isF_iff _ _).2 ⟨g.2, hg⟩
  have h2 : nameF g.1 = true := by
    have := hm.2.1.1 g hg
    unfold oneF at this
    simp only [Bool.and_eq_true] at this
    exact this.1.1
  have h3 := (thereE_in h.2.2.2.2.2 h2 h1).1
  have h4 : getF f.2.2.1 g.1 = g.2 := getF_mem hm.2.1.2 hg
  have h5 : chkX g.2 = 0 := ext_chk hm.2.2.1 (mem_sub hg)
  have h6 : bloE f g.1 = 0 := by unfold bloE; rw [if_neg (by rw [h3]; decide), h4, h5]
  have h7 : bloL f g.1 = blocksX g.2 := by unfold bloL blocksR; rw [if_neg (by rw [h3]; decide), h4, if_pos h5]
  refine ⟨h3, h4, h6, h7, ?_⟩
  unfold sizeE
  rw [if_neg (by rw [fsE_of h]; decide), h6]
theorem size_there {f : Fsd} {s : List UInt8} (h : sizeE f s = 0) : okFs f ∧ ∃ l, (s, l) ∈ f.2.2.1 := by
  unfold sizeE at h
  by_cases h0 : fsE f = 0
  · rw [if_neg (by rw [h0]; decide)] at h
    have hok := fsE_ok h0
    unfold bloE at h
    by_cases h1 : thereE f.2.2.1 s = 0
    · exact ⟨hok, (isF_iff _ _).1 (thereE_okF h1).2.2⟩
    · rw [if_pos h1] at h; exact absurd h h1
  · rw [if_pos h0] at h; exact absurd h h0
theorem blocksX_mem {l : List Ex} {n : Int} (h : n ∈ blocksX l) : ∃ x ∈ l, x.1 ≤ n ∧ n < x.1 + x.2 := by
  obtain ⟨x, hx, hn⟩ := List.mem_flatMap.1 h
  refine ⟨x, hx, ?_⟩
  unfold blkX at hn
  obtain ⟨i, hi, rfl⟩ := List.mem_map.1 hn
  have := List.mem_range.1 hi
  omega
/-- Blocks of files are on the disk, from the first one on. -/
theorem blo_rng {f : Fsd} (h : okFs f) {g : Fl} (hg : g ∈ f.2.2.1) : ∀ n ∈ blocksX g.2, 34 ≤ n ∧ n < mny f.1 := by
  intro n hn
  obtain ⟨x, hx, h1, h2⟩ := blocksX_mem hn
  have := extP_all (okFs_may h).2.2.1 x ((mem_sub hg).subset hx)
  omega
theorem blo_rng2 {f : Fsd} {s : List UInt8} (h : sizeE f s = 0) : ∀ n ∈ bloL f s, 34 ≤ n ∧ n < mny f.1 := by
  obtain ⟨h0, l, hl⟩ := size_there h
  rw [(file_in h0 hl).2.2.2.1]
  exact blo_rng h0 hl
theorem size_ok {f : Fsd} {s : List UInt8} (h : sizeE f s = 0) : okFs f ∧ bloE f s = 0 ∧ sizeN f s = (bloL f s).length := by
  obtain ⟨h0, l, hl⟩ := size_there h
  refine ⟨h0, (file_in h0 hl).2.2.1, ?_⟩
  unfold sizeN
  rw [if_neg (by rw [fsE_of h0]; decide)]
/-- The contents are the same where the blocks are. -/
theorem cont_same {f g : Fsd} {s : List UInt8} (h1 : sizeE f s = 0) (h2 : sizeE g s = 0) (hl : bloL g s = bloL f s) (hb : ∀ n ∈ bloL f s, nowD g.1 n.toNat = nowD f.1 n.toNat) : contF f s = contF g s := by
  unfold contF
  rw [if_neg (by rw [h1]; decide), if_neg (by rw [h2]; decide), hl]
  have : ∀ (l : List Int), (∀ n ∈ l, nowD g.1 n.toNat = nowD f.1 n.toNat) → (l.flatMap fun n => nowD f.1 n.toNat) = l.flatMap fun n => nowD g.1 n.toNat := by
    intro l
    induction l with
    | nil => intro _; rfl
    | cons a l ih => intro h; rw [List.flatMap_cons, List.flatMap_cons, h a (List.mem_cons_self ..), ih (fun n hn => h n (List.mem_cons_of_mem _ hn))]
  exact this _ hb
theorem blo_dir {f g : Fsd} (h : g.2.2.1 = f.2.2.1) (s : List UInt8) : bloL g s = bloL f s ∧ bloE g s = bloE f s := by
  unfold bloL bloE
  rw [h]
  exact ⟨rfl, rfl⟩
theorem size_dir {f g : Fsd} (h : g.2.2.1 = f.2.2.1) (hf : okFs f) (hg : okFs g) (s : List UInt8) : sizeE g s = sizeE f s := by
  unfold sizeE
  rw [fsE_of hf, fsE_of hg, (blo_dir h s).2]

end Go.Proofs.YtnigdbhjaoeblaaGreat
namespace Go.Proofs.YtnigdbhjaoeblaaGreat
open Go.RowKit
set_option linter.unusedVariables false
set_option linter.unusedSimpArgs false

/-- All files but one are in both, with the same in them. -/
def Like (f g : Fsd) (but : List UInt8) : Prop := ∀ x ∈ f.2.2.1, x.1 ≠ but → sizeE f x.1 = 0 ∧ sizeE g x.1 = 0 ∧ contF f x.1 = contF g x.1

end Go.Proofs.YtnigdbhjaoeblaaGreat
namespace Go.Proofs.YtnigdbhjaoeblaaGreat
open Go.RowKit
set_option linter.unusedVariables false
set_option linter.unusedSimpArgs false

/-- Two states with the same directory and the same blocks from the first one on are alike. -/
theorem like_of {f g : Fsd} {but : List UInt8} (hf : okFs f) (hg : okFs g) (hd : g.2.2.1 = f.2.2.1) (hb : ∀ k : Nat, 34 ≤ k → k < mny f.1 → nowD g.1 k = nowD f.1 k) : Like f g but := by
  intro x hx _
  have h1 := (file_in hf hx).2.2.2.2
  have h2 : sizeE g x.1 = 0 := by rw [size_dir hd hf hg]; exact h1
  refine ⟨h1, h2, cont_same h1 h2 (blo_dir hd x.1).1 ?_⟩
  intro n hn
  have := blo_rng2 h1 n hn
  exact hb _ (by omega) (by omega)
theorem last_le {f : Fsd} (h : okFs f) : (lastS f.1 (f.2.1 % 2)).1 ≤ f.2.1 := by
  obtain ⟨_, _, hg, hL⟩ := okFs_disk h
  obtain ⟨_, _, _, hb⟩ := latestS_ok hL
  rw [bestS_slot hb hg]
  exact Nat.le_refl _
theorem commit_all {f : Fsd} (hok : okFs f) (h : (commitFs f).2 = 0) : ∃ x, commitFs f = ((x, f.2.1 + 1, f.2.2.1, f.2.2.1), 0) ∧ okFs (x, f.2.1 + 1, f.2.2.1, f.2.2.1) ∧ x.2.1 = [] ∧ mny x = mny f.1 ∧ f.2.1 + 1 < 4294967296 ∧ Like f (x, f.2.1 + 1, f.2.2.1, f.2.2.1) [] := by
  rw [commit_is] at h ⊢
  unfold comFs at h ⊢
  rw [if_neg (by rw [fsE_of hok]; decide)] at h ⊢
  obtain ⟨h1, h2, h3, h4⟩ := okFs_disk hok
  have hlt := (okFs_size hok).2
  by_cases hg : f.2.1 = 4294967295
  · rw [if_pos hg] at h; cases h
  · rw [if_neg hg] at h ⊢
    cases ho : onesD f.1 (actsF (f.2.1 + 1) (bytF f.2.2.1)) with
    | none => rw [ho] at h; cases h
    | some x =>
      have hc := hok.2.2.2.2.2
      have hx := commit_ok h1 h2 hok.2.2.1 hc (by omega) (last_le hok) ho
      have hb : (bytF f.2.2.1).length ≤ 2048 := (chkF_may hc).2.2.2.2
      obtain ⟨o1, o2, o3, o4⟩ := acts_block h1 h2 (by omega) hb ho
      refine ⟨x, rfl, hx, o3, o2, by omega, like_of hok hx rfl (fun k hk hk2 => ?_)⟩
      show nowD x k = nowD f.1 k
      have e1 : nowD x k = blk x.1 k := by unfold nowD; rw [o3]; rfl
      rw [e1, o4 k hk2, if_neg (by omega), if_neg (by rw [wholeB_len]; omega), blockD_now h1 hk2]
/-! ### how many blocks can be given -/
end Go.Proofs.YtnigdbhjaoeblaaGreat
set_option linter.unusedVariables false
namespace Go.Proofs.YtnigdbhjaoeblaaGreat

def ab6 : List Fl := [([97], [(34, 3)])]
def blkA : List UInt8 := padB ((bytF ab6).drop (128 * 0))
def supA : List UInt8 := (blockS 2 ((bytF ab6).length : Nat)).1
def blk0 : List UInt8 := padB ((bytF []).drop (128 * 0))
def sup0 : List UInt8 := (blockS 3 ((bytF []).length : Nat)).1
def actA : List Ac := [(true, 0, []), (false, 2, blkA), (true, 0, []), (false, 0, supA), (true, 0, [])]
def act0 : List Ac := actA ++ [(true, 0, []), (false, 18, blk0), (true, 0, []), (false, 1, sup0), (true, 0, [])]
def datA (x : List UInt8) : List UInt8 := setBs (setBs (setBs x [(36, ones6)]) [(2, blkA)]) [(0, supA)]
def dat0 (x : List UInt8) : List UInt8 := setBs (setBs (setBs x []) [(18, blk0)]) [(1, sup0)]
def ex3 (x : List UInt8) : Fsd := ((x, [(36, ones6)], []), 1, ab6, [])
def ex4 (x : List UInt8) : Fsd := ((datA x, [], actA), 2, ab6, ab6)
def ex5 (x : List UInt8) : Fsd := ((datA x, [], actA), 2, [], ab6)
def ex6 (x : List UInt8) : Fsd := ((dat0 (datA x), [], act0), 3, [], [])
theorem actsF_A : actsF 2 (bytF ab6) = actA := by kernel_rfl
theorem actsF_0 : actsF 3 (bytF []) = [(true, 0, []), (false, 18, blk0), (true, 0, []), (false, 1, sup0), (true, 0, [])] := by kernel_rfl
section
variable {x : List UInt8}
theorem ex3_is (h : Exm x) : clearFs (ex2 x) = (ex3 x, 0) := by
  rw [clear_is, if_neg (by rw [fsE_of (ex2_ok h)]; decide)]
  rfl
theorem ex3_okD (h : Exm x) : okD (ex3 x).1 = true := by
  have h2 := (okD_iff _).1 (ex2_okD h)
  exact (okD_iff _).2 ⟨h2.1, h2.2.1, h2.2.2.1, h2.2.2.2.1, (by show (0 : Nat) ≤ 65536; omega), h2.2.2.2.2.2.1, (fun a ha => by cases ha)⟩
theorem ex3_ok (h : Exm x) : okFs (ex3 x) := ok_same (f := ex1 x) (d := (ex3 x).1) (D := [([97], [(34, 3)])]) (ex1_ok h) (ex3_okD h) rfl (fun _ _ => rfl) (by intro p hp; have hp : p ∈ [((36, ones6) : Pu)] := hp; rw [List.mem_singleton.1 hp]; decide) (ex1_ok h).2.2.2.2.2
theorem ex4_do : onesD (ex3 x).1 actA = some (ex4 x).1 := by unfold actA; kernel_rfl
theorem ex4_is (h : Exm x) : commitFs (ex3 x) = (ex4 x, 0) := by
  rw [commit_is]
  unfold comFs
  rw [if_neg (by rw [fsE_of (ex3_ok h)]; decide), if_neg (show ¬ (ex3 x).2.1 = 4294967295 from show ¬ (1 : Nat) = 4294967295 by decide)]
  have e : actsF ((ex3 x).2.1 + 1) (bytF (ex3 x).2.2.1) = actA := actsF_A
  rw [e, ex4_do]
  rfl
theorem ex4_all (h : Exm x) : okFs (ex4 x) ∧ mny (ex4 x).1 = 64 := by
  obtain ⟨X, h1, h2, h3, h4, h5, h6⟩ := commit_all (ex3_ok h) (by rw [ex4_is h])
  rw [ex4_is h] at h1
  have e : ex4 x = (X, (ex3 x).2.1 + 1, (ex3 x).2.2.1, (ex3 x).2.2.1) := congrArg Prod.fst h1
  have e1 : (ex4 x).1 = X := congrArg Prod.fst e
  rw [e1, h4]
  exact ⟨by rw [e]; exact h2, h.2⟩
theorem ex4_room (h : Exm x) : roomE (ex4 x) = 0 ∧ roomN (ex4 x) = 27 := room_of (u := [(34, 3), (34, 3)]) (ex4_all h).1 (by rw [mnyFs_ok (okFs_disk (ex4_all h).1).1, (ex4_all h).2]; rfl) (by kernel_rfl) (by kernel_rfl) (by kernel_rfl) (by kernel_rfl)
theorem ex5_is (h : Exm x) : deleteFs (ex4 x) [97] = (ex5 x, 0) := by
  have e1 : thereE (ex4 x).2.2.1 [97] = 0 := ex_there
  have e2 : deleteL (ex4 x).2.2.1 [97] = [] := by kernel_rfl
  unfold deleteFs
  rw [e1, e2, turn_of (fsE_of (ex4_all h).1)]
  rfl
theorem chk_0 : chkF [] 64 = 0 := by kernel_rfl
theorem ex5_ok (h : Exm x) : okFs (ex5 x) := turned_ok (f := ex4 x) (l := []) (ex4_all h).1 (by rw [(ex4_all h).2]; exact chk_0)
theorem ex5_m (h : Exm x) : mny (ex5 x).1 = 64 := (ex4_all h).2
theorem ex5_room (h : Exm x) : roomE (ex5 x) = 0 ∧ roomN (ex5 x) = 27 := room_of (u := [(34, 3)]) (ex5_ok h) (by rw [mnyFs_ok (okFs_disk (ex5_ok h)).1, ex5_m h]; rfl) (by kernel_rfl) (by kernel_rfl) (by kernel_rfl) (by kernel_rfl)
theorem ex6_do : onesD (ex5 x).1 [(true, 0, []), (false, 18, blk0), (true, 0, []), (false, 1, sup0), (true, 0, [])] = some (ex6 x).1 := by kernel_rfl
theorem ex6_is (h : Exm x) : commitFs (ex5 x) = (ex6 x, 0) := by
  rw [commit_is]
  unfold comFs
  rw [if_neg (by rw [fsE_of (ex5_ok h)]; decide), if_neg (show ¬ (ex5 x).2.1 = 4294967295 from show ¬ (2 : Nat) = 4294967295 by decide)]
  have e : actsF ((ex5 x).2.1 + 1) (bytF (ex5 x).2.2.1) = _ := actsF_0
  rw [e, ex6_do]
  rfl
theorem ex6_all (h : Exm x) : okFs (ex6 x) ∧ mny (ex6 x).1 = 64 := by
  obtain ⟨X, h1, h2, h3, h4, h5, h6⟩ := commit_all (ex5_ok h) (by rw [ex6_is h])
  rw [ex6_is h] at h1
  have e : ex6 x = (X, (ex5 x).2.1 + 1, (ex5 x).2.2.1, (ex5 x).2.2.1) := congrArg Prod.fst h1
  have e1 : (ex6 x).1 = X := congrArg Prod.fst e
  rw [e1, h4]
  exact ⟨by rw [e]; exact h2, ex5_m h⟩
theorem ex6_room (h : Exm x) : roomE (ex6 x) = 0 ∧ roomN (ex6 x) = 30 := room_of (u := []) (ex6_all h).1 (by rw [mnyFs_ok (okFs_disk (ex6_all h).1).1, (ex6_all h).2]; rfl) (by kernel_rfl) (by kernel_rfl) (by kernel_rfl) (by kernel_rfl)
theorem ex0_room (h : Exm x) : roomE (ex0 x) = 0 ∧ roomN (ex0 x) = 30 := room_of (u := []) h.1 (ex0_m h) (by kernel_rfl) (by kernel_rfl) (by kernel_rfl) (by kernel_rfl)
theorem ex0_many (h : Exm x) : createFs (ex0 x) [97] 31 = (fz, 40) ∧ createFs (ex0 x) [97] 0 = (fz, 2) := by
  have e : usedFs (ex0 x) = [] := by unfold usedFs ex0; kernel_rfl
  have e2 : (ex0 x).2.2.1 = [] := rfl
  have m1 : mkE (ex0 x) [97] 31 = 40 := by unfold mkE; rw [ex0_m h, e, e2]; kernel_rfl
  have m2 : mkE (ex0 x) [97] 0 = 2 := by unfold mkE; rw [ex0_m h, e, e2]; kernel_rfl
  unfold createFs
  rw [m1, m2]
  unfold turnFs
  rw [if_neg (by rw [ex0_e h]; decide), if_pos (by decide), if_neg (by rw [ex0_e h]; decide), if_pos (by decide)]
  exact ⟨rfl, rfl⟩
theorem ex0_put (h : Exm x) : putFs (ex0 x) [97] 0 ones6 = (fz, 6) := by
  have e : atE (ex0 x) [97] 0 = 6 := by kernel_rfl
  rw [put_is, if_neg (by rw [ex0_e h]; decide), if_pos (by rw [e]; decide), e]
theorem ex2_size (h : Exm x) : sizeE (ex2 x) [97] = 0 ∧ sizeN (ex2 x) [97] = 3 := by
  have h1 := fsE_of (ex2_ok h)
  obtain ⟨h2, h3⟩ := ex_blo (ex2 x).1 1 []
  have h2 : bloE (ex2 x) [97] = 0 := h2
  have h3 : bloL (ex2 x) [97] = [34, 35, 36] := h3
  have e : sizeE (ex2 x) [97] = 0 := by unfold sizeE; rw [if_neg (by rw [h1]; decide), h2]
  exact ⟨e, by rw [(size_ok e).2.2, h3]; rfl⟩
theorem ex0_names (h : Exm x) : namesL (ex0 x) = [] := by
  unfold namesL
  rw [if_neg (by rw [ex0_e h]; decide)]
  rfl
end
theorem fz_bad : fsE fz = 8 := by
  rcases fsE_cases fz with ⟨h, h0⟩ | ⟨h, h0⟩
  · have := (okFs_disk h).2.1
    have e : mny fz.1 = 0 := by kernel_rfl
    omega
  · exact h0
theorem format34 : formatFs 34 = (fz, 2) := by
  have e : (newD 34).2 = 0 := by kernel_rfl
  unfold formatFs
  rw [if_neg (by rw [e]; decide), if_pos (by decide)]

end Go.Proofs.YtnigdbhjaoeblaaGreat
namespace Go.Proofs.YtnigdbhjaoeblaaGreat
open Go.RowKit
set_option linter.unusedVariables false
set_option linter.unusedSimpArgs false

theorem RdD.mk33 {w : World} {x1 : Option Addr} {m1 d1 : Nat} {x2 : Option Addr} {m2 d2 : Nat} {x3 : Option Addr} {m3 d3 : Nat} {d : Dk} (h : RdD w (.agg #[.slice x1 m1 d1, .slice x2 m2 d2, .slice x3 m3 d3]) d) : m3 = d.2.2.length := by
  obtain ⟨a1, c1, a2, c2, a3, c3, e, _⟩ := h.form
  have e1 := congrArg (fun v : Value => match v with | .agg z => z[2]! | _ => undef) e
  simp at e1
  exact e1.2.1
theorem RdX.n3 {w : World} {x : FsV} {f : Fsd} (h : RdX w x f) : x.n3 = f.1.2.2.length := h.d.mk33
theorem RdD.d3 {w : World} {v1 v2 v3 : Value} {d : Dk} (h : RdD w (.agg #[v1, v2, v3]) d) : RdA w v3 d.2.2 := by
  obtain ⟨x, y, z, e, h1, h2, h3⟩ := h
  have e1 : _ = z := congrArg (fun v : Value => match v with | .agg z => z[2]! | _ => undef) e
  simp at e1
  rw [e1]; exact h3
def DkB (w : World) (q : Nat) : Prop := ∃ y0 y1 y2, Bq w q 27 #[y0, y1, y2]
theorem DkB.carry {w w' : World} {r : Nat} (h : DkB w r) (hb : Below w.heap.size w w') : DkB w' r := by
  obtain ⟨v0, v1, v2, h⟩ := h
  exact ⟨v0, v1, v2, h.carry hb⟩
theorem DkB.new (w : World) : DkB (w.alloc (.cells #[.slice none 0 0, .slice none 0 0, .slice none 0 0] 27)) w.heap.size := ⟨_, _, _, Bq.new _ _ _⟩
end Go.Proofs.YtnigdbhjaoeblaaGreat
set_option linter.unusedVariables false
namespace Go.Proofs.YtnigdbhjaoeblaaGreat

def ab7 : List Fl := [([97], [(34, 1)])]
section
variable {x : List UInt8}
end
end Go.Proofs.YtnigdbhjaoeblaaGreat
namespace Go.Proofs.YtnigdbhjaoeblaaGreat
open Go.RowKit
set_option linter.unusedVariables false
set_option linter.unusedSimpArgs false

def CellAt (w : World) (b o : Nat) (v : Value) : Prop := w.cell? ⟨b, o, none⟩ = some v
theorem CellAt.carry {w w' : World} {b o : Nat} {v : Value} (h : CellAt w b o v) (hb : Below w.heap.size w w') : CellAt w' b o v := keeps_cell _ _ _ _ h hb
end Go.Proofs.YtnigdbhjaoeblaaGreat

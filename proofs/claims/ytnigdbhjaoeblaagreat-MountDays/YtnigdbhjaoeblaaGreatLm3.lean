/-
  One call of files, as the statements of layer 7 make it; heavy calls; commits among acts.
-/
import Derived.Test.YtnigdbhjaoeblaaGreatLm2
namespace Go.Proofs.YtnigdbhjaoeblaaGreat
open Go.RowKit
set_option linter.unusedVariables false
set_option linter.unusedSimpArgs false

abbrev St := Nat × List UInt8 × List UInt8 × Int × List UInt8
def stepS (f : Fsd) (s : St) : Fsd := stepF f s.1 s.2.1 s.2.2.1 s.2.2.2.1 s.2.2.2.2
def RdS (w : World) (v : Value) (l : List St) : Prop :=
  (l = [] ∧ (v = .slice none 0 0 ∨ ∃ a c, v = .slice (some a) 0 c)) ∨
  ∃ b off c, v = .slice (some ⟨b, off, none⟩) l.length c ∧ l.length ≤ c ∧ c ≤ maxLen ∧ ∀ j, (h : j < l.length) →
    (l[j]).1 < 256 ∧ w.cell? ⟨b, off + j * 5, none⟩ = some (.int .u8 (l[j]).1) ∧ w.cell? ⟨b, off + j * 5 + 1, none⟩ = some (.string (bs (l[j]).2.1)) ∧ w.cell? ⟨b, off + j * 5 + 2, none⟩ = some (.string (bs (l[j]).2.2.1)) ∧ w.cell? ⟨b, off + j * 5 + 3, none⟩ = some (.int .i64 (l[j]).2.2.2.1) ∧ ∃ a c2, w.cell? ⟨b, off + j * 5 + 4, none⟩ = some (.slice a (l[j]).2.2.2.2.length c2) ∧ Rd w (.slice a (l[j]).2.2.2.2.length c2) (l[j]).2.2.2.2
theorem RdS.carry {w w' : World} {v : Value} {l : List St} (h : RdS w v l) (hb : Below w.heap.size w w') : RdS w' v l := by
  rcases h with h | ⟨b, off, c, rfl, h1, h2, h3⟩
  · exact .inl h
  · refine .inr ⟨b, off, c, rfl, h1, h2, fun j hj => ?_⟩
    obtain ⟨k0, k1, k2, k3, k4, a, c2, k5, k6⟩ := h3 j hj
    exact ⟨k0, keeps_cell _ _ _ _ k1 hb, keeps_cell _ _ _ _ k2 hb, keeps_cell _ _ _ _ k3 hb, keeps_cell _ _ _ _ k4 hb, a, c2, keeps_cell _ _ _ _ k5 hb, k6.carry hb⟩
theorem RdS.form {w : World} {v : Value} {l : List St} (h : RdS w v l) : ∃ a c, v = .slice a l.length c := by
  rcases h with ⟨rfl, rfl | ⟨a, c, rfl⟩⟩ | ⟨b, off, c, rfl, _⟩
  · exact ⟨_, _, rfl⟩
  · exact ⟨_, _, rfl⟩
  · exact ⟨_, _, rfl⟩
theorem RdS.len_le {w : World} {v : Value} {l : List St} (h : RdS w v l) : l.length ≤ maxLen := by
  rcases h with ⟨rfl, _⟩ | ⟨b, off, c, rfl, h1, h2, _⟩
  · exact Nat.zero_le _
  · omega
theorem RdS.at {w : World} {a : Option Addr} {n c : Nat} {l : List St} (h : RdS w (.slice a n c) l) (j : Nat) (hj : j < l.length) :
    ∃ b off, a = some ⟨b, off, none⟩ ∧ (l[j]).1 < 256 ∧ w.cell? ⟨b, off + j * 5, none⟩ = some (.int .u8 (l[j]).1) ∧ w.cell? ⟨b, off + j * 5 + 1, none⟩ = some (.string (bs (l[j]).2.1)) ∧ w.cell? ⟨b, off + j * 5 + 2, none⟩ = some (.string (bs (l[j]).2.2.1)) ∧ w.cell? ⟨b, off + j * 5 + 3, none⟩ = some (.int .i64 (l[j]).2.2.2.1) ∧ ∃ a2 c2, w.cell? ⟨b, off + j * 5 + 4, none⟩ = some (.slice a2 (l[j]).2.2.2.2.length c2) ∧ Rd w (.slice a2 (l[j]).2.2.2.2.length c2) (l[j]).2.2.2.2 := by
  rcases h with ⟨rfl, _⟩ | ⟨b, off, c', e, _, _, hc⟩
  · exact absurd hj (by simp)
  · cases e; exact ⟨b, off, rfl, hc j hj⟩
theorem wf_ok {f : Fsd} (h : okFs f) : WfX f := by
  have h4 := ((okD_iff f.1).1 (okFs_disk h).1).2.2.1
  have hk := (chkF_may (kept_chk h)).2
  refine ⟨(okFs_size h).2, ?_, ?_⟩
  · intro g hg x hx
    have := extP_all (okFs_may h).2.2.1 x ((mem_sub hg).subset hx)
    unfold wfX
    omega
  · intro g hg x hx
    have := extP_all hk.2.2.1 x ((mem_sub hg).subset hx)
    unfold wfX
    omega

set_option maxHeartbeats 8000000 in
set_option maxRecDepth 100000 in
theorem does7_any (x : FsV) (f : Fsd) (k : Nat) (s t : List UInt8) (n : Int) (ab : Option Addr) (nb cb : Nat) (b : List UInt8) (w : World) (h : RdX w x f) (hw : WfX f) (hb : Rd w (.slice ab nb cb) b) (hk : k < 256) :
    Calls Tryz.prog 62 #[x.val, .agg #[.int .u8 k, .string (bs s), .string (bs t), .int .i64 n, .slice ab nb cb]] w fun e w' => ∃ y : FsV, e = .returned y.val ∧ Hid ((y = x ∧ stepF f k s t n b = f) ∨ OwFs w' w.heap.size y.val (stepF f k s t n b)) ∧ Below w.heap.size w w' := by
  have HX := hide h
  have HW := hide hw
  have HBY := hide hb
  clear h hw hb
  obtain ⟨w1, ew⟩ : ∃ w1, (((w.alloc (.cells x.cs 33)).alloc (.cells #[.int .u8 k, .string (bs s), .string (bs t), .int .i64 n, .slice ab nb cb] 109)).alloc (.cells #[.slice none 0 0, .slice none 0 0, .slice none 0 0, .int .u32 0, .slice none 0 0, .slice none 0 0] 33)).alloc (.cells x.cs 33) = w1 := ⟨_, rfl⟩
  have q0 : Below w.heap.size w (w.alloc (.cells x.cs 33)) := (Below.refl _ _).alloc (Nat.le_refl _) _
  have q1 : Below (w.alloc (.cells x.cs 33)).heap.size (w.alloc (.cells x.cs 33)) ((w.alloc (.cells x.cs 33)).alloc (.cells #[.int .u8 k, .string (bs s), .string (bs t), .int .i64 n, .slice ab nb cb] 109)) := (Below.refl _ _).alloc (Nat.le_refl _) _
  have q2 : Below ((w.alloc (.cells x.cs 33)).alloc (.cells #[.int .u8 k, .string (bs s), .string (bs t), .int .i64 n, .slice ab nb cb] 109)).heap.size ((w.alloc (.cells x.cs 33)).alloc (.cells #[.int .u8 k, .string (bs s), .string (bs t), .int .i64 n, .slice ab nb cb] 109)) (((w.alloc (.cells x.cs 33)).alloc (.cells #[.int .u8 k, .string (bs s), .string (bs t), .int .i64 n, .slice ab nb cb] 109)).alloc (.cells #[.slice none 0 0, .slice none 0 0, .slice none 0 0, .int .u32 0, .slice none 0 0, .slice none 0 0] 33)) := (Below.refl _ _).alloc (Nat.le_refl _) _
  have q3 : Below (((w.alloc (.cells x.cs 33)).alloc (.cells #[.int .u8 k, .string (bs s), .string (bs t), .int .i64 n, .slice ab nb cb] 109)).alloc (.cells #[.slice none 0 0, .slice none 0 0, .slice none 0 0, .int .u32 0, .slice none 0 0, .slice none 0 0] 33)).heap.size (((w.alloc (.cells x.cs 33)).alloc (.cells #[.int .u8 k, .string (bs s), .string (bs t), .int .i64 n, .slice ab nb cb] 109)).alloc (.cells #[.slice none 0 0, .slice none 0 0, .slice none 0 0, .int .u32 0, .slice none 0 0, .slice none 0 0] 33)) w1 := by rw [← ew]; exact (Below.refl _ _).alloc (Nat.le_refl _) _
  have HF_w1 := hide (show FsAt w1 w.heap.size x from (((Bq.new w 33 x.cs).carry q1).carry q2).carry q3)
  have HS_w1 := hide (show Bq w1 (w.heap.size + 1) 109 #[.int .u8 k, .string (bs s), .string (bs t), .int .i64 n, .slice ab nb cb] by have := ((Bq.new (w.alloc (.cells x.cs 33)) 109 #[.int .u8 k, .string (bs s), .string (bs t), .int .i64 n, .slice ab nb cb]).carry q2).carry q3; simpa using this)
  have HFB_w1 := hide (show FsB w1 (w.heap.size + 2) by have := (FsB.new ((w.alloc (.cells x.cs 33)).alloc (.cells #[.int .u8 k, .string (bs s), .string (bs t), .int .i64 n, .slice ab nb cb] 109))).carry q3; simpa using this)
  have HL_w1 := hide (show FsAt w1 (w.heap.size + 3) x by have := Bq.new (((w.alloc (.cells x.cs 33)).alloc (.cells #[.int .u8 k, .string (bs s), .string (bs t), .int .i64 n, .slice ab nb cb] 109)).alloc (.cells #[.slice none 0 0, .slice none 0 0, .slice none 0 0, .int .u32 0, .slice none 0 0, .slice none 0 0] 33)) 33 x.cs; rw [← ew]; simpa using this)
  have b1 := q0.trans (q1.mono q0.size)
  have b2 := b1.trans (q2.mono b1.size)
  have HB_w1 := hide (b2.trans (q3.mono b2.size))
  clear q0 q1 q2 q3 b1 b2
  unfold FsV.val
  unfold FsV.cs at ew
  obtain ⟨m, hm⟩ : ∃ m : Nat, m = k % 7 := ⟨_, rfl⟩
  have hm7 : m < 7 := by omega
  have hrm : (k : Int) % 7 = m := by omega
  have hrt : Int.tmod (k : Int) 7 = m := by rw [Int.tmod_eq_emod_of_nonneg (by omega)]; exact hrm
  obtain ⟨k0, k1, k2, k3, k4, k5⟩ := fs_cells HF_w1.out
  have s0 : w1.cell? ⟨w.heap.size + 1, 0, none⟩ = some (.int .u8 k) := HS_w1.out.cell 0
  have s1 : w1.cell? ⟨w.heap.size + 1, 1, none⟩ = some (.string (bs s)) := HS_w1.out.cell 1
  have s2 : w1.cell? ⟨w.heap.size + 1, 2, none⟩ = some (.string (bs t)) := HS_w1.out.cell 2
  have s3 : w1.cell? ⟨w.heap.size + 1, 3, none⟩ = some (.int .i64 n) := HS_w1.out.cell 3
  have s4 : w1.cell? ⟨w.heap.size + 1, 4, none⟩ = some (.slice ab nb cb) := HS_w1.out.cell 4
  go_enter Tryz.func62, Tryz.ntmps62
  have HM := hide (show k % 7 = m from hm.symm)
  clear hm
  rcases (by omega : m = 0 ∨ m = 1 ∨ m = 2 ∨ m = 5 ∨ m = 6 ∨ m = 3 ∨ m = 4) with rfl | rfl | rfl | rfl | rfl | rfl | rfl
  · skip
    have HR := hide (show stepF f k s t n b = if (createFs f s n).2 = 0 then (createFs f s n).1 else f by unfold stepF stepR; simp only [HM.out]; rfl)
    go_wp2_with fail
    try rw [ew]
    refine (create_fs x f s n w1 (HX.out.carry HB_w1.out) HW.out).mono ?_
    rintro e w2 ⟨v2, rfl, ho2, hb2⟩
    have HF_w2 := hide (HF_w1.out.carry hb2)
    have HFB_w2 := hide (HFB_w1.out.carry hb2)
    have HL_w2 := hide (HL_w1.out.carry hb2)
    have HB_w2 := hide (show Below w.heap.size w w2 from HB_w1.out.trans (hb2.mono HB_w1.out.size))
    clear k0 k1 k2 k3 k4 k5 s0 s1 s2 s3 s4 ew hb2
    obtain ⟨R, hR⟩ : ∃ R, R = createFs f s n := ⟨_, rfl⟩
    rw [← hR] at ho2 HR ⊢
    clear hR
    obtain ⟨x2, e9, hx9, ho9⟩ := ho2.bx
    subst e9
    have hst := (ho9.mono HB_w1.out.size).assign (FsB.of HL_w2.out) HB_w2.out (by omega)
    obtain ⟨⟨d0, e0⟩, ⟨d1, e1⟩, ⟨d2, e2⟩, ⟨d3, e3⟩, ⟨d4, e4⟩, ⟨d5, e5⟩, ff⟩ := (FsB.of HL_w2.out).cells
    have f0 := ff 0
    have f1 := ff 1
    have f2 := ff 2
    have f3 := ff 3
    have f4 := ff 4
    have f5 := ff 5
    obtain ⟨w3, ew3⟩ : ∃ wq, set6 w2 (w.heap.size + 3) x2 = wq := ⟨_, rfl⟩
    rw [ew3] at hst
    have HO_w3 := hide hst.1
    have HB_w3 := hide hst.2.1
    have HL_w3 := hide hst.2.2.1
    have HR_w3 := hide hst.2.2.2.1
    have HF_w3 := hide (show FsAt w3 w.heap.size x from HF_w2.out.grown hst.2.2.2.2 (by omega))
    have HFB_w3 := hide (HFB_w2.out.grown hst.2.2.2.2 (by omega))
    unfold set6 at ew3
    clear hst ff ho2 hx9 ho9
    unfold FsV.val
    by_cases g1 : ¬ R.2 = 0
    · rw [if_neg g1] at HR
      obtain ⟨k0, k1, k2, k3, k4, k5⟩ := fs_cells HF_w3.out
      obtain ⟨⟨c0, r0⟩, ⟨c1, r1⟩, ⟨c2, r2⟩, ⟨c3, r3⟩, ⟨c4, r4⟩, ⟨c5, r5⟩, fg⟩ := HFB_w3.out.cells
      have g0 := fg 0
      have g1' := fg 1
      have g2 := fg 2
      have g3 := fg 3
      have g4 := fg 4
      have g5 := fg 5
      obtain ⟨hat, hgr⟩ := HFB_w3.out.put x
      obtain ⟨w9, hw9⟩ : ∃ w9, w9 = set6 w3 (w.heap.size + 2) x := ⟨_, rfl⟩
      rw [← hw9] at hat hgr
      have HT := hide hat
      have HB9 := hide (HB_w3.out.grown hgr HB_w3.out.size (by intro k hk; cases hk; omega))
      unfold set6 at hw9
      clear hat hgr fg
      go_wp2
      rw [← hw9]
      clear r0 r1 r2 r3 r4 r5 g0 g1' g2 g3 g4 g5 hw9 k0 k1 k2 k3 k4 k5 e0 e1 e2 e3 e4 e5 f0 f1 f2 f3 f4 f5
      obtain ⟨z0, z1, z2, z3, z4, z5⟩ := fs_cells HT.out
      try simp only [Exit.inBlock, Exit.then]
      refine bodyPost_ret (v := x.val) ?_ rfl ⟨x, rfl, hide (.inl ⟨rfl, HR.out⟩), HB9.out⟩
      simp [results, Tryz.results62, go_sem, *]
    rw [Decidable.not_not] at g1
    rw [if_pos g1] at HR
    rw [g1]
    clear g1
    obtain ⟨k0, k1, k2, k3, k4, k5⟩ := fs_cells HL_w3.out
    obtain ⟨⟨c0, r0⟩, ⟨c1, r1⟩, ⟨c2, r2⟩, ⟨c3, r3⟩, ⟨c4, r4⟩, ⟨c5, r5⟩, fg⟩ := HFB_w3.out.cells
    have g0 := fg 0
    have g1' := fg 1
    have g2 := fg 2
    have g3 := fg 3
    have g4 := fg 4
    have g5 := fg 5
    have hst := HO_w3.out.assign HFB_w3.out HB_w3.out (by omega)
    obtain ⟨w9, hw9⟩ : ∃ w9, w9 = set6 w3 (w.heap.size + 2) x2 := ⟨_, rfl⟩
    rw [← hw9] at hst
    have HT := hide hst
    unfold set6 at hw9
    clear hst fg
    go_wp2
    rw [← hw9]
    clear r0 r1 r2 r3 r4 r5 g0 g1' g2 g3 g4 g5 hw9 k0 k1 k2 k3 k4 k5 e0 e1 e2 e3 e4 e5 f0 f1 f2 f3 f4 f5
    obtain ⟨z0, z1, z2, z3, z4, z5⟩ := fs_cells HT.out.2.2.1
    try simp only [Exit.inBlock, Exit.then]
    refine bodyPost_ret (v := x2.val) ?_ rfl ⟨x2, rfl, hide (.inr (by rw [HR.out]; exact HT.out.1)), HT.out.2.1⟩
    simp [results, Tryz.results62, go_sem, *]
  · skip
    have HR := hide (show stepF f k s t n b = if (deleteFs f s).2 = 0 then (deleteFs f s).1 else f by unfold stepF stepR; simp only [HM.out]; rfl)
    go_wp2_with fail
    try rw [ew]
    refine (delete_fs x f s w1 (HX.out.carry HB_w1.out) HW.out).mono ?_
    rintro e w2 ⟨v2, rfl, ho2, hb2⟩
    have HF_w2 := hide (HF_w1.out.carry hb2)
    have HFB_w2 := hide (HFB_w1.out.carry hb2)
    have HL_w2 := hide (HL_w1.out.carry hb2)
    have HB_w2 := hide (show Below w.heap.size w w2 from HB_w1.out.trans (hb2.mono HB_w1.out.size))
    clear k0 k1 k2 k3 k4 k5 s0 s1 s2 s3 s4 ew hb2
    obtain ⟨R, hR⟩ : ∃ R, R = deleteFs f s := ⟨_, rfl⟩
    rw [← hR] at ho2 HR ⊢
    clear hR
    obtain ⟨x2, e9, hx9, ho9⟩ := ho2.bx
    subst e9
    have hst := (ho9.mono HB_w1.out.size).assign (FsB.of HL_w2.out) HB_w2.out (by omega)
    obtain ⟨⟨d0, e0⟩, ⟨d1, e1⟩, ⟨d2, e2⟩, ⟨d3, e3⟩, ⟨d4, e4⟩, ⟨d5, e5⟩, ff⟩ := (FsB.of HL_w2.out).cells
    have f0 := ff 0
    have f1 := ff 1
    have f2 := ff 2
    have f3 := ff 3
    have f4 := ff 4
    have f5 := ff 5
    obtain ⟨w3, ew3⟩ : ∃ wq, set6 w2 (w.heap.size + 3) x2 = wq := ⟨_, rfl⟩
    rw [ew3] at hst
    have HO_w3 := hide hst.1
    have HB_w3 := hide hst.2.1
    have HL_w3 := hide hst.2.2.1
    have HR_w3 := hide hst.2.2.2.1
    have HF_w3 := hide (show FsAt w3 w.heap.size x from HF_w2.out.grown hst.2.2.2.2 (by omega))
    have HFB_w3 := hide (HFB_w2.out.grown hst.2.2.2.2 (by omega))
    unfold set6 at ew3
    clear hst ff ho2 hx9 ho9
    unfold FsV.val
    by_cases g1 : ¬ R.2 = 0
    · rw [if_neg g1] at HR
      obtain ⟨k0, k1, k2, k3, k4, k5⟩ := fs_cells HF_w3.out
      obtain ⟨⟨c0, r0⟩, ⟨c1, r1⟩, ⟨c2, r2⟩, ⟨c3, r3⟩, ⟨c4, r4⟩, ⟨c5, r5⟩, fg⟩ := HFB_w3.out.cells
      have g0 := fg 0
      have g1' := fg 1
      have g2 := fg 2
      have g3 := fg 3
      have g4 := fg 4
      have g5 := fg 5
      obtain ⟨hat, hgr⟩ := HFB_w3.out.put x
      obtain ⟨w9, hw9⟩ : ∃ w9, w9 = set6 w3 (w.heap.size + 2) x := ⟨_, rfl⟩
      rw [← hw9] at hat hgr
      have HT := hide hat
      have HB9 := hide (HB_w3.out.grown hgr HB_w3.out.size (by intro k hk; cases hk; omega))
      unfold set6 at hw9
      clear hat hgr fg
      go_wp2
      rw [← hw9]
      clear r0 r1 r2 r3 r4 r5 g0 g1' g2 g3 g4 g5 hw9 k0 k1 k2 k3 k4 k5 e0 e1 e2 e3 e4 e5 f0 f1 f2 f3 f4 f5
      obtain ⟨z0, z1, z2, z3, z4, z5⟩ := fs_cells HT.out
      try simp only [Exit.inBlock, Exit.then]
      refine bodyPost_ret (v := x.val) ?_ rfl ⟨x, rfl, hide (.inl ⟨rfl, HR.out⟩), HB9.out⟩
      simp [results, Tryz.results62, go_sem, *]
    rw [Decidable.not_not] at g1
    rw [if_pos g1] at HR
    rw [g1]
    clear g1
    obtain ⟨k0, k1, k2, k3, k4, k5⟩ := fs_cells HL_w3.out
    obtain ⟨⟨c0, r0⟩, ⟨c1, r1⟩, ⟨c2, r2⟩, ⟨c3, r3⟩, ⟨c4, r4⟩, ⟨c5, r5⟩, fg⟩ := HFB_w3.out.cells
    have g0 := fg 0
    have g1' := fg 1
    have g2 := fg 2
    have g3 := fg 3
    have g4 := fg 4
    have g5 := fg 5
    have hst := HO_w3.out.assign HFB_w3.out HB_w3.out (by omega)
    obtain ⟨w9, hw9⟩ : ∃ w9, w9 = set6 w3 (w.heap.size + 2) x2 := ⟨_, rfl⟩
    rw [← hw9] at hst
    have HT := hide hst
    unfold set6 at hw9
    clear hst fg
    go_wp2
    rw [← hw9]
    clear r0 r1 r2 r3 r4 r5 g0 g1' g2 g3 g4 g5 hw9 k0 k1 k2 k3 k4 k5 e0 e1 e2 e3 e4 e5 f0 f1 f2 f3 f4 f5
    obtain ⟨z0, z1, z2, z3, z4, z5⟩ := fs_cells HT.out.2.2.1
    try simp only [Exit.inBlock, Exit.then]
    refine bodyPost_ret (v := x2.val) ?_ rfl ⟨x2, rfl, hide (.inr (by rw [HR.out]; exact HT.out.1)), HT.out.2.1⟩
    simp [results, Tryz.results62, go_sem, *]
  · skip
    have HR := hide (show stepF f k s t n b = if (renameFs f s t).2 = 0 then (renameFs f s t).1 else f by unfold stepF stepR; simp only [HM.out]; rfl)
    go_wp2_with fail
    try rw [ew]
    refine (rename_fs x f s t w1 (HX.out.carry HB_w1.out) HW.out).mono ?_
    rintro e w2 ⟨v2, rfl, ho2, hb2⟩
    have HF_w2 := hide (HF_w1.out.carry hb2)
    have HFB_w2 := hide (HFB_w1.out.carry hb2)
    have HL_w2 := hide (HL_w1.out.carry hb2)
    have HB_w2 := hide (show Below w.heap.size w w2 from HB_w1.out.trans (hb2.mono HB_w1.out.size))
    clear k0 k1 k2 k3 k4 k5 s0 s1 s2 s3 s4 ew hb2
    obtain ⟨R, hR⟩ : ∃ R, R = renameFs f s t := ⟨_, rfl⟩
    rw [← hR] at ho2 HR ⊢
    clear hR
    obtain ⟨x2, e9, hx9, ho9⟩ := ho2.bx
    subst e9
    have hst := (ho9.mono HB_w1.out.size).assign (FsB.of HL_w2.out) HB_w2.out (by omega)
    obtain ⟨⟨d0, e0⟩, ⟨d1, e1⟩, ⟨d2, e2⟩, ⟨d3, e3⟩, ⟨d4, e4⟩, ⟨d5, e5⟩, ff⟩ := (FsB.of HL_w2.out).cells
    have f0 := ff 0
    have f1 := ff 1
    have f2 := ff 2
    have f3 := ff 3
    have f4 := ff 4
    have f5 := ff 5
    obtain ⟨w3, ew3⟩ : ∃ wq, set6 w2 (w.heap.size + 3) x2 = wq := ⟨_, rfl⟩
    rw [ew3] at hst
    have HO_w3 := hide hst.1
    have HB_w3 := hide hst.2.1
    have HL_w3 := hide hst.2.2.1
    have HR_w3 := hide hst.2.2.2.1
    have HF_w3 := hide (show FsAt w3 w.heap.size x from HF_w2.out.grown hst.2.2.2.2 (by omega))
    have HFB_w3 := hide (HFB_w2.out.grown hst.2.2.2.2 (by omega))
    unfold set6 at ew3
    clear hst ff ho2 hx9 ho9
    unfold FsV.val
    by_cases g1 : ¬ R.2 = 0
    · rw [if_neg g1] at HR
      obtain ⟨k0, k1, k2, k3, k4, k5⟩ := fs_cells HF_w3.out
      obtain ⟨⟨c0, r0⟩, ⟨c1, r1⟩, ⟨c2, r2⟩, ⟨c3, r3⟩, ⟨c4, r4⟩, ⟨c5, r5⟩, fg⟩ := HFB_w3.out.cells
      have g0 := fg 0
      have g1' := fg 1
      have g2 := fg 2
      have g3 := fg 3
      have g4 := fg 4
      have g5 := fg 5
      obtain ⟨hat, hgr⟩ := HFB_w3.out.put x
      obtain ⟨w9, hw9⟩ : ∃ w9, w9 = set6 w3 (w.heap.size + 2) x := ⟨_, rfl⟩
      rw [← hw9] at hat hgr
      have HT := hide hat
      have HB9 := hide (HB_w3.out.grown hgr HB_w3.out.size (by intro k hk; cases hk; omega))
      unfold set6 at hw9
      clear hat hgr fg
      go_wp2
      rw [← hw9]
      clear r0 r1 r2 r3 r4 r5 g0 g1' g2 g3 g4 g5 hw9 k0 k1 k2 k3 k4 k5 e0 e1 e2 e3 e4 e5 f0 f1 f2 f3 f4 f5
      obtain ⟨z0, z1, z2, z3, z4, z5⟩ := fs_cells HT.out
      try simp only [Exit.inBlock, Exit.then]
      refine bodyPost_ret (v := x.val) ?_ rfl ⟨x, rfl, hide (.inl ⟨rfl, HR.out⟩), HB9.out⟩
      simp [results, Tryz.results62, go_sem, *]
    rw [Decidable.not_not] at g1
    rw [if_pos g1] at HR
    rw [g1]
    clear g1
    obtain ⟨k0, k1, k2, k3, k4, k5⟩ := fs_cells HL_w3.out
    obtain ⟨⟨c0, r0⟩, ⟨c1, r1⟩, ⟨c2, r2⟩, ⟨c3, r3⟩, ⟨c4, r4⟩, ⟨c5, r5⟩, fg⟩ := HFB_w3.out.cells
    have g0 := fg 0
    have g1' := fg 1
    have g2 := fg 2
    have g3 := fg 3
    have g4 := fg 4
    have g5 := fg 5
    have hst := HO_w3.out.assign HFB_w3.out HB_w3.out (by omega)
    obtain ⟨w9, hw9⟩ : ∃ w9, w9 = set6 w3 (w.heap.size + 2) x2 := ⟨_, rfl⟩
    rw [← hw9] at hst
    have HT := hide hst
    unfold set6 at hw9
    clear hst fg
    go_wp2
    rw [← hw9]
    clear r0 r1 r2 r3 r4 r5 g0 g1' g2 g3 g4 g5 hw9 k0 k1 k2 k3 k4 k5 e0 e1 e2 e3 e4 e5 f0 f1 f2 f3 f4 f5
    obtain ⟨z0, z1, z2, z3, z4, z5⟩ := fs_cells HT.out.2.2.1
    try simp only [Exit.inBlock, Exit.then]
    refine bodyPost_ret (v := x2.val) ?_ rfl ⟨x2, rfl, hide (.inr (by rw [HR.out]; exact HT.out.1)), HT.out.2.1⟩
    simp [results, Tryz.results62, go_sem, *]
  · skip
    have HR := hide (show stepF f k s t n b = if (syncFs f).2 = 0 then (syncFs f).1 else f by unfold stepF stepR; simp only [HM.out]; rfl)
    go_wp2_with fail
    try rw [ew]
    refine (sync_fs x f w1 (HX.out.carry HB_w1.out) HW.out).mono ?_
    rintro e w2 ⟨v2, rfl, ho2, hb2⟩
    have HF_w2 := hide (HF_w1.out.carry hb2)
    have HFB_w2 := hide (HFB_w1.out.carry hb2)
    have HL_w2 := hide (HL_w1.out.carry hb2)
    have HB_w2 := hide (show Below w.heap.size w w2 from HB_w1.out.trans (hb2.mono HB_w1.out.size))
    clear k0 k1 k2 k3 k4 k5 s0 s1 s2 s3 s4 ew hb2
    obtain ⟨R, hR⟩ : ∃ R, R = syncFs f := ⟨_, rfl⟩
    rw [← hR] at ho2 HR ⊢
    clear hR
    obtain ⟨x2, e9, hx9, ho9⟩ := ho2.bx
    subst e9
    have hst := (ho9.mono HB_w1.out.size).assign (FsB.of HL_w2.out) HB_w2.out (by omega)
    obtain ⟨⟨d0, e0⟩, ⟨d1, e1⟩, ⟨d2, e2⟩, ⟨d3, e3⟩, ⟨d4, e4⟩, ⟨d5, e5⟩, ff⟩ := (FsB.of HL_w2.out).cells
    have f0 := ff 0
    have f1 := ff 1
    have f2 := ff 2
    have f3 := ff 3
    have f4 := ff 4
    have f5 := ff 5
    obtain ⟨w3, ew3⟩ : ∃ wq, set6 w2 (w.heap.size + 3) x2 = wq := ⟨_, rfl⟩
    rw [ew3] at hst
    have HO_w3 := hide hst.1
    have HB_w3 := hide hst.2.1
    have HL_w3 := hide hst.2.2.1
    have HR_w3 := hide hst.2.2.2.1
    have HF_w3 := hide (show FsAt w3 w.heap.size x from HF_w2.out.grown hst.2.2.2.2 (by omega))
    have HFB_w3 := hide (HFB_w2.out.grown hst.2.2.2.2 (by omega))
    unfold set6 at ew3
    clear hst ff ho2 hx9 ho9
    unfold FsV.val
    by_cases g1 : ¬ R.2 = 0
    · rw [if_neg g1] at HR
      obtain ⟨k0, k1, k2, k3, k4, k5⟩ := fs_cells HF_w3.out
      obtain ⟨⟨c0, r0⟩, ⟨c1, r1⟩, ⟨c2, r2⟩, ⟨c3, r3⟩, ⟨c4, r4⟩, ⟨c5, r5⟩, fg⟩ := HFB_w3.out.cells
      have g0 := fg 0
      have g1' := fg 1
      have g2 := fg 2
      have g3 := fg 3
      have g4 := fg 4
      have g5 := fg 5
      obtain ⟨hat, hgr⟩ := HFB_w3.out.put x
      obtain ⟨w9, hw9⟩ : ∃ w9, w9 = set6 w3 (w.heap.size + 2) x := ⟨_, rfl⟩
      rw [← hw9] at hat hgr
      have HT := hide hat
      have HB9 := hide (HB_w3.out.grown hgr HB_w3.out.size (by intro k hk; cases hk; omega))
      unfold set6 at hw9
      clear hat hgr fg
      go_wp2
      rw [← hw9]
      clear r0 r1 r2 r3 r4 r5 g0 g1' g2 g3 g4 g5 hw9 k0 k1 k2 k3 k4 k5 e0 e1 e2 e3 e4 e5 f0 f1 f2 f3 f4 f5
      obtain ⟨z0, z1, z2, z3, z4, z5⟩ := fs_cells HT.out
      try simp only [Exit.inBlock, Exit.then]
      refine bodyPost_ret (v := x.val) ?_ rfl ⟨x, rfl, hide (.inl ⟨rfl, HR.out⟩), HB9.out⟩
      simp [results, Tryz.results62, go_sem, *]
    rw [Decidable.not_not] at g1
    rw [if_pos g1] at HR
    rw [g1]
    clear g1
    obtain ⟨k0, k1, k2, k3, k4, k5⟩ := fs_cells HL_w3.out
    obtain ⟨⟨c0, r0⟩, ⟨c1, r1⟩, ⟨c2, r2⟩, ⟨c3, r3⟩, ⟨c4, r4⟩, ⟨c5, r5⟩, fg⟩ := HFB_w3.out.cells
    have g0 := fg 0
    have g1' := fg 1
    have g2 := fg 2
    have g3 := fg 3
    have g4 := fg 4
    have g5 := fg 5
    have hst := HO_w3.out.assign HFB_w3.out HB_w3.out (by omega)
    obtain ⟨w9, hw9⟩ : ∃ w9, w9 = set6 w3 (w.heap.size + 2) x2 := ⟨_, rfl⟩
    rw [← hw9] at hst
    have HT := hide hst
    unfold set6 at hw9
    clear hst fg
    go_wp2
    rw [← hw9]
    clear r0 r1 r2 r3 r4 r5 g0 g1' g2 g3 g4 g5 hw9 k0 k1 k2 k3 k4 k5 e0 e1 e2 e3 e4 e5 f0 f1 f2 f3 f4 f5
    obtain ⟨z0, z1, z2, z3, z4, z5⟩ := fs_cells HT.out.2.2.1
    try simp only [Exit.inBlock, Exit.then]
    refine bodyPost_ret (v := x2.val) ?_ rfl ⟨x2, rfl, hide (.inr (by rw [HR.out]; exact HT.out.1)), HT.out.2.1⟩
    simp [results, Tryz.results62, go_sem, *]
  · skip
    have HR := hide (show stepF f k s t n b = if (commitFs f).2 = 0 then (commitFs f).1 else f by unfold stepF stepR; simp only [HM.out]; rfl)
    go_wp2_with fail
    try rw [ew]
    refine (commit_fs x f w1 (HX.out.carry HB_w1.out) HW.out).mono ?_
    rintro e w2 ⟨v2, rfl, ho2, hb2⟩
    have HF_w2 := hide (HF_w1.out.carry hb2)
    have HFB_w2 := hide (HFB_w1.out.carry hb2)
    have HL_w2 := hide (HL_w1.out.carry hb2)
    have HB_w2 := hide (show Below w.heap.size w w2 from HB_w1.out.trans (hb2.mono HB_w1.out.size))
    clear k0 k1 k2 k3 k4 k5 s0 s1 s2 s3 s4 ew hb2
    obtain ⟨R, hR⟩ : ∃ R, R = commitFs f := ⟨_, rfl⟩
    rw [← hR] at ho2 HR ⊢
    clear hR
    obtain ⟨x2, e9, hx9, ho9⟩ := ho2.bx
    subst e9
    have hst := (ho9.mono HB_w1.out.size).assign (FsB.of HL_w2.out) HB_w2.out (by omega)
    obtain ⟨⟨d0, e0⟩, ⟨d1, e1⟩, ⟨d2, e2⟩, ⟨d3, e3⟩, ⟨d4, e4⟩, ⟨d5, e5⟩, ff⟩ := (FsB.of HL_w2.out).cells
    have f0 := ff 0
    have f1 := ff 1
    have f2 := ff 2
    have f3 := ff 3
    have f4 := ff 4
    have f5 := ff 5
    obtain ⟨w3, ew3⟩ : ∃ wq, set6 w2 (w.heap.size + 3) x2 = wq := ⟨_, rfl⟩
    rw [ew3] at hst
    have HO_w3 := hide hst.1
    have HB_w3 := hide hst.2.1
    have HL_w3 := hide hst.2.2.1
    have HR_w3 := hide hst.2.2.2.1
    have HF_w3 := hide (show FsAt w3 w.heap.size x from HF_w2.out.grown hst.2.2.2.2 (by omega))
    have HFB_w3 := hide (HFB_w2.out.grown hst.2.2.2.2 (by omega))
    unfold set6 at ew3
    clear hst ff ho2 hx9 ho9
    unfold FsV.val
    by_cases g1 : ¬ R.2 = 0
    · rw [if_neg g1] at HR
      obtain ⟨k0, k1, k2, k3, k4, k5⟩ := fs_cells HF_w3.out
      obtain ⟨⟨c0, r0⟩, ⟨c1, r1⟩, ⟨c2, r2⟩, ⟨c3, r3⟩, ⟨c4, r4⟩, ⟨c5, r5⟩, fg⟩ := HFB_w3.out.cells
      have g0 := fg 0
      have g1' := fg 1
      have g2 := fg 2
      have g3 := fg 3
      have g4 := fg 4
      have g5 := fg 5
      obtain ⟨hat, hgr⟩ := HFB_w3.out.put x
      obtain ⟨w9, hw9⟩ : ∃ w9, w9 = set6 w3 (w.heap.size + 2) x := ⟨_, rfl⟩
      rw [← hw9] at hat hgr
      have HT := hide hat
      have HB9 := hide (HB_w3.out.grown hgr HB_w3.out.size (by intro k hk; cases hk; omega))
      unfold set6 at hw9
      clear hat hgr fg
      go_wp2
      rw [← hw9]
      clear r0 r1 r2 r3 r4 r5 g0 g1' g2 g3 g4 g5 hw9 k0 k1 k2 k3 k4 k5 e0 e1 e2 e3 e4 e5 f0 f1 f2 f3 f4 f5
      obtain ⟨z0, z1, z2, z3, z4, z5⟩ := fs_cells HT.out
      try simp only [Exit.inBlock, Exit.then]
      refine bodyPost_ret (v := x.val) ?_ rfl ⟨x, rfl, hide (.inl ⟨rfl, HR.out⟩), HB9.out⟩
      simp [results, Tryz.results62, go_sem, *]
    rw [Decidable.not_not] at g1
    rw [if_pos g1] at HR
    rw [g1]
    clear g1
    obtain ⟨k0, k1, k2, k3, k4, k5⟩ := fs_cells HL_w3.out
    obtain ⟨⟨c0, r0⟩, ⟨c1, r1⟩, ⟨c2, r2⟩, ⟨c3, r3⟩, ⟨c4, r4⟩, ⟨c5, r5⟩, fg⟩ := HFB_w3.out.cells
    have g0 := fg 0
    have g1' := fg 1
    have g2 := fg 2
    have g3 := fg 3
    have g4 := fg 4
    have g5 := fg 5
    have hst := HO_w3.out.assign HFB_w3.out HB_w3.out (by omega)
    obtain ⟨w9, hw9⟩ : ∃ w9, w9 = set6 w3 (w.heap.size + 2) x2 := ⟨_, rfl⟩
    rw [← hw9] at hst
    have HT := hide hst
    unfold set6 at hw9
    clear hst fg
    go_wp2
    rw [← hw9]
    clear r0 r1 r2 r3 r4 r5 g0 g1' g2 g3 g4 g5 hw9 k0 k1 k2 k3 k4 k5 e0 e1 e2 e3 e4 e5 f0 f1 f2 f3 f4 f5
    obtain ⟨z0, z1, z2, z3, z4, z5⟩ := fs_cells HT.out.2.2.1
    try simp only [Exit.inBlock, Exit.then]
    refine bodyPost_ret (v := x2.val) ?_ rfl ⟨x2, rfl, hide (.inr (by rw [HR.out]; exact HT.out.1)), HT.out.2.1⟩
    simp [results, Tryz.results62, go_sem, *]
  · skip
    have HR := hide (show stepF f k s t n b = if (putFs f s n b).2 = 0 then (putFs f s n b).1 else f by unfold stepF stepR; simp only [HM.out]; rfl)
    go_wp2_with fail
    try rw [ew]
    refine (put_fs x f s n ab nb cb b w1 (HX.out.carry HB_w1.out) HW.out (HBY.out.carry HB_w1.out)).mono ?_
    rintro e w2 ⟨v2, rfl, ho2, hb2⟩
    have HF_w2 := hide (HF_w1.out.carry hb2)
    have HFB_w2 := hide (HFB_w1.out.carry hb2)
    have HL_w2 := hide (HL_w1.out.carry hb2)
    have HB_w2 := hide (show Below w.heap.size w w2 from HB_w1.out.trans (hb2.mono HB_w1.out.size))
    clear k0 k1 k2 k3 k4 k5 s0 s1 s2 s3 s4 ew hb2
    obtain ⟨R, hR⟩ : ∃ R, R = putFs f s n b := ⟨_, rfl⟩
    rw [← hR] at ho2 HR ⊢
    clear hR
    obtain ⟨x2, e9, hx9, ho9⟩ := ho2.bx
    subst e9
    have hst := (ho9.mono HB_w1.out.size).assign (FsB.of HL_w2.out) HB_w2.out (by omega)
    obtain ⟨⟨d0, e0⟩, ⟨d1, e1⟩, ⟨d2, e2⟩, ⟨d3, e3⟩, ⟨d4, e4⟩, ⟨d5, e5⟩, ff⟩ := (FsB.of HL_w2.out).cells
    have f0 := ff 0
    have f1 := ff 1
    have f2 := ff 2
    have f3 := ff 3
    have f4 := ff 4
    have f5 := ff 5
    obtain ⟨w3, ew3⟩ : ∃ wq, set6 w2 (w.heap.size + 3) x2 = wq := ⟨_, rfl⟩
    rw [ew3] at hst
    have HO_w3 := hide hst.1
    have HB_w3 := hide hst.2.1
    have HL_w3 := hide hst.2.2.1
    have HR_w3 := hide hst.2.2.2.1
    have HF_w3 := hide (show FsAt w3 w.heap.size x from HF_w2.out.grown hst.2.2.2.2 (by omega))
    have HFB_w3 := hide (HFB_w2.out.grown hst.2.2.2.2 (by omega))
    unfold set6 at ew3
    clear hst ff ho2 hx9 ho9
    unfold FsV.val
    by_cases g1 : ¬ R.2 = 0
    · rw [if_neg g1] at HR
      obtain ⟨k0, k1, k2, k3, k4, k5⟩ := fs_cells HF_w3.out
      obtain ⟨⟨c0, r0⟩, ⟨c1, r1⟩, ⟨c2, r2⟩, ⟨c3, r3⟩, ⟨c4, r4⟩, ⟨c5, r5⟩, fg⟩ := HFB_w3.out.cells
      have g0 := fg 0
      have g1' := fg 1
      have g2 := fg 2
      have g3 := fg 3
      have g4 := fg 4
      have g5 := fg 5
      obtain ⟨hat, hgr⟩ := HFB_w3.out.put x
      obtain ⟨w9, hw9⟩ : ∃ w9, w9 = set6 w3 (w.heap.size + 2) x := ⟨_, rfl⟩
      rw [← hw9] at hat hgr
      have HT := hide hat
      have HB9 := hide (HB_w3.out.grown hgr HB_w3.out.size (by intro k hk; cases hk; omega))
      unfold set6 at hw9
      clear hat hgr fg
      go_wp2
      rw [← hw9]
      clear r0 r1 r2 r3 r4 r5 g0 g1' g2 g3 g4 g5 hw9 k0 k1 k2 k3 k4 k5 e0 e1 e2 e3 e4 e5 f0 f1 f2 f3 f4 f5
      obtain ⟨z0, z1, z2, z3, z4, z5⟩ := fs_cells HT.out
      try simp only [Exit.inBlock, Exit.then]
      refine bodyPost_ret (v := x.val) ?_ rfl ⟨x, rfl, hide (.inl ⟨rfl, HR.out⟩), HB9.out⟩
      simp [results, Tryz.results62, go_sem, *]
    rw [Decidable.not_not] at g1
    rw [if_pos g1] at HR
    rw [g1]
    clear g1
    obtain ⟨k0, k1, k2, k3, k4, k5⟩ := fs_cells HL_w3.out
    obtain ⟨⟨c0, r0⟩, ⟨c1, r1⟩, ⟨c2, r2⟩, ⟨c3, r3⟩, ⟨c4, r4⟩, ⟨c5, r5⟩, fg⟩ := HFB_w3.out.cells
    have g0 := fg 0
    have g1' := fg 1
    have g2 := fg 2
    have g3 := fg 3
    have g4 := fg 4
    have g5 := fg 5
    have hst := HO_w3.out.assign HFB_w3.out HB_w3.out (by omega)
    obtain ⟨w9, hw9⟩ : ∃ w9, w9 = set6 w3 (w.heap.size + 2) x2 := ⟨_, rfl⟩
    rw [← hw9] at hst
    have HT := hide hst
    unfold set6 at hw9
    clear hst fg
    go_wp2
    rw [← hw9]
    clear r0 r1 r2 r3 r4 r5 g0 g1' g2 g3 g4 g5 hw9 k0 k1 k2 k3 k4 k5 e0 e1 e2 e3 e4 e5 f0 f1 f2 f3 f4 f5
    obtain ⟨z0, z1, z2, z3, z4, z5⟩ := fs_cells HT.out.2.2.1
    try simp only [Exit.inBlock, Exit.then]
    refine bodyPost_ret (v := x2.val) ?_ rfl ⟨x2, rfl, hide (.inr (by rw [HR.out]; exact HT.out.1)), HT.out.2.1⟩
    simp [results, Tryz.results62, go_sem, *]
  · skip
    have HR := hide (show stepF f k s t n b = if (putFs f s n b).2 = 0 then (putFs f s n b).1 else f by unfold stepF stepR; simp only [HM.out]; rfl)
    go_wp2_with fail
    try rw [ew]
    refine (put_fs x f s n ab nb cb b w1 (HX.out.carry HB_w1.out) HW.out (HBY.out.carry HB_w1.out)).mono ?_
    rintro e w2 ⟨v2, rfl, ho2, hb2⟩
    have HF_w2 := hide (HF_w1.out.carry hb2)
    have HFB_w2 := hide (HFB_w1.out.carry hb2)
    have HL_w2 := hide (HL_w1.out.carry hb2)
    have HB_w2 := hide (show Below w.heap.size w w2 from HB_w1.out.trans (hb2.mono HB_w1.out.size))
    clear k0 k1 k2 k3 k4 k5 s0 s1 s2 s3 s4 ew hb2
    obtain ⟨R, hR⟩ : ∃ R, R = putFs f s n b := ⟨_, rfl⟩
    rw [← hR] at ho2 HR ⊢
    clear hR
    obtain ⟨x2, e9, hx9, ho9⟩ := ho2.bx
    subst e9
    have hst := (ho9.mono HB_w1.out.size).assign (FsB.of HL_w2.out) HB_w2.out (by omega)
    obtain ⟨⟨d0, e0⟩, ⟨d1, e1⟩, ⟨d2, e2⟩, ⟨d3, e3⟩, ⟨d4, e4⟩, ⟨d5, e5⟩, ff⟩ := (FsB.of HL_w2.out).cells
    have f0 := ff 0
    have f1 := ff 1
    have f2 := ff 2
    have f3 := ff 3
    have f4 := ff 4
    have f5 := ff 5
    obtain ⟨w3, ew3⟩ : ∃ wq, set6 w2 (w.heap.size + 3) x2 = wq := ⟨_, rfl⟩
    rw [ew3] at hst
    have HO_w3 := hide hst.1
    have HB_w3 := hide hst.2.1
    have HL_w3 := hide hst.2.2.1
    have HR_w3 := hide hst.2.2.2.1
    have HF_w3 := hide (show FsAt w3 w.heap.size x from HF_w2.out.grown hst.2.2.2.2 (by omega))
    have HFB_w3 := hide (HFB_w2.out.grown hst.2.2.2.2 (by omega))
    unfold set6 at ew3
    clear hst ff ho2 hx9 ho9
    unfold FsV.val
    by_cases g1 : ¬ R.2 = 0
    · rw [if_neg g1] at HR
      obtain ⟨k0, k1, k2, k3, k4, k5⟩ := fs_cells HF_w3.out
      obtain ⟨⟨c0, r0⟩, ⟨c1, r1⟩, ⟨c2, r2⟩, ⟨c3, r3⟩, ⟨c4, r4⟩, ⟨c5, r5⟩, fg⟩ := HFB_w3.out.cells
      have g0 := fg 0
      have g1' := fg 1
      have g2 := fg 2
      have g3 := fg 3
      have g4 := fg 4
      have g5 := fg 5
      obtain ⟨hat, hgr⟩ := HFB_w3.out.put x
      obtain ⟨w9, hw9⟩ : ∃ w9, w9 = set6 w3 (w.heap.size + 2) x := ⟨_, rfl⟩
      rw [← hw9] at hat hgr
      have HT := hide hat
      have HB9 := hide (HB_w3.out.grown hgr HB_w3.out.size (by intro k hk; cases hk; omega))
      unfold set6 at hw9
      clear hat hgr fg
      go_wp2
      rw [← hw9]
      clear r0 r1 r2 r3 r4 r5 g0 g1' g2 g3 g4 g5 hw9 k0 k1 k2 k3 k4 k5 e0 e1 e2 e3 e4 e5 f0 f1 f2 f3 f4 f5
      obtain ⟨z0, z1, z2, z3, z4, z5⟩ := fs_cells HT.out
      try simp only [Exit.inBlock, Exit.then]
      refine bodyPost_ret (v := x.val) ?_ rfl ⟨x, rfl, hide (.inl ⟨rfl, HR.out⟩), HB9.out⟩
      simp [results, Tryz.results62, go_sem, *]
    rw [Decidable.not_not] at g1
    rw [if_pos g1] at HR
    rw [g1]
    clear g1
    obtain ⟨k0, k1, k2, k3, k4, k5⟩ := fs_cells HL_w3.out
    obtain ⟨⟨c0, r0⟩, ⟨c1, r1⟩, ⟨c2, r2⟩, ⟨c3, r3⟩, ⟨c4, r4⟩, ⟨c5, r5⟩, fg⟩ := HFB_w3.out.cells
    have g0 := fg 0
    have g1' := fg 1
    have g2 := fg 2
    have g3 := fg 3
    have g4 := fg 4
    have g5 := fg 5
    have hst := HO_w3.out.assign HFB_w3.out HB_w3.out (by omega)
    obtain ⟨w9, hw9⟩ : ∃ w9, w9 = set6 w3 (w.heap.size + 2) x2 := ⟨_, rfl⟩
    rw [← hw9] at hst
    have HT := hide hst
    unfold set6 at hw9
    clear hst fg
    go_wp2
    rw [← hw9]
    clear r0 r1 r2 r3 r4 r5 g0 g1' g2 g3 g4 g5 hw9 k0 k1 k2 k3 k4 k5 e0 e1 e2 e3 e4 e5 f0 f1 f2 f3 f4 f5
    obtain ⟨z0, z1, z2, z3, z4, z5⟩ := fs_cells HT.out.2.2.1
    try simp only [Exit.inBlock, Exit.then]
    refine bodyPost_ret (v := x2.val) ?_ rfl ⟨x2, rfl, hide (.inr (by rw [HR.out]; exact HT.out.1)), HT.out.2.1⟩
    simp [results, Tryz.results62, go_sem, *]

end Go.Proofs.YtnigdbhjaoeblaaGreat

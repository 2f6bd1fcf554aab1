/-
  The names of all files.
-/
import Derived.Test.YtnigdbhjaoeblaaGreatFsTop4
namespace Go.Proofs.YtnigdbhjaoeblaaGreat
open Go.RowKit
set_option linter.unusedVariables false
set_option linter.unusedSimpArgs false

theorem newD_ok {n : Int} (h : (newD n).2 = 0) (h2 : 34 < n) : okD (newD n).1 = true ∧ 34 < mny (newD n).1 ∧ mny (newD n).1 = n.toNat ∧ n ≤ 4096 ∧ (newD n).1 = (List.replicate (n.toNat * 128) 0, [], []) := by
  unfold newD at h
  split at h
  · cases h
  · rename_i h1
    have e : (newD n).1 = (List.replicate (n.toNat * 128) 0, [], []) := by unfold newD; rw [if_neg h1]
    rw [e]
    have hm : mny ((List.replicate (n.toNat * 128) 0, [], []) : Dk) = n.toNat := by unfold mny; simp
    refine ⟨?_, by omega, hm, by omega, rfl⟩
    rw [okD_iff, hm]
    simp
    omega
theorem byt_nil : bytF [] = [0] := by decide
theorem chk_nil {k : Nat} (h : 34 < k) (h2 : k ≤ 4096) : chkF [] (k : Int) = 0 := by
  refine chkF_mk ⟨by omega, by omega⟩ ⟨by simp, ⟨by simp, List.Pairwise.nil⟩, ?_, by decide⟩
  exact ⟨by decide, by intro x hx; cases hx⟩
theorem format_spec {n : Int} (h : (newD n).2 = 0) (h2 : 34 < n) : RnW (commitW (((newD n).1, 0, [], []), 0, [])) (onesD (newD n).1 (actsF 1 [0])) 1 [] [] [0] := by
  obtain ⟨a, b, c, d, e⟩ := newD_ok h h2
  have := commitW_spec (K := []) (l0 := []) a b (by decide : (0 : Nat) ≠ 4294967295) (chk_nil b (by omega))
  rw [byt_nil] at this
  exact this
theorem format_small {n : Int} (h : (newD n).2 = 0) (h2 : 34 < n) (h0 : (thenW clearW (commitW (((newD n).1, 0, [], []), 0, []))).2.1 = 0) : smallD (thenW clearW (commitW (((newD n).1, 0, [], []), 0, []))).1.2.2.1 ∧ smallD (thenW clearW (commitW (((newD n).1, 0, [], []), 0, []))).1.2.2.2 := by
  have h1 := format_spec h h2
  have h3 := thenW_ok h0
  rw [thenW_val h3.1]
  unfold RnW at h1
  cases ho : onesD (newD n).1 (actsF 1 [0]) with
  | none => rw [ho] at h1; simp only at h1; rw [h1] at h3; exact absurd h3.1 (by decide)
  | some x => rw [ho] at h1; simp only at h1; rw [h1]; exact ⟨small_nil, small_nil⟩
theorem way_new {w : World} {base : Nat} {a1 : Option Addr} {n1 c1 : Nat} {a2 : Option Addr} {n2 c2 : Nat} {a3 : Option Addr} {n3 c3 : Nat} {d : Dk} (ho : OwD w base (.agg #[.slice a1 n1 c1, .slice a2 n2 c2, .slice a3 n3 c3]) d) :
    WayS (w.alloc (.cells #[.slice a1 n1 c1, .slice a2 n2 c2, .slice a3 n3 c3, .int .u32 0, .slice none 0 0, .slice none 0 0, .int .i64 0, .slice none 0 0] 137)) w.heap.size base false ((d, 0, [], []), 0, []) := by
  have hb : Below w.heap.size w (w.alloc (.cells #[.slice a1 n1 c1, .slice a2 n2 c2, .slice a3 n3 c3, .int .u32 0, .slice none 0 0, .slice none 0 0, .int .i64 0, .slice none 0 0] 137)) := (Below.refl _ _).alloc (Nat.le_refl _) _
  have hq : Bq (w.alloc (.cells #[.slice a1 n1 c1, .slice a2 n2 c2, .slice a3 n3 c3, .int .u32 0, .slice none 0 0, .slice none 0 0, .int .i64 0, .slice none 0 0] 137)) w.heap.size 137 _ := Bq.new _ _ _
  refine ⟨⟨a1, n1, c1, a2, n2, c2, a3, n3, c3, 0, none, 0, 0, none, 0, 0⟩, none, 0, 0, hq, rfl, ⟨(by show (0 : Nat) < 4294967296; decide), (fun g hg => by cases hg), (fun g hg => by cases hg)⟩, fun w' hg => ?_⟩
  have ho' := (ho.carry hb).keptS hg hq (by decide) (by decide) (by decide)
  have hl := RdD.mk3 ho'.rd
  exact ⟨⟨ho'.rd, hl.1, hl.2, rfl, RdF.nil _, rfl, RdF.nil _, rfl⟩, .inl ⟨rfl, .inl rfl⟩, fun h => by cases h⟩

set_option maxHeartbeats 2000000 in
set_option maxRecDepth 100000 in
theorem format_fs (n : Int) (w : World) :
    Calls Tryz.prog 21 #[.int .i64 n] w fun e w' => ∃ v, e = .returned (.tuple #[v, .int .i64 (formatFs n).2]) ∧ OwFs w' w.heap.size v (formatFs n).1 ∧ Below w.heap.size w w' := by
  obtain ⟨w1, ew⟩ : ∃ w1, w.alloc (.cells #[.slice none 0 0, .slice none 0 0, .slice none 0 0, .int .u32 0, .slice none 0 0, .slice none 0 0] 33) = w1 := ⟨_, rfl⟩
  have hb1 : Below w.heap.size w w1 := by rw [← ew]; exact (Below.refl _ _).alloc (Nat.le_refl _) _
  have HFB_w1 := hide (show FsB w1 w.heap.size by rw [← ew]; exact FsB.new w)
  have HB_w1 := hide hb1
  clear hb1
  go_enter Tryz.func21, Tryz.ntmps21
  go_wp2_with fail
  try rw [ew]
  refine (new_any n w1).mono ?_
  rintro e w2 ⟨dv, rfl, ho2, hb2⟩
  have HFB_w2 := hide (HFB_w1.out.carry hb2)
  have HB_w2 := hide (show Below w.heap.size w w2 from HB_w1.out.trans (hb2.mono HB_w1.out.size))
  obtain ⟨d, hd⟩ : ∃ d, d = (newD n).1 := ⟨_, rfl⟩
  rw [← hd] at ho2
  obtain ⟨a1, c1, a2, c2, a3, c3, e1⟩ := ho2.form
  obtain ⟨n1, hn1⟩ : ∃ m, m = d.1.length := ⟨_, rfl⟩
  obtain ⟨n2, hn2⟩ : ∃ m, m = d.2.1.length := ⟨_, rfl⟩
  obtain ⟨n3, hn3⟩ : ∃ m, m = d.2.2.length := ⟨_, rfl⟩
  rw [← hn1, ← hn2, ← hn3] at e1
  subst e1
  have HDE := hide hd
  have HO2 := hide (ho2.mono HB_w1.out.size)
  clear hn1 hn2 hn3 hd ho2 hb2 ew
  obtain ⟨w3, ew3⟩ : ∃ w3, w2.alloc (.cells #[.slice a1 n1 c1, .slice a2 n2 c2, .slice a3 n3 c3] 27) = w3 := ⟨_, rfl⟩
  have hb3 : Below w2.heap.size w2 w3 := by rw [← ew3]; exact (Below.refl _ _).alloc (Nat.le_refl _) _
  have HFB_w3 := hide (HFB_w2.out.carry hb3)
  have HB_w3 := hide (show Below w.heap.size w w3 from HB_w2.out.trans (hb3.mono HB_w2.out.size))
  have HO3 := hide (HO2.out.carry hb3)
  have k0 : w3.cell? ⟨w2.heap.size, 0, none⟩ = some (.slice a1 n1 c1) := by rw [← ew3]; simp
  have k1 : w3.cell? ⟨w2.heap.size, 1, none⟩ = some (.slice a2 n2 c2) := by rw [← ew3]; simp
  have k2 : w3.cell? ⟨w2.heap.size, 2, none⟩ = some (.slice a3 n3 c3) := by rw [← ew3]; simp
  clear hb3 HO2 HFB_w1 HB_w1 HFB_w2 HB_w2
  obtain ⟨z, hz⟩ : ∃ z, z = (newD n).2 := ⟨_, rfl⟩
  rw [← hz]
  by_cases g1 : ¬ z = 0
  · have HE := hide (show formatFs n = (fz, z) by unfold formatFs; rw [if_pos (by rw [← hz]; exact g1), ← hz])
    clear hz
    have ho9 := OwFs_zero w3 w.heap.size
    have HST := hide (OwFs.stored (x := xz) (r := w.heap.size) ho9 HFB_w3.out HB_w3.out (Nat.le_refl _))
    obtain ⟨⟨d0, e0⟩, ⟨d1, e1⟩, ⟨d2, e2⟩, ⟨d3, e3⟩, ⟨d4, e4⟩, ⟨d5, e5⟩, ff⟩ := HFB_w3.out.cells
    have f0 := ff 0
    have f1 := ff 1
    have f2 := ff 2
    have f3 := ff 3
    have f4 := ff 4
    have f5 := ff 5
    clear ff ho9
    go_wp2
    obtain ⟨w9, hw9⟩ : ∃ w9, w9 = set6 w3 w.heap.size xz := ⟨_, rfl⟩
    rw [← hw9] at HST
    unfold set6 xz at hw9
    simp only at hw9
    rw [show ((0 : Nat) : Int) = 0 from rfl] at hw9
    rw [← hw9]
    clear e0 e1 e2 e3 e4 e5 f0 f1 f2 f3 f4 f5 hw9
    obtain ⟨z0, z1, z2, z3, z4, z5⟩ := fs_cells HST.out.2.2
    unfold xz at z0 z1 z2 z3 z4 z5
    simp only at z0 z1 z2 z3 z4 z5
    try simp only [Exit.inBlock, Exit.then]
    refine bodyPost_ret (v := .tuple #[.agg #[.slice none 0 0, .slice none 0 0, .slice none 0 0, .int .u32 0, .slice none 0 0, .slice none 0 0], .int .i64 z]) ?_ rfl ⟨_, by rw [HE.out], by rw [HE.out]; exact OwFs_zero _ _, HST.out.2.1⟩
    simp [results, Tryz.results21, go_sem, *]
  rw [Decidable.not_not] at g1
  subst g1
  by_cases g2 : n ≤ 34
  · have HE := hide (show formatFs n = (fz, 2) by unfold formatFs; rw [if_neg (by rw [← hz]; decide), if_pos g2])
    clear hz
    have ho9 := OwFs_zero w3 w.heap.size
    have HST := hide (OwFs.stored (x := xz) (r := w.heap.size) ho9 HFB_w3.out HB_w3.out (Nat.le_refl _))
    obtain ⟨⟨d0, e0⟩, ⟨d1, e1⟩, ⟨d2, e2⟩, ⟨d3, e3⟩, ⟨d4, e4⟩, ⟨d5, e5⟩, ff⟩ := HFB_w3.out.cells
    have f0 := ff 0
    have f1 := ff 1
    have f2 := ff 2
    have f3 := ff 3
    have f4 := ff 4
    have f5 := ff 5
    clear ff ho9
    go_wp2
    obtain ⟨w9, hw9⟩ : ∃ w9, w9 = set6 w3 w.heap.size xz := ⟨_, rfl⟩
    rw [← hw9] at HST
    unfold set6 xz at hw9
    simp only at hw9
    rw [show ((0 : Nat) : Int) = 0 from rfl] at hw9
    rw [← hw9]
    clear e0 e1 e2 e3 e4 e5 f0 f1 f2 f3 f4 f5 hw9
    obtain ⟨z0, z1, z2, z3, z4, z5⟩ := fs_cells HST.out.2.2
    unfold xz at z0 z1 z2 z3 z4 z5
    simp only at z0 z1 z2 z3 z4 z5
    try simp only [Exit.inBlock, Exit.then]
    refine bodyPost_ret (v := .tuple #[.agg #[.slice none 0 0, .slice none 0 0, .slice none 0 0, .int .u32 0, .slice none 0 0, .slice none 0 0], .int .i64 2]) ?_ rfl ⟨_, by rw [HE.out], by rw [HE.out]; exact OwFs_zero _ _, HST.out.2.1⟩
    simp [results, Tryz.results21, go_sem, *]
  have HZ := hide hz.symm
  have HN := hide (show 34 < n by omega)
  have HE := hide (show formatFs n = endW (thenW clearW (commitW (((newD n).1, 0, [], []), 0, []))) by unfold formatFs; rw [if_neg (by rw [← hz]; decide), if_neg g2])
  have g2' : decide (n ≤ 34) = false := by simpa using g2
  clear hz g2
  obtain ⟨w4, ew4⟩ : ∃ w4, w3.alloc (.cells #[.slice a1 n1 c1, .slice a2 n2 c2, .slice a3 n3 c3, .int .u32 0, .slice none 0 0, .slice none 0 0, .int .i64 0, .slice none 0 0] 137) = w4 := ⟨_, rfl⟩
  have hb4 : Below w3.heap.size w3 w4 := by rw [← ew4]; exact (Below.refl _ _).alloc (Nat.le_refl _) _
  have hs4 := way_new HO3.out
  rw [ew4] at hs4
  rw [HDE.out] at hs4
  have HS4 := hide hs4
  have hpp := HB_w3.out.size
  have HRL := hide HFB_w3.out.lt
  have HFB_w4 := hide (HFB_w3.out.carry hb4)
  have HB_w4 := hide (show Below w.heap.size w w4 from HB_w3.out.trans (hb4.mono HB_w3.out.size))
  clear hb4 hs4 HO3
  go_wp2_with fail
  try rw [ew4]
  refine (commit_way w3.heap.size w.heap.size false _ w4 HS4.out hpp).mono ?_
  rintro e w5 ⟨rfl, hs5, hg5⟩
  have HFB_w5 := hide (HFB_w4.out.grown hg5 (by have := HRL.out; omega))
  have HB_w5 := hide (show Below w.heap.size w w5 from HB_w4.out.grown hg5 HB_w4.out.size (by intro k hk; cases hk; omega))
  have HS5 := hide hs5
  clear hs5 hg5 HS4 HFB_w4 HB_w4 ew4 ew3 k0 k1 k2 g2'
  have hcf : ∀ wx : World, (callFunc 71 #[.pointer (some ⟨w3.heap.size, 0, none⟩)]).run Tryz.prog wx = .ok (.enter 71 #[.pointer (some ⟨w3.heap.size, 0, none⟩)]) wx := fun wx => by go_simp
  have ht := then_m 71 clearW w3.heap.size w.heap.size true true _ w5 HS5.out rfl hcf (fun h0 => (clear_way w3.heap.size w.heap.size true _ w5 HS5.out hpp).mono fun e w' h => ⟨h.1, fun _ => h.2.1, h.2.1.any, h.2.2⟩)
  clear hcf
  go_wp2_with fail
  refine ht.mono ?_
  rintro e w6 ⟨rfl, hs6, hg6⟩
  have HFB_w6 := hide (HFB_w5.out.grown hg6 (by have := HRL.out; omega))
  have HB_w6 := hide (show Below w.heap.size w w6 from HB_w5.out.grown hg6 HB_w5.out.size (by intro k hk; cases hk; omega))
  have hen := end_way w3.heap.size w.heap.size _ w6 hs6 HB_w6.out.size (format_small HZ.out HN.out)
  rw [← HE.out] at hen
  clear ht hs6 hg6 HS5 HFB_w5 HB_w5
  go_wp2_with fail
  refine hen.mono ?_
  rintro e w7 ⟨v9, rfl, ho9, hb9⟩
  have HFB_w7 := hide (HFB_w6.out.carry hb9)
  have HB_w7 := hide (show Below w.heap.size w w7 from HB_w6.out.trans (hb9.mono HB_w6.out.size))
  clear hen hb9
  obtain ⟨x9, e9, -⟩ := ho9.form
  subst e9
  have HST := hide (ho9.stored (r := w.heap.size) HFB_w7.out HB_w7.out (by omega))
  obtain ⟨⟨d0, e0⟩, ⟨d1, e1⟩, ⟨d2, e2⟩, ⟨d3, e3⟩, ⟨d4, e4⟩, ⟨d5, e5⟩, ff⟩ := HFB_w7.out.cells
  have f0 := ff 0
  have f1 := ff 1
  have f2 := ff 2
  have f3 := ff 3
  have f4 := ff 4
  have f5 := ff 5
  clear ff ho9
  unfold FsV.val
  go_wp2
  obtain ⟨w9, hw9⟩ : ∃ w9, w9 = set6 w7 (w.heap.size) x9 := ⟨_, rfl⟩
  rw [← hw9] at HST
  unfold set6 at hw9
  rw [← hw9]
  clear e0 e1 e2 e3 e4 e5 f0 f1 f2 f3 f4 f5 hw9
  obtain ⟨z0, z1, z2, z3, z4, z5⟩ := fs_cells HST.out.2.2
  try simp only [Exit.inBlock, Exit.then]
  refine bodyPost_ret (v := .tuple #[x9.val, .int .i64 (formatFs n).2]) ?_ rfl ⟨_, rfl, HST.out.1, HST.out.2.1⟩
  simp [results, Tryz.results21, go_sem, *]

end Go.Proofs.YtnigdbhjaoeblaaGreat
namespace Go.Proofs.YtnigdbhjaoeblaaGreat
open Go.RowKit
set_option linter.unusedVariables false
set_option linter.unusedSimpArgs false

theorem Tryz.infoStr6 : (Tryz.prog.info? 9).map (fun i => (i.zero, i.size, i.bytes)) = some (some (.string ByteArray.empty), 1, 16) := by kernel_rfl
/-- A row of texts of one's own. -/
def txv (l : List (List UInt8)) : List Value := l.map fun s => Value.string (bs s)
def OwT (w : World) (base : Nat) (v : Value) (l : List (List UInt8)) : Prop := w.ownsRow base 9 1 v l.length (txv l)
theorem OwT.nil (w : World) (base : Nat) : OwT w base (.slice none 0 0) [] := World.ownsRow_nil _ _ _ _
theorem OwT.form {w : World} {base : Nat} {v : Value} {l : List (List UInt8)} (h : OwT w base v l) : ∃ a c, v = .slice a l.length c := by
  rcases h.2 with ⟨rfl, hn⟩ | ⟨g, cap, cur, rfl, _⟩
  · rw [hn]; exact ⟨_, _, rfl⟩
  · exact ⟨_, _, rfl⟩
theorem OwT.carry {w w' : World} {base : Nat} {v : Value} {l : List (List UInt8)} (h : OwT w base v l) (hb : Below w.heap.size w w') : OwT w' base v l := own_carry h hb
theorem OwT.mono {w : World} {base base' : Nat} {v : Value} {l : List (List UInt8)} (h : OwT w base v l) (hb : base' ≤ base) : OwT w base' v l := own_mono h hb
theorem OwT.at {w : World} {base : Nat} {a : Option Addr} {n c : Nat} {l : List (List UInt8)} (h : OwT w base (.slice a n c) l) (j : Nat) (hj : j < l.length) : ∃ g, a = some ⟨g, 0, none⟩ ∧ w.cell? ⟨g, j, none⟩ = some (.string (bs l[j])) := by
  rcases h.2 with ⟨e, hn⟩ | ⟨g, cap, cur, e, _⟩
  · rw [hn] at hj; cases hj
  · cases e
    have c1 := h.cells (g := g) rfl j (.string (bs l[j])) (by simp [txv, List.getElem?_eq_getElem hj])
    exact ⟨g, rfl, by simpa [Addr.add_lit] using c1⟩
theorem app_txt {w : World} {base : Nat} {v : Value} {l : List (List UInt8)} (h : OwT w base v l) (hb : base ≤ w.heap.size) (hl : l.length ≤ 1000000) (s : List UInt8) :
    ∃ g c w', (Builtin.append_ #[49, 49] 49 #[v, .slice (some ⟨w.heap.size, 0, none⟩) 1 1]).run Tryz.prog (w.alloc (.cells #[.string (bs s)] 9)) = .ok (.slice (some ⟨g, 0, none⟩) (l.length + 1) c) w' ∧
      OwT w' base (.slice (some ⟨g, 0, none⟩) (l.length + 1) c) (l ++ [s]) ∧ Below base w w' := by
  obtain ⟨w8, ew8⟩ : ∃ w8, w8 = w.alloc (.cells #[.string (bs s)] 9) := ⟨_, rfl⟩
  have hn8 := alloc_news w #[.string (bs s)] 9
  rw [← ew8] at hn8 ⊢
  have hb8 : Below w.heap.size w w8 := by rw [ew8]; exact (Below.refl _ _).alloc (Nat.le_refl _) _
  obtain ⟨i0, hi, hz0, hz1, hz2⟩ := info_parts Tryz.infoStr6
  have q2 : w8.ownsRow base 9 1 v l.length (txv l) := own_carry h hb8
  obtain ⟨v9, w9, hrun9, hown9, hg9, _⟩ := run_append_own (P := Tryz.prog) w8 base 49 49 9 i0 _ 1 16 Tryz.underlying49 hi hz0 hz1 hz2 rfl (by decide) _ _ _ q2 ⟨w.heap.size, 0, none⟩ 1 1 [.string (bs s)] rfl hn8 (by
    intro u hu
    simp at hu
    subst hu
    rfl) (by unfold maxLen; omega) (by omega) (Nat.le_trans hb hb8.size)
  have hb9 : Below base w w9 := (hb8.mono hb).grown hg9 (Nat.le_trans hb hb8.size) fun k hk => (q2.lt k hk).1
  rcases hown9.2 with ⟨_, h0⟩ | ⟨g, cap, cur, h0, _⟩
  · exact absurd h0 (by omega)
  · subst h0
    refine ⟨g, cap, w9, hrun9, ?_, hb9⟩
    have e : txv (l ++ [s]) = txv l ++ [.string (bs s)] := by simp [txv]
    unfold OwT
    rw [e, List.length_append]
    exact hown9
theorem fs_names_take (fs : List Fl) (k : Nat) (h : k < fs.length) : (fs.take (k + 1)).map (·.1) = (fs.take k).map (·.1) ++ [(fs[k]).1] := by
  rw [List.take_succ_eq_append_getElem h, List.map_append]; rfl

set_option maxHeartbeats 2000000 in
set_option maxRecDepth 100000 in
theorem names_fs (x : FsV) (f : Fsd) (w : World) (h : RdX w x f) (hw : WfX f) :
    Calls Tryz.prog 25 #[x.val] w fun e w' => ∃ v, e = .returned (.tuple #[v, .int .i64 (fsE f)]) ∧ OwT w' w.heap.size v (namesL f) ∧ Below w.heap.size w w' := by
  have HW := hide hw
  clear hw
  obtain ⟨w1, ew⟩ : ∃ w1, w.alloc (.cells x.cs 33) = w1 := ⟨_, rfl⟩
  have hb1 : Below w.heap.size w w1 := by rw [← ew]; exact (Below.refl _ _).alloc (Nat.le_refl _) _
  have HF_w1 := hide (show FsAt w1 w.heap.size x by rw [← ew]; exact Bq.new _ _ _)
  obtain ⟨k0, k1, k2, k3, k4, k5⟩ := fs_cells HF_w1.out
  have HX := hide h
  have HB_w1 := hide hb1
  clear h hb1
  unfold FsV.val
  unfold FsV.cs at ew
  go_enter Tryz.func25, Tryz.ntmps25
  go_wp2_with fail
  refine (check_fs x f w1 (HX.out.carry HB_w1.out) HW.out).mono ?_
  rintro e w2 ⟨rfl, hb2⟩
  have HF_w2 := hide (HF_w1.out.carry hb2)
  have HB_w2 := hide (show Below w.heap.size w w2 from HB_w1.out.trans (hb2.mono HB_w1.out.size))
  clear k0 k1 k2 k3 k4 k5 ew hb2
  obtain ⟨k0, k1, k2, k3, k4, k5⟩ := fs_cells HF_w2.out
  rcases (fsE_cases f).symm with ⟨_, g1⟩ | ⟨_, g1⟩
  · have HG := hide g1
    have HE := hide (show namesL f = [] by unfold namesL; rw [if_pos (by rw [g1]; decide)])
    rw [g1]
    clear g1
    go_wp2
    go_ret2
    rw [HE.out, HG.out]
    exact ⟨_, rfl, OwT.nil _ _, HB_w2.out⟩
  have HG := hide g1
  have HE := hide (show namesL f = f.2.2.1.map (·.1) by unfold namesL; rw [if_neg (by rw [g1]; decide)])
  have hm : x.n4 ≤ 1000 := by rw [HX.out.n4]; exact (small_ok g1).1.1
  rw [g1]
  clear g1
  obtain ⟨n, hn⟩ : ∃ n, n = x.n4 := ⟨_, rfl⟩
  obtain ⟨a, ha⟩ : ∃ a, a = x.a4 := ⟨_, rfl⟩
  obtain ⟨c, hc⟩ : ∃ c, c = x.c4 := ⟨_, rfl⟩
  have HR := hide (show RdF w (.slice a n c) f.2.2.1 by rw [hn, ha, hc]; exact HX.out.fl)
  have HN := hide (show n = f.2.2.1.length by rw [hn]; exact HX.out.n4)
  rw [← hn] at hm k4
  rw [← ha, ← hc] at k4
  clear hn ha hc
  go_wp2
  go_loopw [17, 5] (fun i v wr => ∃ k : Nat, k ≤ n ∧ i = .int .i64 k ∧ Hid (OwT wr w.heap.size v ((f.2.2.1.take k).map (·.1))) ∧ Below w.heap.size w wr) (fun i _ _ => n - (intOf i).toNat)
  case atStart => exact ⟨0, Nat.zero_le _, rfl, hide (by simpa using OwT.nil _ _), HB_w2.out⟩
  case round =>
    obtain ⟨k, hk, rfl, hown, hbel⟩ := hrel
    by_cases hlt : k < n
    · have hlt' : (k : Int) < n := by omega
      have hkl : k < f.2.2.1.length := by have := HN.out; omega
      have HT := hide (fs_names_take f.2.2.1 k hkl)
      have HTL := hide (show ((f.2.2.1.take k).map (·.1)).length = k by rw [List.length_map, List.length_take]; omega)
      obtain ⟨b, off, a2, c2, rfl, q0, q1, q2⟩ := HR.out.atB hbel k hkl
      clear q2
      obtain ⟨g, hf⟩ : ∃ g, g = (f.2.2.1)[k] := ⟨_, rfl⟩
      rw [← hf] at q0 q1 HT
      clear hf
      obtain ⟨s, l⟩ := g
      simp only at q0 q1
      obtain ⟨m, hm2⟩ : ∃ m, m = l.length := ⟨_, rfl⟩
      rw [← hm2] at q1
      clear hm2
      obtain ⟨av, cv, e9⟩ := hown.out.form
      rw [HTL.out] at e9
      subst e9
      obtain ⟨wq, ewq⟩ : ∃ wq, wr.alloc (.cells #[.string (bs s), .slice a2 m c2] 92) = wq := ⟨_, rfl⟩
      have hbq : Below wr.heap.size wr wq := by rw [← ewq]; exact (Below.refl _ _).alloc (Nat.le_refl _) _
      have hbq' : Below w.heap.size w wq := hbel.trans (hbq.mono hbel.size)
      have c0 : wq.cell? ⟨wr.heap.size, 0, none⟩ = some (.string (bs s)) := by rw [← ewq]; simp
      obtain ⟨g9, c9, w9, hrun, ho9, hb9⟩ := app_txt (hown.out.carry hbq) hbq'.size (by rw [HTL.out]; omega) s
      rw [HTL.out] at hrun ho9
      have HO9 := hide ho9
      have HB9 := hide (hbq'.trans hb9)
      clear ho9 hb9 hown hbq hbq'
      go_wp2_with (at_builtin; refine wpList_runappE rfl (.tmp 21) (.tmp 24) 49 rfl rfl rfl rfl hrun ?_)
      go_roundw
      case rel => exact ⟨k + 1, by omega, rfl, hide (by rw [HT.out]; exact HO9.out), HB9.out⟩
      case measure => simp only [intOf]; omega
    · have hd : decide ((k : Int) < n) = false := by simpa using (by omega : ¬ (k : Int) < n)
      have HO := hide (show OwT wr w.heap.size _ (namesL f) by
        have := hown.out
        rw [List.take_of_length_le (by have := HN.out; omega)] at this
        rw [HE.out]; exact this)
      clear hown
      go_wp2
      go_ret2
      rw [HG.out]
      exact ⟨_, rfl, HO.out, hbel⟩

end Go.Proofs.YtnigdbhjaoeblaaGreat

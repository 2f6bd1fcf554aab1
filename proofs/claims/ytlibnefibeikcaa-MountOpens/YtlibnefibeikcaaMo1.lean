/-
  Of the document's side of layer 7: Open.
-/
import Derived.Test.YtlibnefibeikcaaMt1
import Derived.Test.YtlibnefibeikcaaRm6
import Derived.Test.YtlibnefibeikcaaKt
namespace Go.Proofs.Ytlibnefibeikcaa
open Go.RowKit
set_option linter.unusedVariables false
set_option linter.unusedSimpArgs false

theorem twinD {d : Dk} {v : Value} (w : World) (hD : RdD w v d) (hok : okD d = true) :
    Calls Try.prog 5 #[v] w fun e w' => ∃ v', e = .returned v' ∧ OwD w' w.heap.size v' d ∧ Below w.heap.size w w' := by
  obtain ⟨h1, h2, h3, h4, h5, h6, h7⟩ := (okD_iff d).1 hok
  have hl := okD_len hok
  refine (twin_any w hD (by omega) (by omega) (by omega) (fun p hp => by have := (putE_ok (h6 p hp)).2.2; omega) (fun p hp => by
    have h := h7 p hp
    unfold actE at h
    split at h
    · split at h
      · cases h
      · rename_i hh
        have : p.2.2 = [] := by
          by_cases e : p.2.2 = []
          · exact e
          · exact absurd (.inr e) hh
        rw [this]; simp
    · have := (putE_ok h).2.2; omega)).mono ?_
  rintro e w' ⟨x, y, z, B, rfl, hB, hx, _, hy, hz, _, hb⟩
  exact ⟨_, rfl, ⟨_, _, _, rfl, hx, hy.mono hB, hz.mono hB⟩, hb⟩
theorem OwD.noDn {w : World} {base : Nat} {v1 v2 v3 : Value} {d : Dk} (h : OwD w base (.agg #[v1, v2, v3]) d) : OwD w base (.agg #[v1, v2, .slice none 0 0]) (d.1, d.2.1, []) := by
  obtain ⟨x, y, z, e, h1, h2, h3⟩ := h
  simp only [Value.agg.injEq, Array.mk.injEq, List.cons.injEq, and_true] at e
  obtain ⟨rfl, rfl, rfl⟩ := e
  exact ⟨_, _, _, rfl, h1, h2, ⟨[], rfl, World.ownsRow_nil _ _ _ _, by simp⟩⟩

set_option maxHeartbeats 4000000 in
set_option maxRecDepth 100000 in
theorem any_no {l : List Pu} (h : ∀ p ∈ l, 34 ≤ p.1) : l.any (fun p => decide (p.1 < 34)) = false := by
  rw [List.any_eq_false]
  intro p hp
  have := h p hp
  simp
  omega
theorem any_yes {l : List Pu} {k : Nat} (hk : k < l.length) (h : (l[k]).1 < 34) : l.any (fun p => decide (p.1 < 34)) = true := List.any_eq_true.2 ⟨_, List.getElem_mem hk, by simpa using h⟩
theorem cut_fr {lo sz hi ar n1 c1 : Nat} (hlo : lo = ar * 128) (hhi : hi = lo + sz) (har : ar ≤ 18) (hsz : sz ≤ 2048) (h : lo + sz ≤ n1) (hc : n1 ≤ c1) (hlt : lo < n1) :
    IntKind.i64.wrap ((ar : Int) * 128) = (lo : Int) ∧ wrap64 ((ar : Int) * 128) = (lo : Int) ∧ IntKind.i64.wrap ((lo : Int) + sz) = (hi : Int) ∧ wrap64 ((lo : Int) + sz) = (hi : Int) ∧ (lo : Int) ≤ hi ∧ (hi : Int) ≤ c1 ∧ lo ≤ hi ∧ hi ≤ c1 ∧ ¬ c1 = lo ∧ hi - lo = sz ∧ ¬ lo = c1 := by
  refine ⟨?_, ?_, ?_, ?_, by omega, by omega, by omega, by omega, by omega, by omega, by omega⟩
  · rw [IntKind.wrap_i64]; omega
  · unfold wrap64; omega
  · rw [IntKind.wrap_i64]; omega
  · unfold wrap64; omega

set_option maxHeartbeats 8000000 in
set_option maxRecDepth 100000 in
theorem ropen7_any {d : Dk} {v : Value} (w : World) (hD : RdD w v d) :
    Calls Try.prog 7 #[v] w fun e w' => ∃ v', e = .returned (.tuple #[v', .int .i64 (openFs d).2]) ∧ OwFs w' w.heap.size v' (openFs d).1 ∧ Below w.heap.size w w' := by
  obtain ⟨a1, c1, a2, c2, a3, c3, rfl, h1, h2, _⟩ := hD.form
  have HD := hide hD
  have H1 := hide h1
  have H2 := hide h2
  clear hD h1 h2
  generalize e1 : d.1.length = n1 at *
  generalize e2 : d.2.1.length = n2 at *
  generalize e3 : d.2.2.length = n3 at *
  have E1 := hide e1
  have E2 := hide e2
  clear e1 e2 e3
  obtain ⟨w1, ew⟩ : ∃ w1, (w.alloc (.cells #[.slice a1 n1 c1, .slice a2 n2 c2, .slice a3 n3 c3] 26)).alloc (.cells #[.slice none 0 0, .slice none 0 0, .slice none 0 0, .int .u32 0, .slice none 0 0, .slice none 0 0] 34) = w1 := ⟨_, rfl⟩
  have q0 : Below w.heap.size w (w.alloc (.cells #[.slice a1 n1 c1, .slice a2 n2 c2, .slice a3 n3 c3] 26)) := (Below.refl _ _).alloc (Nat.le_refl _) _
  have q1 : Below (w.alloc (.cells #[.slice a1 n1 c1, .slice a2 n2 c2, .slice a3 n3 c3] 26)).heap.size (w.alloc (.cells #[.slice a1 n1 c1, .slice a2 n2 c2, .slice a3 n3 c3] 26)) w1 := by rw [← ew]; exact (Below.refl _ _).alloc (Nat.le_refl _) _
  have HQ_w1 := hide ((Bq.new w 26 #[.slice a1 n1 c1, .slice a2 n2 c2, .slice a3 n3 c3]).carry q1)
  have HFB_w1 := hide (show FsB w1 (w.heap.size + 1) by have := FsB.new (w.alloc (.cells #[.slice a1 n1 c1, .slice a2 n2 c2, .slice a3 n3 c3] 26)); rw [← ew]; simpa using this)
  have HB_w1 := hide (q0.trans (q1.mono q0.size))
  clear q0 q1
  obtain ⟨k0, k1, k2⟩ := dk_cells HQ_w1.out
  go_enter Try.func7, Try.ntmps7
  go_wp2_with fail
  try rw [ew]
  refine (rlatest_any (d := d) w1 (HD.out.carry HB_w1.out)).mono ?_
  rintro e w2 ⟨rfl, hb2⟩
  have HQ_w2 := hide (HQ_w1.out.carry hb2)
  have HFB_w2 := hide (HFB_w1.out.carry hb2)
  have HB_w2 := hide (show Below w.heap.size w w2 from HB_w1.out.trans (hb2.mono HB_w1.out.size))
  clear k0 k1 k2 ew hb2
  obtain ⟨ge, sz, er, hL⟩ : ∃ ge sz er, latestS d = (ge, sz, er) := ⟨_, _, _, rfl⟩
  rw [hL]
  have HL := hide hL
  clear hL
  by_cases g1 : ¬ er = 0
  · have HE := hide (show openFs d = (fz, er) by unfold openFs; rw [HL.out, if_pos g1])
    have g1' : (er != 0) = true := by simpa using g1
    have HST := hide ((show OwFs w2 w.heap.size (⟨none, 0, 0, none, 0, 0, none, 0, 0, 0, none, 0, 0, none, 0, 0⟩ : FsV).val fz from OwFs_zero w2 w.heap.size).stored (r := w.heap.size + 1) HFB_w2.out HB_w2.out (by omega))
    obtain ⟨⟨d0, e0⟩, ⟨d1, e1⟩, ⟨d2, e2⟩, ⟨d3, e3⟩, ⟨d4, e4⟩, ⟨d5, e5⟩, ff⟩ := HFB_w2.out.cells
    have f0 := ff 0
    have f1 := ff 1
    have f2 := ff 2
    have f3 := ff 3
    have f4 := ff 4
    have f5 := ff 5
    clear ff
    go_wp2
    have e6 : set6 w2 (w.heap.size + 1) (⟨none, 0, 0, none, 0, 0, none, 0, 0, 0, none, 0, 0, none, 0, 0⟩ : FsV) = ((((((w2.setCell ⟨w.heap.size + 1, 0, none⟩ (.slice none 0 0)).setCell ⟨w.heap.size + 1, 1, none⟩ (.slice none 0 0)).setCell ⟨w.heap.size + 1, 2, none⟩ (.slice none 0 0)).setCell ⟨w.heap.size + 1, 3, none⟩ (.int .u32 0)).setCell ⟨w.heap.size + 1, 4, none⟩ (.slice none 0 0)).setCell ⟨w.heap.size + 1, 5, none⟩ (.slice none 0 0)) := rfl
    rw [e6] at HST
    obtain ⟨w9, hw9⟩ : ∃ w9, w9 = ((((((w2.setCell ⟨w.heap.size + 1, 0, none⟩ (.slice none 0 0)).setCell ⟨w.heap.size + 1, 1, none⟩ (.slice none 0 0)).setCell ⟨w.heap.size + 1, 2, none⟩ (.slice none 0 0)).setCell ⟨w.heap.size + 1, 3, none⟩ (.int .u32 0)).setCell ⟨w.heap.size + 1, 4, none⟩ (.slice none 0 0)).setCell ⟨w.heap.size + 1, 5, none⟩ (.slice none 0 0)) := ⟨_, rfl⟩
    rw [← hw9] at HST ⊢
    clear e6
    clear e0 e1 e2 e3 e4 e5 f0 f1 f2 f3 f4 f5
    obtain ⟨z0, z1, z2, z3, z4, z5⟩ := fs_cells HST.out.2.2
    dsimp only at z0 z1 z2 z3 z4 z5
    try simp only [Exit.inBlock, Exit.then]
    refine bodyPost_ret (v := .tuple #[(⟨none, 0, 0, none, 0, 0, none, 0, 0, 0, none, 0, 0, none, 0, 0⟩ : FsV).val, .int .i64 er]) ?_ rfl (⟨_, by rw [HE.out], by rw [HE.out]; exact HST.out.1, HST.out.2.1⟩)
    clear hw9
    simp [results, Try.results7, go_sem, *]
  rw [Decidable.not_not] at g1
  subst g1
  have HLT := hide (latest_lt HL.out)
  have HGL := hide (genB_len HL.out)
  have HN2 := hide (show n2 ≤ 65536 by have h := ((okD_iff d).1 HLT.out.2.2.2.2.2).2.2.2.1; rw [E2.out] at h; exact h)
  have hn65 := HN2.out
  obtain ⟨k0, k1, k2⟩ := dk_cells HQ_w2.out
  go_wp2_with fail
  clear k0 k1 k2
  go_loopw [7] (fun i wr => ∃ k : Nat, k ≤ n2 ∧ i = .int .i64 k ∧ Hid (∀ p ∈ d.2.1.take k, 34 ≤ p.1) ∧ Hid (Below w2.heap.size w2 wr)) (fun i _ => n2 - (intOf i).toNat)
  case atStart => exact ⟨0, Nat.zero_le _, rfl, hide (by simp), hide (Below.refl _ _)⟩
  case round =>
    obtain ⟨k, hk, rfl, hall, hbel⟩ := hrel
    have HB_wr := hide (show Below w.heap.size w wr from HB_w2.out.trans (hbel.out.mono HB_w2.out.size))
    have HQ_wr := hide (HQ_w2.out.carry hbel.out)
    have HFB_wr := hide (HFB_w2.out.carry hbel.out)
    obtain ⟨k0, k1, k2⟩ := dk_cells HQ_wr.out
    by_cases hlt : k < n2
    · have hlt' : (k : Int) < n2 := by omega
      have hkl : k < d.2.1.length := by have := E2.out; omega
      obtain ⟨b, off, ea, q0, -⟩ := (H2.out.carry HB_wr.out).at k hkl
      rw [ea] at k1
      have HALL := hide (fun (h : 34 ≤ (d.2.1[k]).1) => show ∀ p ∈ d.2.1.take (k + 1), 34 ≤ p.1 by
        intro p hp
        rw [List.take_succ_eq_append_getElem hkl] at hp
        rcases List.mem_append.1 hp with hp | hp
        · exact hall.out p hp
        · rw [List.mem_singleton.1 hp]; exact h)
      have HBAD := hide (fun (h : (d.2.1[k]).1 < 34) => any_yes hkl h)
      obtain ⟨N, hN⟩ : ∃ N, N = (d.2.1[k]).1 := ⟨_, rfl⟩
      rw [← hN] at q0 HALL HBAD
      clear hN
      by_cases g3 : N < 34
      · have g3' : decide (N < 34) = true := decide_eq_true g3
        have HE := hide (show openFs d = (fz, 70) by unfold openFs; rw [HL.out, if_neg (by simp), if_pos (HBAD.out g3)])
        clear g3
        have HST := hide ((show OwFs wr w.heap.size (⟨none, 0, 0, none, 0, 0, none, 0, 0, 0, none, 0, 0, none, 0, 0⟩ : FsV).val fz from OwFs_zero wr w.heap.size).stored (r := w.heap.size + 1) HFB_wr.out HB_wr.out (by omega))
        obtain ⟨⟨d0, e0⟩, ⟨d1, e1⟩, ⟨d2, e2⟩, ⟨d3, e3⟩, ⟨d4, e4⟩, ⟨d5, e5⟩, ff⟩ := HFB_wr.out.cells
        have f0 := ff 0
        have f1 := ff 1
        have f2 := ff 2
        have f3 := ff 3
        have f4 := ff 4
        have f5 := ff 5
        clear ff
        go_wp2
        have e6 : set6 wr (w.heap.size + 1) (⟨none, 0, 0, none, 0, 0, none, 0, 0, 0, none, 0, 0, none, 0, 0⟩ : FsV) = ((((((wr.setCell ⟨w.heap.size + 1, 0, none⟩ (.slice none 0 0)).setCell ⟨w.heap.size + 1, 1, none⟩ (.slice none 0 0)).setCell ⟨w.heap.size + 1, 2, none⟩ (.slice none 0 0)).setCell ⟨w.heap.size + 1, 3, none⟩ (.int .u32 0)).setCell ⟨w.heap.size + 1, 4, none⟩ (.slice none 0 0)).setCell ⟨w.heap.size + 1, 5, none⟩ (.slice none 0 0)) := rfl
        rw [e6] at HST
        obtain ⟨w9, hw9⟩ : ∃ w9, w9 = ((((((wr.setCell ⟨w.heap.size + 1, 0, none⟩ (.slice none 0 0)).setCell ⟨w.heap.size + 1, 1, none⟩ (.slice none 0 0)).setCell ⟨w.heap.size + 1, 2, none⟩ (.slice none 0 0)).setCell ⟨w.heap.size + 1, 3, none⟩ (.int .u32 0)).setCell ⟨w.heap.size + 1, 4, none⟩ (.slice none 0 0)).setCell ⟨w.heap.size + 1, 5, none⟩ (.slice none 0 0)) := ⟨_, rfl⟩
        rw [← hw9] at HST ⊢
        clear e6
        clear e0 e1 e2 e3 e4 e5 f0 f1 f2 f3 f4 f5
        obtain ⟨z0, z1, z2, z3, z4, z5⟩ := fs_cells HST.out.2.2
        dsimp only at z0 z1 z2 z3 z4 z5
        try simp only [Exit.inBlock, Exit.then]
        refine bodyPost_ret (v := .tuple #[(⟨none, 0, 0, none, 0, 0, none, 0, 0, 0, none, 0, 0, none, 0, 0⟩ : FsV).val, .int .i64 70]) ?_ rfl (⟨_, by rw [HE.out], by rw [HE.out]; exact HST.out.1, HST.out.2.1⟩)
        clear hw9
        simp [results, Try.results7, go_sem, *]
      · have g3' : decide (N < 34) = false := decide_eq_false g3
        have HA2 := hide (HALL.out (by omega))
        clear g3
        go_wp2
        exact ⟨⟨k + 1, by omega, rfl, HA2, hbel⟩, by simp only [intOf]; omega⟩
    · have hd : decide ((k : Int) < n2) = false := decide_eq_false (by omega)
      have HALL := hide (any_no (show ∀ p ∈ d.2.1, 34 ≤ p.1 by
        have := hall.out
        rwa [List.take_of_length_le (by have := E2.out; omega)] at this))
      obtain ⟨ar, har⟩ : ∃ ar, ar = 2 + ge % 2 * 16 := ⟨_, rfl⟩
      have hsw := rwhere_any ge wr HLT.out.2.1
      rw [← har] at hsw
      have HAR := hide har
      clear har hall
      go_wp2_with fail
      refine hsw.mono ?_
      clear hsw hd hlt hk hbel k0 k1 k2
      rintro e w9' ⟨rfl, ew9⟩
      subst w9'
      obtain ⟨hsz, hge, hlen, hm, hm2, hok⟩ := HLT.out
      rw [E1.out] at hlen
      obtain ⟨b9, o9, ea, hnc⟩ := rd_some6 H1.out (by intro e; have := E1.out; rw [e] at this; simp at this; omega)
      subst ea
      obtain ⟨lo, hlo⟩ : ∃ lo, lo = ar * 128 := ⟨_, rfl⟩
      obtain ⟨y1, y2, y3, y4, y5, y6, y7⟩ := lo_ok hlen hm hsz hnc HAR.out hlo
      have hrd := rd_at (H1.out.carry HB_wr.out) lo sz (by rw [E1.out]; exact y6) (by intro e; have := E1.out; rw [e] at this; simp at this; omega)
      have hgb : (d.1.drop lo).take sz = genB d ge sz := by unfold genB; rw [hlo, HAR.out, Nat.mul_comm]
      rw [hgb] at hrd
      have HRS := hide hrd
      obtain ⟨hi, hhi⟩ : ∃ hi, hi = lo + sz := ⟨_, rfl⟩
      have har18 : ar ≤ 18 := by rw [HAR.out]; omega
      obtain ⟨B, hB⟩ : ∃ B : Nat, B = n1 / 128 := ⟨_, rfl⟩
      have HBB := hide (show B = mny d by rw [hB, ← E1.out]; rfl)
      have HRM := hide (fun (wx : World) => rmany_any (some ⟨b9, o9, none⟩) a2 a3 n1 c1 n2 c2 n3 c3 (by rw [← E1.out]; exact H1.out.len_le) wx)
      rw [← hB] at HRM
      obtain ⟨RE, hRE⟩ : ∃ e, e = readE (genB d ge sz) (mny d) := ⟨_, rfl⟩
      obtain ⟨RL, hRL⟩ : ∃ e, e = readL (genB d ge sz) (mny d) := ⟨_, rfl⟩
      have HE0 := hide (show openFs d = if RE ≠ 0 then (fz, 70) else (((d.1, d.2.1, []), ge, RL, RL), 0) by unfold openFs; rw [HL.out, if_neg (by simp), if_neg (by rw [HALL.out]; decide), hRE, hRL])
      have HSM := hide (fun (h : RE = 0) => show smallD RL by rw [hRL]; exact small_chk (read_only (by rw [← hRE]; exact h)).1)
      have HRR := hide (fun (wx : World) (h : Below wr.heap.size wr wx) => rRead_any (some ⟨b9, o9 + lo, none⟩) sz (c1 - lo) (genB d ge sz) B wx (HRS.out.carry h) HGL.out.symm)
      rw [HBB.out, ← hRE, ← hRL, ← HBB.out] at HRR
      obtain ⟨m5, hm5⟩ : ∃ m5, m5 = RL.length := ⟨_, rfl⟩
      have HM5 := hide hm5
      obtain ⟨z1, z2, z3, z4, z5, z6, z7, z8, z9, z10, z11⟩ := cut_fr (n1 := n1) (c1 := c1) hlo hhi har18 hsz y6 hnc (by omega)
      have HOK := hide hok
      clear hrd hgb hsz hge hlen hm hm2 hlo hok y1 y2 y3 y4 y5 y6 y7 hnc hhi har18 hB hRE hRL hm5
      obtain ⟨k0, k1, k2⟩ := dk_cells HQ_wr.out
      go_wp2
      clear k0 k1 k2
      refine region_cut (α := Nat × Option Addr × Nat) (F := fun bx a => ((((((((((((((((((a.put (some 44) (.pointer (some ⟨w.heap.size, 0, none⟩))).put (some 45) (.slice (some ⟨b9, o9, none⟩) n1 c1)).put (some 46) (.int .i64 ar)).put (some 47) (.int .i64 lo)).put (some 48) (.int .i64 ar)).put (some 49) (.int .i64 lo)).put (some 50) (.int .i64 sz)).put (some 51) (.int .i64 hi)).put (some 52) (.slice (some ⟨b9, o9 + lo, none⟩) sz (c1 - lo))).put (some 53) (.agg #[.slice (some ⟨b9, o9, none⟩) n1 c1, .slice a2 n2 c2, .slice a3 n3 c3])).put (some 54) (.int .i64 B)).put (some 55) (.tuple #[.agg #[.slice bx.2.1 m5 bx.2.2], .int .i64 RE])).put (some 43) (.tuple #[.agg #[.slice bx.2.1 m5 bx.2.2], .int .i64 RE])).put (some 56) (.agg #[.slice bx.2.1 m5 bx.2.2])).put (some 57) (.int .i64 RE)).put (some 10) (.pointer (some ⟨bx.1, 0, none⟩))).put none undef).put (some 11) (.int .i64 RE))) (R := fun bx wz => Bq wz bx.1 32 #[.slice bx.2.1 m5 bx.2.2] ∧ OwF wz w.heap.size (.slice bx.2.1 m5 bx.2.2) RL ∧ Below wr.heap.size wr wz) ?regqz ?impqz
      case regqz =>
        have hK : Keeps (fun wx => Below wr.heap.size wr wx) := fun w1 w2 h hb => h.trans (hb.mono h.size)
        have hS0 : (fun wx => Below wr.heap.size wr wx) wr := Below.refl _ _
        refine reg_begin hK (by kernel_rfl) hS0 ?_
        intro hS
        generalize wr.drew = wd at *
        refine reg_take (i := 0) (v := ?qz1v) rfl (by kernel_rfl) (by kernel_rfl) (by kernel_rfl) (by kernel_rfl) ?qz1y hS ?qz1r
        case qz1y => (rintro wx hx; obtain ⟨k0, k1, k2⟩ := dk_cells (HQ_wr.out.carry hx); clear hx; go_simp; all_goals (with_reducible rfl))
        try simp only [Act.put, List.setIfInBounds_toArray, List.set_cons_zero, List.set_cons_succ]
        refine reg_take (i := 1) (v := ?qz2v) rfl (by kernel_rfl) (by kernel_rfl) (by kernel_rfl) (by kernel_rfl) ?qz2y hS ?qz2r
        case qz2y => (rintro wx hx; obtain ⟨k0, k1, k2⟩ := dk_cells (HQ_wr.out.carry hx); clear hx; go_simp; all_goals (with_reducible rfl))
        try simp only [Act.put, List.setIfInBounds_toArray, List.set_cons_zero, List.set_cons_succ]
        refine reg_take (i := 2) (v := ?qz3v) rfl (by kernel_rfl) (by kernel_rfl) (by kernel_rfl) (by kernel_rfl) ?qz3y hS ?qz3r
        case qz3y => (rintro wx hx; obtain ⟨k0, k1, k2⟩ := dk_cells (HQ_wr.out.carry hx); clear hx; go_simp; all_goals (with_reducible rfl))
        try simp only [Act.put, List.setIfInBounds_toArray, List.set_cons_zero, List.set_cons_succ]
        refine reg_take (i := 3) (v := ?qz4v) rfl (by kernel_rfl) (by kernel_rfl) (by kernel_rfl) (by kernel_rfl) ?qz4y hS ?qz4r
        case qz4y => (rintro wx hx; obtain ⟨k0, k1, k2⟩ := dk_cells (HQ_wr.out.carry hx); clear hx; go_simp; all_goals (with_reducible rfl))
        try simp only [Act.put, List.setIfInBounds_toArray, List.set_cons_zero, List.set_cons_succ]
        refine reg_take (i := 4) (v := ?qz5v) rfl (by kernel_rfl) (by kernel_rfl) (by kernel_rfl) (by kernel_rfl) ?qz5y hS ?qz5r
        case qz5y => (rintro wx hx; obtain ⟨k0, k1, k2⟩ := dk_cells (HQ_wr.out.carry hx); clear hx; go_simp; all_goals (with_reducible rfl))
        try simp only [Act.put, List.setIfInBounds_toArray, List.set_cons_zero, List.set_cons_succ]
        refine reg_take (i := 5) (v := ?qz6v) rfl (by kernel_rfl) (by kernel_rfl) (by kernel_rfl) (by kernel_rfl) ?qz6y hS ?qz6r
        case qz6y => (rintro wx hx; obtain ⟨k0, k1, k2⟩ := dk_cells (HQ_wr.out.carry hx); clear hx; go_simp; all_goals (with_reducible rfl))
        try simp only [Act.put, List.setIfInBounds_toArray, List.set_cons_zero, List.set_cons_succ]
        refine reg_take (i := 6) (v := ?qz7v) rfl (by kernel_rfl) (by kernel_rfl) (by kernel_rfl) (by kernel_rfl) ?qz7y hS ?qz7r
        case qz7y => (rintro wx hx; obtain ⟨k0, k1, k2⟩ := dk_cells (HQ_wr.out.carry hx); clear hx; go_simp; all_goals (with_reducible rfl))
        try simp only [Act.put, List.setIfInBounds_toArray, List.set_cons_zero, List.set_cons_succ]
        refine reg_take (i := 7) (v := ?qz8v) rfl (by kernel_rfl) (by kernel_rfl) (by kernel_rfl) (by kernel_rfl) ?qz8y hS ?qz8r
        case qz8y => (rintro wx hx; obtain ⟨k0, k1, k2⟩ := dk_cells (HQ_wr.out.carry hx); clear hx; go_simp; all_goals (with_reducible rfl))
        try simp only [Act.put, List.setIfInBounds_toArray, List.set_cons_zero, List.set_cons_succ]
        refine reg_take (i := 8) (v := ?qz9v) rfl (by kernel_rfl) (by kernel_rfl) (by kernel_rfl) (by kernel_rfl) ?qz9y hS ?qz9r
        case qz9y => (rintro wx hx; obtain ⟨k0, k1, k2⟩ := dk_cells (HQ_wr.out.carry hx); clear hx; go_simp; all_goals (with_reducible rfl))
        try simp only [Act.put, List.setIfInBounds_toArray, List.set_cons_zero, List.set_cons_succ]
        refine reg_take (i := 9) (v := ?qz10v) rfl (by kernel_rfl) (by kernel_rfl) (by kernel_rfl) (by kernel_rfl) ?qz10y hS ?qz10r
        case qz10y => (rintro wx hx; obtain ⟨k0, k1, k2⟩ := dk_cells (HQ_wr.out.carry hx); clear hx; go_simp; all_goals (with_reducible rfl))
        try simp only [Act.put, List.setIfInBounds_toArray, List.set_cons_zero, List.set_cons_succ]
        refine reg_two (i := 10) (j := 15) (by kernel_rfl) ?_ ?_
        · skip
          refine wop_callg (R := fun v wy => v = .int .i64 B ∧ Below wd.heap.size wd wy) rfl (by kernel_rfl) (by go_simp; try rfl) ((HRM.out wd).mono fun e wy ⟨h1, h2⟩ => ⟨_, h1, rfl, h2⟩) ?_
          rintro v9 wqz11 ⟨rfl, hbb⟩
          have hSN := hK _ _ hS hbb
          refine ⟨hSN, ?_⟩
          clear hS hbb
          have hS := hSN
          clear hSN
          try simp only [Act.put, List.setIfInBounds_toArray, List.set_cons_zero, List.set_cons_succ]
          refine reg_two (i := 11) (j := 15) (by kernel_rfl) ?_ ?_
          · skip
            refine wop_callg (R := fun v wy => ∃ u5 z5, v = .tuple #[.agg #[.slice u5 m5 z5], .int .i64 RE] ∧ OwF wy w.heap.size (.slice u5 m5 z5) RL ∧ Below wqz11.heap.size wqz11 wy) rfl (by kernel_rfl) (by go_simp; try rfl) ((HRR.out wqz11 hS).mono fun e wy ⟨v5, h1, h2, h3⟩ => by obtain ⟨u5, z5, e5⟩ := h2.form; rw [← HM5.out] at e5; subst e5; exact ⟨_, h1, u5, z5, rfl, h2.mono (Nat.le_trans HB_wr.out.size (Below.size hS)), h3⟩) ?_
            rintro v9 wqz12 ⟨u5, z5, rfl, ho5, hbb⟩
            have hSN := hK _ _ hS hbb
            refine ⟨hSN, ?_⟩
            have Hqz13 := ho5
            clear ho5
            clear hS hbb
            have hS := hSN
            clear hSN
            try simp only [Act.put, List.setIfInBounds_toArray, List.set_cons_zero, List.set_cons_succ]
            refine reg_take (i := 12) (v := ?qz14v) rfl (by kernel_rfl) (by kernel_rfl) (by kernel_rfl) (by kernel_rfl) ?qz14y hS ?qz14r
            case qz14y => (rintro wx hx; obtain ⟨k0, k1, k2⟩ := dk_cells (HQ_wr.out.carry hx); clear hx; go_simp; all_goals (with_reducible rfl))
            try simp only [Act.put, List.setIfInBounds_toArray, List.set_cons_zero, List.set_cons_succ]
            refine reg_take (i := 13) (v := ?qz15v) rfl (by kernel_rfl) (by kernel_rfl) (by kernel_rfl) (by kernel_rfl) ?qz15y hS ?qz15r
            case qz15y => (rintro wx hx; obtain ⟨k0, k1, k2⟩ := dk_cells (HQ_wr.out.carry hx); clear hx; go_simp; all_goals (with_reducible rfl))
            try simp only [Act.put, List.setIfInBounds_toArray, List.set_cons_zero, List.set_cons_succ]
            refine reg_take (i := 14) (v := ?qz16v) rfl (by kernel_rfl) (by kernel_rfl) (by kernel_rfl) (by kernel_rfl) ?qz16y hS ?qz16r
            case qz16y => (rintro wx hx; obtain ⟨k0, k1, k2⟩ := dk_cells (HQ_wr.out.carry hx); clear hx; go_simp; all_goals (with_reducible rfl))
            try simp only [Act.put, List.setIfInBounds_toArray, List.set_cons_zero, List.set_cons_succ]
            obtain ⟨wqz17, ewqz17⟩ : ∃ wN, wqz12.alloc (.cells #[.slice none 0 0] 32) = wN := ⟨_, rfl⟩
            have hbb : Below wqz12.heap.size wqz12 wqz17 := by rw [← ewqz17]; exact (Below.refl _ _).alloc (Nat.le_refl _) _
            have hSN := hK _ _ hS hbb
            have Hqz18 := Hqz13.carry hbb
            obtain ⟨Aqz19, hAqz19⟩ : ∃ A, A = wqz12.heap.size := ⟨_, rfl⟩
            have Hqz19 : BlkD wqz17 Aqz19 := by rw [← ewqz17, hAqz19]; exact BlkD.new wqz12 _
            have Lqz19 : wr.heap.size ≤ Aqz19 := by rw [hAqz19]; exact hS.size
            refine reg_run (i := 15) (v := .pointer (some ⟨Aqz19, 0, none⟩)) (w' := wqz17) rfl (by kernel_rfl) (by kernel_rfl) (by rw [← ewqz17, hAqz19]; go_simp) hSN ?_
            clear hS hbb ewqz17 hAqz19
            have hS := hSN
            clear hSN
            try simp only [Act.put, List.setIfInBounds_toArray, List.set_cons_zero, List.set_cons_succ]
            have hc9 := Hqz19.cell
            have hf9 := Hqz19.fz
            obtain ⟨-, hg9, -⟩ := Hqz19.put (.slice u5 m5 z5)
            obtain ⟨y9, hy9⟩ := Hqz19
            have hat9 : Bq (wqz17.setCell ⟨Aqz19, 0, none⟩ (.slice u5 m5 z5)) Aqz19 32 #[.slice u5 m5 z5] := Bq.put (cs := #[y9]) hy9 0 _
            obtain ⟨wqz20, ewqz20⟩ : ∃ wN, wqz17.setCell ⟨Aqz19, 0, none⟩ (.slice u5 m5 z5) = wN := ⟨_, rfl⟩
            rw [ewqz20] at hg9 hat9
            have hSN := hS.grown hg9 hS.size (by intro k hk; cases hk; exact Lqz19)
            have Ho5_wqz20 := Hqz18.keptS hg9 hy9 (by decide) (by decide)
            have hat15 := hat9
            clear hg9 hy9 hat9
            refine reg_unit (i := 16) (w' := wqz20) rfl (by kernel_rfl) (by kernel_rfl) (by rw [← ewqz20]; go_simp) hSN ?_
            clear hS ewqz20 hc9 hf9
            have hS := hSN
            clear hSN
            try simp only [Act.put, List.setIfInBounds_toArray, List.set_cons_zero, List.set_cons_succ]
            refine reg_take (i := 17) (v := ?qz21v) rfl (by kernel_rfl) (by kernel_rfl) (by kernel_rfl) (by kernel_rfl) ?qz21y hS ?qz21r
            case qz21y => (rintro wx hx; obtain ⟨k0, k1, k2⟩ := dk_cells (HQ_wr.out.carry hx); clear hx; go_simp; all_goals (with_reducible rfl))
            try simp only [Act.put, List.setIfInBounds_toArray, List.set_cons_zero, List.set_cons_succ]
            refine wpAnyH_done (by kernel_rfl) ?_ _
            refine NoPanic.normal ?_
            exact ⟨rfl, (Aqz19, u5, z5), by simp only [Act.put, List.setIfInBounds_toArray, List.set_cons_zero, List.set_cons_succ], hat15, Ho5_wqz20, hS⟩
          · skip
            obtain ⟨wqz22, ewqz22⟩ : ∃ wN, wqz11.alloc (.cells #[.slice none 0 0] 32) = wN := ⟨_, rfl⟩
            have hbb : Below wqz11.heap.size wqz11 wqz22 := by rw [← ewqz22]; exact (Below.refl _ _).alloc (Nat.le_refl _) _
            have hSN := hK _ _ hS hbb
            obtain ⟨Aqz23, hAqz23⟩ : ∃ A, A = wqz11.heap.size := ⟨_, rfl⟩
            have Hqz23 : BlkD wqz22 Aqz23 := by rw [← ewqz22, hAqz23]; exact BlkD.new wqz11 _
            have Lqz23 : wr.heap.size ≤ Aqz23 := by rw [hAqz23]; exact hS.size
            refine wop_run (v := .pointer (some ⟨Aqz23, 0, none⟩)) (w' := wqz22) rfl (by kernel_rfl) (by rw [← ewqz22, hAqz23]; go_simp) ⟨hSN, ?_⟩
            clear hS hbb ewqz22 hAqz23
            have hS := hSN
            clear hSN
            try simp only [Act.put, List.setIfInBounds_toArray, List.set_cons_zero, List.set_cons_succ]
            refine reg_callg (i := 11) (R := fun v wy => ∃ u5 z5, v = .tuple #[.agg #[.slice u5 m5 z5], .int .i64 RE] ∧ OwF wy w.heap.size (.slice u5 m5 z5) RL ∧ Below wqz22.heap.size wqz22 wy) rfl (by kernel_rfl) (by kernel_rfl) (by go_simp; try rfl) ((HRR.out wqz22 hS).mono fun e wy ⟨v5, h1, h2, h3⟩ => by obtain ⟨u5, z5, e5⟩ := h2.form; rw [← HM5.out] at e5; subst e5; exact ⟨_, h1, u5, z5, rfl, h2.mono (Nat.le_trans HB_wr.out.size (Below.size hS)), h3⟩) ?_
            rintro v9 wqz24 ⟨u5, z5, rfl, ho5, hbb⟩
            have hSN := hK _ _ hS hbb
            refine ⟨hSN, ?_⟩
            have Hqz25 := Hqz23.carry hbb
            have Hqz26 := ho5
            clear ho5
            clear hS hbb
            have hS := hSN
            clear hSN
            try simp only [Act.put, List.setIfInBounds_toArray, List.set_cons_zero, List.set_cons_succ]
            refine reg_take (i := 12) (v := ?qz27v) rfl (by kernel_rfl) (by kernel_rfl) (by kernel_rfl) (by kernel_rfl) ?qz27y hS ?qz27r
            case qz27y => (rintro wx hx; obtain ⟨k0, k1, k2⟩ := dk_cells (HQ_wr.out.carry hx); clear hx; go_simp; all_goals (with_reducible rfl))
            try simp only [Act.put, List.setIfInBounds_toArray, List.set_cons_zero, List.set_cons_succ]
            refine reg_take (i := 13) (v := ?qz28v) rfl (by kernel_rfl) (by kernel_rfl) (by kernel_rfl) (by kernel_rfl) ?qz28y hS ?qz28r
            case qz28y => (rintro wx hx; obtain ⟨k0, k1, k2⟩ := dk_cells (HQ_wr.out.carry hx); clear hx; go_simp; all_goals (with_reducible rfl))
            try simp only [Act.put, List.setIfInBounds_toArray, List.set_cons_zero, List.set_cons_succ]
            refine reg_take (i := 14) (v := ?qz29v) rfl (by kernel_rfl) (by kernel_rfl) (by kernel_rfl) (by kernel_rfl) ?qz29y hS ?qz29r
            case qz29y => (rintro wx hx; obtain ⟨k0, k1, k2⟩ := dk_cells (HQ_wr.out.carry hx); clear hx; go_simp; all_goals (with_reducible rfl))
            try simp only [Act.put, List.setIfInBounds_toArray, List.set_cons_zero, List.set_cons_succ]
            have hc9 := Hqz25.cell
            have hf9 := Hqz25.fz
            obtain ⟨-, hg9, -⟩ := Hqz25.put (.slice u5 m5 z5)
            obtain ⟨y9, hy9⟩ := Hqz25
            have hat9 : Bq (wqz24.setCell ⟨Aqz23, 0, none⟩ (.slice u5 m5 z5)) Aqz23 32 #[.slice u5 m5 z5] := Bq.put (cs := #[y9]) hy9 0 _
            obtain ⟨wqz30, ewqz30⟩ : ∃ wN, wqz24.setCell ⟨Aqz23, 0, none⟩ (.slice u5 m5 z5) = wN := ⟨_, rfl⟩
            rw [ewqz30] at hg9 hat9
            have hSN := hS.grown hg9 hS.size (by intro k hk; cases hk; exact Lqz23)
            have Ho5_wqz30 := Hqz26.keptS hg9 hy9 (by decide) (by decide)
            have hat15 := hat9
            clear hg9 hy9 hat9
            refine reg_unit (i := 16) (w' := wqz30) rfl (by kernel_rfl) (by kernel_rfl) (by rw [← ewqz30]; go_simp) hSN ?_
            clear hS ewqz30 hc9 hf9
            have hS := hSN
            clear hSN
            try simp only [Act.put, List.setIfInBounds_toArray, List.set_cons_zero, List.set_cons_succ]
            refine reg_take (i := 17) (v := ?qz31v) rfl (by kernel_rfl) (by kernel_rfl) (by kernel_rfl) (by kernel_rfl) ?qz31y hS ?qz31r
            case qz31y => (rintro wx hx; obtain ⟨k0, k1, k2⟩ := dk_cells (HQ_wr.out.carry hx); clear hx; go_simp; all_goals (with_reducible rfl))
            try simp only [Act.put, List.setIfInBounds_toArray, List.set_cons_zero, List.set_cons_succ]
            refine wpAnyH_done (by kernel_rfl) ?_ _
            refine NoPanic.normal ?_
            exact ⟨rfl, (Aqz23, u5, z5), by simp only [Act.put, List.setIfInBounds_toArray, List.set_cons_zero, List.set_cons_succ], hat15, Ho5_wqz30, hS⟩
        · skip
          obtain ⟨wqz32, ewqz32⟩ : ∃ wN, wd.alloc (.cells #[.slice none 0 0] 32) = wN := ⟨_, rfl⟩
          have hbb : Below wd.heap.size wd wqz32 := by rw [← ewqz32]; exact (Below.refl _ _).alloc (Nat.le_refl _) _
          have hSN := hK _ _ hS hbb
          obtain ⟨Aqz33, hAqz33⟩ : ∃ A, A = wd.heap.size := ⟨_, rfl⟩
          have Hqz33 : BlkD wqz32 Aqz33 := by rw [← ewqz32, hAqz33]; exact BlkD.new wd _
          have Lqz33 : wr.heap.size ≤ Aqz33 := by rw [hAqz33]; exact hS.size
          refine wop_run (v := .pointer (some ⟨Aqz33, 0, none⟩)) (w' := wqz32) rfl (by kernel_rfl) (by rw [← ewqz32, hAqz33]; go_simp) ⟨hSN, ?_⟩
          clear hS hbb ewqz32 hAqz33
          have hS := hSN
          clear hSN
          try simp only [Act.put, List.setIfInBounds_toArray, List.set_cons_zero, List.set_cons_succ]
          refine reg_callg (i := 10) (R := fun v wy => v = .int .i64 B ∧ Below wqz32.heap.size wqz32 wy) rfl (by kernel_rfl) (by kernel_rfl) (by go_simp; try rfl) ((HRM.out wqz32).mono fun e wy ⟨h1, h2⟩ => ⟨_, h1, rfl, h2⟩) ?_
          rintro v9 wqz34 ⟨rfl, hbb⟩
          have hSN := hK _ _ hS hbb
          refine ⟨hSN, ?_⟩
          have Hqz35 := Hqz33.carry hbb
          clear hS hbb
          have hS := hSN
          clear hSN
          try simp only [Act.put, List.setIfInBounds_toArray, List.set_cons_zero, List.set_cons_succ]
          refine reg_callg (i := 11) (R := fun v wy => ∃ u5 z5, v = .tuple #[.agg #[.slice u5 m5 z5], .int .i64 RE] ∧ OwF wy w.heap.size (.slice u5 m5 z5) RL ∧ Below wqz34.heap.size wqz34 wy) rfl (by kernel_rfl) (by kernel_rfl) (by go_simp; try rfl) ((HRR.out wqz34 hS).mono fun e wy ⟨v5, h1, h2, h3⟩ => by obtain ⟨u5, z5, e5⟩ := h2.form; rw [← HM5.out] at e5; subst e5; exact ⟨_, h1, u5, z5, rfl, h2.mono (Nat.le_trans HB_wr.out.size (Below.size hS)), h3⟩) ?_
          rintro v9 wqz36 ⟨u5, z5, rfl, ho5, hbb⟩
          have hSN := hK _ _ hS hbb
          refine ⟨hSN, ?_⟩
          have Hqz37 := Hqz35.carry hbb
          have Hqz38 := ho5
          clear ho5
          clear hS hbb
          have hS := hSN
          clear hSN
          try simp only [Act.put, List.setIfInBounds_toArray, List.set_cons_zero, List.set_cons_succ]
          refine reg_take (i := 12) (v := ?qz39v) rfl (by kernel_rfl) (by kernel_rfl) (by kernel_rfl) (by kernel_rfl) ?qz39y hS ?qz39r
          case qz39y => (rintro wx hx; obtain ⟨k0, k1, k2⟩ := dk_cells (HQ_wr.out.carry hx); clear hx; go_simp; all_goals (with_reducible rfl))
          try simp only [Act.put, List.setIfInBounds_toArray, List.set_cons_zero, List.set_cons_succ]
          refine reg_take (i := 13) (v := ?qz40v) rfl (by kernel_rfl) (by kernel_rfl) (by kernel_rfl) (by kernel_rfl) ?qz40y hS ?qz40r
          case qz40y => (rintro wx hx; obtain ⟨k0, k1, k2⟩ := dk_cells (HQ_wr.out.carry hx); clear hx; go_simp; all_goals (with_reducible rfl))
          try simp only [Act.put, List.setIfInBounds_toArray, List.set_cons_zero, List.set_cons_succ]
          refine reg_take (i := 14) (v := ?qz41v) rfl (by kernel_rfl) (by kernel_rfl) (by kernel_rfl) (by kernel_rfl) ?qz41y hS ?qz41r
          case qz41y => (rintro wx hx; obtain ⟨k0, k1, k2⟩ := dk_cells (HQ_wr.out.carry hx); clear hx; go_simp; all_goals (with_reducible rfl))
          try simp only [Act.put, List.setIfInBounds_toArray, List.set_cons_zero, List.set_cons_succ]
          have hc9 := Hqz37.cell
          have hf9 := Hqz37.fz
          obtain ⟨-, hg9, -⟩ := Hqz37.put (.slice u5 m5 z5)
          obtain ⟨y9, hy9⟩ := Hqz37
          have hat9 : Bq (wqz36.setCell ⟨Aqz33, 0, none⟩ (.slice u5 m5 z5)) Aqz33 32 #[.slice u5 m5 z5] := Bq.put (cs := #[y9]) hy9 0 _
          obtain ⟨wqz42, ewqz42⟩ : ∃ wN, wqz36.setCell ⟨Aqz33, 0, none⟩ (.slice u5 m5 z5) = wN := ⟨_, rfl⟩
          rw [ewqz42] at hg9 hat9
          have hSN := hS.grown hg9 hS.size (by intro k hk; cases hk; exact Lqz33)
          have Ho5_wqz42 := Hqz38.keptS hg9 hy9 (by decide) (by decide)
          have hat15 := hat9
          clear hg9 hy9 hat9
          refine reg_unit (i := 16) (w' := wqz42) rfl (by kernel_rfl) (by kernel_rfl) (by rw [← ewqz42]; go_simp) hSN ?_
          clear hS ewqz42 hc9 hf9
          have hS := hSN
          clear hSN
          try simp only [Act.put, List.setIfInBounds_toArray, List.set_cons_zero, List.set_cons_succ]
          refine reg_take (i := 17) (v := ?qz43v) rfl (by kernel_rfl) (by kernel_rfl) (by kernel_rfl) (by kernel_rfl) ?qz43y hS ?qz43r
          case qz43y => (rintro wx hx; obtain ⟨k0, k1, k2⟩ := dk_cells (HQ_wr.out.carry hx); clear hx; go_simp; all_goals (with_reducible rfl))
          try simp only [Act.put, List.setIfInBounds_toArray, List.set_cons_zero, List.set_cons_succ]
          refine wpAnyH_done (by kernel_rfl) ?_ _
          refine NoPanic.normal ?_
          exact ⟨rfl, (Aqz33, u5, z5), by simp only [Act.put, List.setIfInBounds_toArray, List.set_cons_zero, List.set_cons_succ], hat15, Ho5_wqz42, hS⟩
      case impqz =>
      rintro ⟨q10, u5, z5⟩ wz ⟨hq10, ho5, hbz⟩
      try simp only [Act.put, List.setIfInBounds_toArray, List.set_cons_zero, List.set_cons_succ]
      dsimp only at hq10 ho5
      have HQ_wz := hide (HQ_wr.out.carry hbz)
      have HFB_wz := hide (HFB_wr.out.carry hbz)
      have HB_wz := hide (show Below w.heap.size w wz from HB_wr.out.trans (hbz.mono HB_wr.out.size))
      have HN_wz := hide hq10
      have HO_wz := hide ho5
      clear hq10 ho5 hbz z1 z2 z3 z4 z6 z7 z8 z9 z10 z11
      try dsimp only
      by_cases g5 : ¬ RE = 0
      · have HE := hide (show openFs d = (fz, 70) by rw [HE0.out, if_pos g5])
        have g5' : (RE != 0) = true := by simpa using g5
        have HST := hide ((show OwFs wz w.heap.size (⟨none, 0, 0, none, 0, 0, none, 0, 0, 0, none, 0, 0, none, 0, 0⟩ : FsV).val fz from OwFs_zero wz w.heap.size).stored (r := w.heap.size + 1) HFB_wz.out HB_wz.out (by omega))
        obtain ⟨⟨d0, e0⟩, ⟨d1, e1⟩, ⟨d2, e2⟩, ⟨d3, e3⟩, ⟨d4, e4⟩, ⟨d5, e5⟩, ff⟩ := HFB_wz.out.cells
        have f0 := ff 0
        have f1 := ff 1
        have f2 := ff 2
        have f3 := ff 3
        have f4 := ff 4
        have f5 := ff 5
        clear ff
        go_wp2
        have e6 : set6 wz (w.heap.size + 1) (⟨none, 0, 0, none, 0, 0, none, 0, 0, 0, none, 0, 0, none, 0, 0⟩ : FsV) = ((((((wz.setCell ⟨w.heap.size + 1, 0, none⟩ (.slice none 0 0)).setCell ⟨w.heap.size + 1, 1, none⟩ (.slice none 0 0)).setCell ⟨w.heap.size + 1, 2, none⟩ (.slice none 0 0)).setCell ⟨w.heap.size + 1, 3, none⟩ (.int .u32 0)).setCell ⟨w.heap.size + 1, 4, none⟩ (.slice none 0 0)).setCell ⟨w.heap.size + 1, 5, none⟩ (.slice none 0 0)) := rfl
        rw [e6] at HST
        obtain ⟨w9, hw9⟩ : ∃ w9, w9 = ((((((wz.setCell ⟨w.heap.size + 1, 0, none⟩ (.slice none 0 0)).setCell ⟨w.heap.size + 1, 1, none⟩ (.slice none 0 0)).setCell ⟨w.heap.size + 1, 2, none⟩ (.slice none 0 0)).setCell ⟨w.heap.size + 1, 3, none⟩ (.int .u32 0)).setCell ⟨w.heap.size + 1, 4, none⟩ (.slice none 0 0)).setCell ⟨w.heap.size + 1, 5, none⟩ (.slice none 0 0)) := ⟨_, rfl⟩
        rw [← hw9] at HST ⊢
        clear e6
        clear e0 e1 e2 e3 e4 e5 f0 f1 f2 f3 f4 f5
        obtain ⟨z0, z1, z2, z3, z4, z5⟩ := fs_cells HST.out.2.2
        dsimp only at z0 z1 z2 z3 z4 z5
        try simp only [Exit.inBlock, Exit.then]
        refine bodyPost_ret (v := .tuple #[(⟨none, 0, 0, none, 0, 0, none, 0, 0, 0, none, 0, 0, none, 0, 0⟩ : FsV).val, .int .i64 70]) ?_ rfl (⟨_, by rw [HE.out], by rw [HE.out]; exact HST.out.1, HST.out.2.1⟩)
        clear hw9
        simp [results, Try.results7, go_sem, *]
      rw [Decidable.not_not] at g5
      subst g5
      rw [if_neg (by simp)] at HE0
      obtain ⟨k0, k1, k2⟩ := dk_cells HQ_wz.out
      go_wp2_with fail
      refine (twinD (d := d) wz (HD.out.carry HB_wz.out) HOK.out).mono ?_
      rintro e wq ⟨v8, rfl, ho8, hb8⟩
      have HQ_wq := hide (HQ_wz.out.carry hb8)
      have HFB_wq := hide (HFB_wz.out.carry hb8)
      have HN_wq := hide (HN_wz.out.carry hb8)
      have HO_wq := hide (HO_wz.out.carry hb8)
      have HB_wq := hide (show Below w.heap.size w wq from HB_wz.out.trans (hb8.mono HB_wz.out.size))
      clear k0 k1 k2 hb8
      obtain ⟨b1, f1', b2, f2', b3, f3', e8⟩ := ho8.form
      subst e8
      obtain ⟨M1, hM1⟩ : ∃ m : Nat, m = d.1.length := ⟨_, rfl⟩
      obtain ⟨M2, hM2⟩ : ∃ m : Nat, m = d.2.1.length := ⟨_, rfl⟩
      obtain ⟨M3, hM3⟩ : ∃ m : Nat, m = d.2.2.length := ⟨_, rfl⟩
      simp only [← hM1, ← hM2, ← hM3] at ho8 ⊢
      clear hM1 hM2 hM3
      obtain ⟨wa, ewa⟩ : ∃ wa, wq.alloc (.cells #[.slice b1 M1 f1', .slice b2 M2 f2', .slice b3 M3 f3'] 26) = wa := ⟨_, rfl⟩
      have hba : Below wq.heap.size wq wa := by rw [← ewa]; exact (Below.refl _ _).alloc (Nat.le_refl _) _
      have HS_wa := hide (show Bq wa wq.heap.size 26 #[.slice b1 M1 f1', .slice b2 M2 f2', .slice b3 M3 f3'] by rw [← ewa]; exact Bq.new _ _ _)
      have HG_wa := hide (((ho8.mono HB_wz.out.size).carry hba).noDn)
      have HFB_wa := hide (HFB_wq.out.carry hba)
      have HN_wa := hide (HN_wq.out.carry hba)
      have HO_wa := hide (HO_wq.out.carry hba)
      have HB_wa := hide (show Below w.heap.size w wa from HB_wq.out.trans (hba.mono HB_wq.out.size))
      have hgb := grown_setCellE wa ⟨wq.heap.size, 2, none⟩ (.slice none 0 0)
      have hsb := HS_wa.out.put 2 (.slice none 0 0)
      have hfz9 := HS_wa.out.fz 2
      have hcl9 := HS_wa.out.cell 2
      obtain ⟨wb, ewb⟩ : ∃ wb, wa.setCell ⟨wq.heap.size, 2, none⟩ (.slice none 0 0) = wb := ⟨_, rfl⟩
      rw [ewb] at hgb hsb
      have HSb := hide (show Bq wb wq.heap.size 26 #[.slice b1 M1 f1', .slice b2 M2 f2', .slice none 0 0] from hsb)
      have HGb := hide (HG_wa.out.keptS hgb HS_wa.out (by decide) (by decide) (by decide))
      have HOb := hide (HO_wa.out.keptS hgb HS_wa.out (by decide) (by decide))
      have HNb := hide (HN_wa.out.grown hgb (HN_wa.out.ne HS_wa.out (by decide)))
      have HFb := hide (HFB_wa.out.grown hgb (by have := HB_wq.out.size; have := HFB_wq.out.lt; dsimp only; omega))
      have HBb := hide (HB_wa.out.grown hgb HB_wa.out.size (by intro k hk; cases hk; exact HB_wq.out.size))
      clear hsb hba ho8
      go_wp2
      clear hfz9 hcl9 ewa ewb hgb
      have hK : Keeps (fun wx => Bq wx wq.heap.size 26 #[.slice b1 M1 f1', .slice b2 M2 f2', .slice none 0 0] ∧ Bq wx q10 32 #[.slice u5 m5 z5] ∧ FsB wx (w.heap.size + 1) ∧ Below w.heap.size w wx ∧ OwD wx w.heap.size (.agg #[.slice b1 M1 f1', .slice b2 M2 f2', .slice none 0 0]) (d.1, d.2.1, []) ∧ OwF wx w.heap.size (.slice u5 m5 z5) RL) := (keeps_block _ _).and ((keeps_block _ _).and (Keeps.and (fun _ _ h hb => h.carry hb) ((keeps_below w).and (Keeps.and (fun _ _ h hb => h.carry hb) (fun _ _ h hb => h.carry hb)))))
      refine regL_begin hK 6 (by kernel_rfl) ⟨HSb.out, HNb.out, HFb.out, HBb.out, HGb.out, HOb.out⟩ ?_
      intro hS
      generalize wb.drew = wd at *
      refine regL_take (i := 0) (v := ?qyv0) rfl (by kernel_rfl) (by kernel_rfl) (by kernel_rfl) rfl (by kernel_rfl) (by kernel_rfl) (by rfl) ?qyy0 hS ?qyr0
      case qyy0 => (rintro wx ⟨x1, x2, x3, x4, x5, x6⟩; obtain ⟨k0, k1, k2⟩ := dk_cells x1; have k3 := dir_cell x2; go_simp; all_goals (with_reducible rfl))
      try simp only [Act.put, List.setIfInBounds_toArray, List.set_cons_zero, List.set_cons_succ]
      refine regL_take (i := 1) (v := ?qyv1) rfl (by kernel_rfl) (by kernel_rfl) (by kernel_rfl) rfl (by kernel_rfl) (by kernel_rfl) (by rfl) ?qyy1 hS ?qyr1
      case qyy1 => (rintro wx ⟨x1, x2, x3, x4, x5, x6⟩; obtain ⟨k0, k1, k2⟩ := dk_cells x1; have k3 := dir_cell x2; go_simp; all_goals (with_reducible rfl))
      try simp only [Act.put, List.setIfInBounds_toArray, List.set_cons_zero, List.set_cons_succ]
      refine regL_take (i := 2) (v := ?qyv2) rfl (by kernel_rfl) (by kernel_rfl) (by kernel_rfl) rfl (by kernel_rfl) (by kernel_rfl) (by rfl) ?qyy2 hS ?qyr2
      case qyy2 => (rintro wx ⟨x1, x2, x3, x4, x5, x6⟩; obtain ⟨k0, k1, k2⟩ := dk_cells x1; have k3 := dir_cell x2; go_simp; all_goals (with_reducible rfl))
      try simp only [Act.put, List.setIfInBounds_toArray, List.set_cons_zero, List.set_cons_succ]
      refine regL_take (i := 3) (v := ?qyv3) rfl (by kernel_rfl) (by kernel_rfl) (by kernel_rfl) rfl (by kernel_rfl) (by kernel_rfl) (by rfl) ?qyy3 hS ?qyr3
      case qyy3 => (rintro wx ⟨x1, x2, x3, x4, x5, x6⟩; obtain ⟨k0, k1, k2⟩ := dk_cells x1; have k3 := dir_cell x2; go_simp; all_goals (with_reducible rfl))
      try simp only [Act.put, List.setIfInBounds_toArray, List.set_cons_zero, List.set_cons_succ]
      refine regL_call hK (i := 4) (R := fun v wy => ∃ u6 z6, v = .agg #[.slice u6 m5 z6] ∧ OwF wy w.heap.size (.slice u6 m5 z6) RL) rfl (by kernel_rfl) (by rfl) (by go_simp) hS ((rTwin5_any u5 m5 z5 RL _ hS.2.2.2.2.2.rd HM5.out (by rw [HM5.out]; exact (HSM.out trivial).1) (HSM.out trivial).2).mono fun e w1 ⟨v, h1, h2, h3⟩ => by obtain ⟨u6, z6, e6⟩ := h2.form; rw [← HM5.out] at e6; subst e6; exact ⟨_, h1, ⟨u6, z6, rfl, h2.mono hS.2.2.2.1.size⟩, h3⟩) (fun v _ _ ⟨u6, z6, h, h'⟩ hb => ⟨u6, z6, h, h'.carry hb⟩) ?_
      intro v68 w68 hKn hRn hSn
      clear hK hS
      have hK := hKn
      have hS := hSn
      clear hKn hSn
      obtain ⟨u6, z6, rfl, hO6⟩ := hRn
      try simp only [Act.put, List.setIfInBounds_toArray, List.set_cons_zero, List.set_cons_succ]
      refine regL_take (i := 5) (v := ?qyv5) rfl (by kernel_rfl) (by kernel_rfl) (by kernel_rfl) rfl (by kernel_rfl) (by kernel_rfl) (by rfl) ?qyy5 hS ?qyr5
      case qyy5 => (rintro wx ⟨⟨x1, x2, x3, x4, x5, x6⟩, _⟩; go_simp; all_goals (with_reducible rfl))
      try simp only [Act.put, List.setIfInBounds_toArray, List.set_cons_zero, List.set_cons_succ]
      obtain ⟨⟨s1, s2, s3, s4, s5, s6⟩, s7⟩ := hS
      have HV := hide (show OwFs w68 w.heap.size (⟨b1, M1, f1', b2, M2, f2', none, 0, 0, ge, u5, m5, z5, u6, m5, z6⟩ : FsV).val ((d.1, d.2.1, []), ge, RL, RL) from ⟨_, _, _, _, _, rfl, s5, s6, hO6⟩)
      have HST := hide (HV.out.stored (r := w.heap.size + 1) s3 s4 (by omega))
      obtain ⟨⟨d0, e0⟩, ⟨d1, e1⟩, ⟨d2, e2⟩, ⟨d3, e3⟩, ⟨d4, e4⟩, ⟨d5, e5⟩, ff⟩ := s3.cells
      have f0 := ff 0
      have f1 := ff 1
      have f2 := ff 2
      have f3 := ff 3
      have f4 := ff 4
      have f5 := ff 5
      clear ff s1 s2 s3 s4 s5 s6 s7 HV
      refine regL_last (i := 6) (w' := ((((((w68.setCell ⟨w.heap.size + 1, 0, none⟩ (.slice b1 M1 f1')).setCell ⟨w.heap.size + 1, 1, none⟩ (.slice b2 M2 f2')).setCell ⟨w.heap.size + 1, 2, none⟩ (.slice none 0 0)).setCell ⟨w.heap.size + 1, 3, none⟩ (.int .u32 ge)).setCell ⟨w.heap.size + 1, 4, none⟩ (.slice u5 m5 z5)).setCell ⟨w.heap.size + 1, 5, none⟩ (.slice u6 m5 z6))) rfl (by kernel_rfl) (by kernel_rfl) (by rfl) (by go_simp) ?_
      try simp only [Act.put, List.setIfInBounds_toArray, List.set_cons_zero, List.set_cons_succ]
      refine regL_takeP (i := 7) (v := ?qyv7) rfl (by kernel_rfl) (by kernel_rfl) (by kernel_rfl) rfl (by rfl) ?qyy7 (fun h => absurd h (by decide)) ?qyr7
      case qyy7 => (intro wx; go_simp; all_goals (with_reducible rfl))
      try simp only [Act.put, List.setIfInBounds_toArray, List.set_cons_zero, List.set_cons_succ]
      refine wpAnyL_done (by kernel_rfl) ?_ _
      refine NoPanic.normal ?_
      clear hK
      obtain ⟨w9, hw9⟩ : ∃ w9, w9 = ((((((w68.setCell ⟨w.heap.size + 1, 0, none⟩ (.slice b1 M1 f1')).setCell ⟨w.heap.size + 1, 1, none⟩ (.slice b2 M2 f2')).setCell ⟨w.heap.size + 1, 2, none⟩ (.slice none 0 0)).setCell ⟨w.heap.size + 1, 3, none⟩ (.int .u32 ge)).setCell ⟨w.heap.size + 1, 4, none⟩ (.slice u5 m5 z5)).setCell ⟨w.heap.size + 1, 5, none⟩ (.slice u6 m5 z6)) := ⟨_, rfl⟩
      have e6 : set6 w68 (w.heap.size + 1) (⟨b1, M1, f1', b2, M2, f2', none, 0, 0, ge, u5, m5, z5, u6, m5, z6⟩ : FsV) = ((((((w68.setCell ⟨w.heap.size + 1, 0, none⟩ (.slice b1 M1 f1')).setCell ⟨w.heap.size + 1, 1, none⟩ (.slice b2 M2 f2')).setCell ⟨w.heap.size + 1, 2, none⟩ (.slice none 0 0)).setCell ⟨w.heap.size + 1, 3, none⟩ (.int .u32 ge)).setCell ⟨w.heap.size + 1, 4, none⟩ (.slice u5 m5 z5)).setCell ⟨w.heap.size + 1, 5, none⟩ (.slice u6 m5 z6)) := rfl
      rw [e6] at HST
      rw [← hw9] at HST ⊢
      clear e6 e0 e1 e2 e3 e4 e5 f0 f1 f2 f3 f4 f5
      obtain ⟨z0, z1, z2, z3, z4, z5'⟩ := fs_cells HST.out.2.2
      dsimp only at z0 z1 z2 z3 z4 z5'
      go_wp2
      refine bodyPost_ret (v := .tuple #[(⟨b1, M1, f1', b2, M2, f2', none, 0, 0, ge, u5, m5, z5, u6, m5, z6⟩ : FsV).val, .int .i64 0]) ?_ rfl ⟨_, by rw [HE0.out], by rw [HE0.out]; exact HST.out.1, HST.out.2.1⟩
      clear hw9
      simp [results, Try.results7, go_sem, *]

end Go.Proofs.Ytlibnefibeikcaa

/-
  FsBlocks.
-/
import Derived.Test.YtlibnefibeikcaaGreatTu6
import Derived.Test.YtlibnefibeikcaaGreatLm5
import Derived.Test.YtlibnefibeikcaaGreatRm10
import Derived.Test.YtlibnefibeikcaaGreatRm13
namespace Go.Proofs.YtlibnefibeikcaaGreat
open Go.RowKit
set_option linter.unusedVariables false
set_option linter.unusedSimpArgs false

/-- Bytes of one's own, turned: what else there is stays. -/
theorem turn_own {w1 wr : World} {base n c : Nat} {a : Option Addr} {l : List UInt8} (hO : OwB w1 base (.slice a n c) l) (hT : Turned w1 wr) (hB : Below base w1 wr) (k : Nat) (hk : k < n) :
    ∃ (g : Nat) (bk bj : Int), a = some ⟨g, 0, none⟩ ∧ wr.cell? ⟨g, k, none⟩ = some (.int .u8 bk) ∧ wr.frozen? ⟨g, k, none⟩ = false ∧ IntKind.u8.wrap (bk + 1) = bj ∧
      Hid (Turned w1 (wr.setCell ⟨g, k, none⟩ (.int .u8 bj)) ∧ Below base w1 (wr.setCell ⟨g, k, none⟩ (.int .u8 bj))) := by
  have hn := hO.len'
  rcases id hO with ⟨_, ⟨_, h0⟩ | ⟨g, cap, cur, e, hg, _⟩⟩
  · omega
  cases e
  obtain ⟨l', hO'⟩ := hO.turned hT
  have hn' := hO'.len'
  have hk' : k < l'.length := by omega
  refine ⟨g, (l'[k]).toNat, _, rfl, hO'.at k hk', hO'.fz k, wrap8 _, ?_, ?_⟩
  · exact hT.trans (Turned.set hO' k _)
  · exact hB.setCell hg _
theorem rtwin6v (x : FsV) (f : Fsd) (w : World) (h : RdX w x f) (hsm : (f.1.1.length ≤ 140737488355328 ∧ f.1.2.1.length ≤ 1000000 ∧ f.1.2.2.length ≤ 1000000) ∧ f.2.2.1.length ≤ 1000 ∧ (∀ g ∈ f.2.2.1, g.2.length ≤ 1000000) ∧ f.2.2.2.length ≤ 1000 ∧ ∀ g ∈ f.2.2.2, g.2.length ≤ 1000000) (hsd : (∀ p ∈ f.1.2.1, p.2.length ≤ 140737488355328) ∧ ∀ p ∈ f.1.2.2, p.2.2.length ≤ 140737488355328) :
    Calls Tryz.prog 7 #[x.val] w fun e w' => ∃ v, e = .returned v ∧ OwFs w' w.heap.size v f ∧ Below w.heap.size w w' := (rtwin6_any x f w h hsm hsd).mono fun e w' ⟨y, h1, h2, h3⟩ => ⟨y.val, h1, h2, h3⟩
def BelP (w0 w : World) : Prop := Below w0.heap.size w0 w
theorem BelP.refl (w : World) : BelP w w := Below.refl _ _
theorem BelP.carry {w0 w w' : World} (h : BelP w0 w) (hb : Below w.heap.size w w') : BelP w0 w' := Below.trans h (hb.mono (Below.size h))
theorem BelP.size {w0 w : World} (h : BelP w0 w) : w0.heap.size ≤ w.heap.size := Below.size h
theorem BelP.trans {w0 w w' : World} (h : BelP w0 w) (hb : Below w0.heap.size w w') : BelP w0 w' := Below.trans h hb
theorem OwD.bytes {w : World} {base : Nat} {v : Value} {l : List UInt8} (h : OwB w base v l) : OwD w base (.agg #[v, .slice none 0 0, .slice none 0 0]) (l, [], []) :=
  ⟨_, _, _, rfl, h, ⟨[], rfl, World.ownsRow_nil _ _ _ _, by simp⟩, ⟨[], rfl, World.ownsRow_nil _ _ _ _, by simp⟩⟩
theorem OwD.bytes_out {w : World} {base : Nat} {v v2 v3 : Value} {d : Dk} (h : OwD w base (.agg #[v, v2, v3]) d) : ∃ l, OwB w base v l := by
  obtain ⟨x, y, z, e, h1, _, _⟩ := h
  simp only [Value.agg.injEq, Array.mk.injEq, List.cons.injEq, and_true] at e
  obtain ⟨rfl, _, _⟩ := e
  exact ⟨_, h1⟩
theorem names_short {f : Fsd} (h : (f.1.1.length ≤ 140737488355328 ∧ f.1.2.1.length ≤ 1000000 ∧ f.1.2.2.length ≤ 1000000) ∧ f.2.2.1.length ≤ 1000 ∧ (∀ g ∈ f.2.2.1, g.2.length ≤ 1000000) ∧ f.2.2.2.length ≤ 1000 ∧ ∀ g ∈ f.2.2.2, g.2.length ≤ 1000000) : (namesL f).length ≤ 1000000 := by
  unfold namesL
  split <;> simp <;> have := h.2.1 <;> omega
theorem OwF.len6 {w : World} {base : Nat} {a : Option Addr} {n c : Nat} {fs : List Fl} (h : OwF w base (.slice a n c) fs) : n = fs.length := by
  obtain ⟨_, _, e⟩ := h.rd.form
  cases e; rfl
theorem OwF.row6 {w : World} {base : Nat} {a : Option Addr} {n c : Nat} {fs : List Fl} (h : OwF w base (.slice a n c) fs) : RowF w base (.slice a n c) n := by
  have := h.rowF
  rwa [← h.len6] at this

set_option maxHeartbeats 16000000 in
set_option maxRecDepth 100000 in
theorem fsBlocks_any (x : FsV) (f : Fsd) (s : List UInt8) (i : Int) (ax : Option Addr) (nx cx : Nat) (b : List UInt8) (w : World) (h : RdX w x f) (hw : WfX f) (hs : (∀ g ∈ f.2.2.1, g.2.length ≤ 140737488355328) ∧ ∀ g ∈ f.2.2.2, g.2.length ≤ 140737488355328) (hsd : (∀ p ∈ f.1.2.1, p.2.length ≤ 140737488355328) ∧ ∀ p ∈ f.1.2.2, p.2.2.length ≤ 140737488355328) (hx : Rd w (.slice ax nx cx) b) (hn : nx = b.length) :
    Calls Tryz.prog 4 #[x.val, .string (bs s), .int .i64 i, .slice ax nx cx] w fun e w' => e = .returned (.bool true) ∧ Below w.heap.size w w' := by
  have HX := hide h
  have HW := hide hw
  have HS := hide hs
  have HSD := hide hsd
  have HRX := hide hx
  have HN := hide hn
  clear h hw hs hsd hx hn
  obtain ⟨w1, ew⟩ : ∃ w1, w.alloc (.cells x.cs 32) = w1 := ⟨_, rfl⟩
  have hb1 : Below w.heap.size w w1 := by rw [← ew]; exact (Below.refl _ _).alloc (Nat.le_refl _) _
  have HFx_w1 := hide (show FsAt w1 w.heap.size x by rw [← ew]; exact Bq.new _ _ _)
  have HB_w1 := hide hb1
  have hls : (bs s).size = s.length := bs_size s
  obtain ⟨ls, hls2⟩ : ∃ ls, ls = (bs s).size := ⟨_, rfl⟩
  have HLS := hide hls2
  clear hb1 hls hls2
  unfold FsV.val
  unfold FsV.cs at ew
  go_enter Tryz.func4, Tryz.ntmps4
  obtain ⟨kx0, kx1, kx2, kx3, kx4, kx5⟩ := fs_cells HFx_w1.out
  have hcon := great6_any x f w1 (HX.out.carry HB_w1.out) ⟨fun g hg => by have := HS.out.1 g hg; omega, fun g hg => by have := HS.out.2 g hg; omega⟩
  go_wp2_with fail
  try rw [ew]
  refine hcon.mono ?_
  rintro e w2 ⟨r, rfl, hgr, hbb⟩
  have HFx_w2 := hide (HFx_w1.out.carry hbb)
  have HB_w2 := hide (show Below w.heap.size w w2 from HB_w1.out.trans (hbb.mono HB_w1.out.size))
  clear hcon hbb kx0 kx1 kx2 kx3 kx4 kx5
  try clear ew
  cases r with
  | true =>
    clear hgr
    go_wp2
    go_ret
    exact ⟨rfl, HB_w2.out⟩
  | false =>
  have HGx := hide (great_small (hgr rfl))
  clear hgr
  by_cases g0 : 10000 < (bs s).size
  · have g0' : (10000 : Int) < ((bs s).size : Nat) := by omega
    go_wp2
    go_ret
    exact ⟨rfl, HB_w2.out⟩
  have g0' : decide ((10000 : Int) < ((bs s).size : Nat)) = false := decide_eq_false (by omega)
  by_cases g1 : 10000 < nx
  · have g1' : (10000 : Int) < nx := by omega
    go_wp2
    go_ret
    exact ⟨rfl, HB_w2.out⟩
  have g1' : decide ((10000 : Int) < nx) = false := decide_eq_false (by omega)
  have hnx : nx ≤ 10000 := by omega
  clear g0 g1
  obtain ⟨kx0, kx1, kx2, kx3, kx4, kx5⟩ := fs_cells HFx_w2.out
  have hcon := rtwin6v x f w2 (HX.out.carry HB_w2.out) HGx.out HSD.out
  go_wp2_with fail
  refine hcon.mono ?_
  rintro e w3 ⟨v0, rfl, ho, hbb⟩
  have HFx_w3 := hide (HFx_w2.out.carry hbb)
  have HB_w3 := hide (show Below w.heap.size w w3 from HB_w2.out.trans (hbb.mono HB_w2.out.size))
  clear hcon hbb g0' g1' kx0 kx1 kx2 kx3 kx4 kx5
  obtain ⟨xa, e9, hx9, ho9⟩ := ho.bx
  subst e9
  obtain ⟨w4, ew4⟩ : ∃ wq, w3.alloc (.cells xa.cs 32) = wq := ⟨_, rfl⟩
  have hbn : Below w3.heap.size w3 w4 := by rw [← ew4]; exact (Below.refl _ _).alloc (Nat.le_refl _) _
  have HFx_w4 := hide (HFx_w3.out.carry hbn)
  have HB_w4 := hide (show Below w.heap.size w w4 from HB_w3.out.trans (hbn.mono HB_w3.out.size))
  have HFa_w4 := hide (show FsAt w4 w3.heap.size xa by rw [← ew4]; exact Bq.new _ _ _)
  have HRa_w4 := hide (hx9.carry hbn)
  unfold FsV.cs at ew4
  unfold FsV.val
  clear ho hx9 ho9 hbn
  obtain ⟨ka0, ka1, ka2, ka3, ka4, ka5⟩ := fs_cells HFa_w4.out
  have HRB := hide (HRX.out.carry HB_w4.out)
  go_wp2_with (at_builtin; go_must (refine wpList_apprd w4 w4 rfl (.const (.slice none 0 0)) (.tmp 46) 22 rfl w4.heap.size 5 Tryz.underlying22 Tryz.infoB _ [] (World.ownsRow_nil _ _ _ _) rfl (Below.refl _ _) (Nat.le_refl _) _ b HRB.out rfl (by have := HN.out; simp; omega) ?_); intro vin wi hin0 hbb; have hin : OwB wi w4.heap.size vin b := hin0; clear hin0 ka0 ka1 ka2 ka3 ka4 ka5; obtain ⟨ai, ci, hvi⟩ := hin.form; subst hvi; obtain ⟨ka0, ka1, ka2, ka3, ka4, ka5⟩ := fs_cells (HFa_w4.out.carry hbb))
  clear HRB ew4
  have HFx_wi := hide (HFx_w4.out.carry hbb)
  have HFa_wi := hide (HFa_w4.out.carry hbb)
  have HRa_wi := hide (HRa_w4.out.carry hbb)
  have HB_wi := hide (show Below w.heap.size w wi from HB_w4.out.trans (hbb.mono HB_w4.out.size))
  have HIN_wi := hide hin
  clear hin hbb
  have HBP_wi := hide (BelP.refl wi)
  have RA := hide HRa_wi.out
  have FA := hide HFa_wi.out
  have FX := hide HFx_wi.out
  have IN := hide HIN_wi.out
  have BW := hide HB_wi.out
  have hcon := put_fs xa f s i ai b.length ci b wi HRa_wi.out HW.out HIN_wi.out.rd
  refine hcon.mono ?_
  rintro e w5 ⟨v9, rfl, ho, hbb⟩
  have HFx_w5 := hide (HFx_wi.out.carry hbb)
  have HFa_w5 := hide (HFa_wi.out.carry hbb)
  have HRa_w5 := hide (HRa_wi.out.carry hbb)
  have HIN_w5 := hide (HIN_wi.out.carry hbb)
  have HBP_w5 := hide (HBP_wi.out.carry hbb)
  have HB_w5 := hide (show Below w.heap.size w w5 from HB_wi.out.trans (hbb.mono HB_wi.out.size))
  clear hcon hbb ka0 ka1 ka2 ka3 ka4 ka5
  obtain ⟨PF, hPF⟩ : ∃ t, t = putFs f s i b := ⟨_, rfl⟩
  have HPF := hide hPF
  rw [← hPF] at ho ⊢
  clear hPF
  obtain ⟨xp, e9, hx9, ho9⟩ := ho.bx
  subst e9
  obtain ⟨w6, ew6⟩ : ∃ wq, w5.alloc (.cells xp.cs 32) = wq := ⟨_, rfl⟩
  have hbn : Below w5.heap.size w5 w6 := by rw [← ew6]; exact (Below.refl _ _).alloc (Nat.le_refl _) _
  have HFx_w6 := hide (HFx_w5.out.carry hbn)
  have HFa_w6 := hide (HFa_w5.out.carry hbn)
  have HRa_w6 := hide (HRa_w5.out.carry hbn)
  have HIN_w6 := hide (HIN_w5.out.carry hbn)
  have HBP_w6 := hide (HBP_w5.out.carry hbn)
  have HB_w6 := hide (show Below w.heap.size w w6 from HB_w5.out.trans (hbn.mono HB_w5.out.size))
  have HFp_w6 := hide (show FsAt w6 w5.heap.size xp by rw [← ew6]; exact Bq.new _ _ _)
  have HRp_w6 := hide (hx9.carry hbn)
  have HOp_w6 := hide ((ho9.mono (Nat.le_refl _)).carry hbn)
  unfold FsV.cs at ew6
  unfold FsV.val
  clear ho hx9 ho9 hbn
  obtain ⟨kx0, kx1, kx2, kx3, kx4, kx5⟩ := fs_cells HFx_w6.out
  have hcon := rput6_any x f s i ax nx cx b w6 (HX.out.carry HB_w6.out) HW.out (HRX.out.carry HB_w6.out)
  rw [← HPF.out] at hcon
  go_wp2_with fail
  try rw [ew6]
  refine hcon.mono ?_
  rintro e w7 ⟨v9, rfl, ho, hbb⟩
  have HFx_w7 := hide (HFx_w6.out.carry hbb)
  have HFa_w7 := hide (HFa_w6.out.carry hbb)
  have HRa_w7 := hide (HRa_w6.out.carry hbb)
  have HIN_w7 := hide (HIN_w6.out.carry hbb)
  have HBP_w7 := hide (HBP_w6.out.carry hbb)
  have HFp_w7 := hide (HFp_w6.out.carry hbb)
  have HRp_w7 := hide (HRp_w6.out.carry hbb)
  have HOp_w7 := hide (HOp_w6.out.carry hbb)
  have HB_w7 := hide (show Below w.heap.size w w7 from HB_w6.out.trans (hbb.mono HB_w6.out.size))
  clear hcon hbb kx0 kx1 kx2 kx3 kx4 kx5
  try clear ew6
  obtain ⟨xq, e9, hx9, ho9⟩ := ho.bx
  subst e9
  obtain ⟨w8, ew8⟩ : ∃ wq, w7.alloc (.cells xq.cs 32) = wq := ⟨_, rfl⟩
  have hbn : Below w7.heap.size w7 w8 := by rw [← ew8]; exact (Below.refl _ _).alloc (Nat.le_refl _) _
  have HFx_w8 := hide (HFx_w7.out.carry hbn)
  have HFa_w8 := hide (HFa_w7.out.carry hbn)
  have HRa_w8 := hide (HRa_w7.out.carry hbn)
  have HIN_w8 := hide (HIN_w7.out.carry hbn)
  have HBP_w8 := hide (HBP_w7.out.carry hbn)
  have HFp_w8 := hide (HFp_w7.out.carry hbn)
  have HRp_w8 := hide (HRp_w7.out.carry hbn)
  have HOp_w8 := hide (HOp_w7.out.carry hbn)
  have HB_w8 := hide (show Below w.heap.size w w8 from HB_w7.out.trans (hbn.mono HB_w7.out.size))
  have HFq_w8 := hide (show FsAt w8 w7.heap.size xq by rw [← ew8]; exact Bq.new _ _ _)
  have HRq_w8 := hide (hx9.carry hbn)
  unfold FsV.cs at ew8
  unfold FsV.val
  clear ho hx9 ho9 hbn
  obtain ⟨ka0, ka1, ka2, ka3, ka4, ka5⟩ := fs_cells HFa_w8.out
  have hcon := get_fs xa f s i w8 HRa_w8.out HW.out
  go_wp2_with fail
  try rw [ew8]
  refine hcon.mono ?_
  rintro e w9 ⟨v9, rfl, ho, hbb⟩
  have HFx_w9 := hide (HFx_w8.out.carry hbb)
  have HFa_w9 := hide (HFa_w8.out.carry hbb)
  have HRa_w9 := hide (HRa_w8.out.carry hbb)
  have HIN_w9 := hide (HIN_w8.out.carry hbb)
  have HBP_w9 := hide (HBP_w8.out.carry hbb)
  have HFp_w9 := hide (HFp_w8.out.carry hbb)
  have HRp_w9 := hide (HRp_w8.out.carry hbb)
  have HOp_w9 := hide (HOp_w8.out.carry hbb)
  have HFq_w9 := hide (HFq_w8.out.carry hbb)
  have HRq_w9 := hide (HRq_w8.out.carry hbb)
  have HB_w9 := hide (show Below w.heap.size w w9 from HB_w8.out.trans (hbb.mono HB_w8.out.size))
  clear hcon hbb ka0 ka1 ka2 ka3 ka4 ka5
  try clear ew8
  obtain ⟨GL, hGL⟩ : ∃ t, t = getL f s i := ⟨_, rfl⟩
  obtain ⟨GE, hGE⟩ : ∃ t, t = getE f s i := ⟨_, rfl⟩
  have HGL := hide hGL
  have HGE := hide hGE
  rw [← hGL] at ho
  rw [← hGE]
  clear hGL hGE
  obtain ⟨ag, cg, hvg⟩ := ho.form
  subst hvg
  have HGT_w9 := hide (ho.mono (show wi.heap.size ≤ _ from HBP_w8.out.size))
  clear ho
  obtain ⟨kx0, kx1, kx2, kx3, kx4, kx5⟩ := fs_cells HFx_w9.out
  have hcon := rget6_any x f s i w9 (HX.out.carry HB_w9.out) HW.out
  rw [← HGL.out, ← HGE.out] at hcon
  go_wp2_with fail
  refine hcon.mono ?_
  rintro e w10 ⟨v9, rfl, ho, hbb⟩
  have HFx_w10 := hide (HFx_w9.out.carry hbb)
  have HFa_w10 := hide (HFa_w9.out.carry hbb)
  have HRa_w10 := hide (HRa_w9.out.carry hbb)
  have HIN_w10 := hide (HIN_w9.out.carry hbb)
  have HBP_w10 := hide (HBP_w9.out.carry hbb)
  have HFp_w10 := hide (HFp_w9.out.carry hbb)
  have HRp_w10 := hide (HRp_w9.out.carry hbb)
  have HOp_w10 := hide (HOp_w9.out.carry hbb)
  have HFq_w10 := hide (HFq_w9.out.carry hbb)
  have HRq_w10 := hide (HRq_w9.out.carry hbb)
  have HGT_w10 := hide (HGT_w9.out.carry hbb)
  have HB_w10 := hide (show Below w.heap.size w w10 from HB_w9.out.trans (hbb.mono HB_w9.out.size))
  clear hcon hbb kx0 kx1 kx2 kx3 kx4 kx5
  obtain ⟨ah, ch, hvh⟩ := ho.form
  subst hvh
  have HGR_w10 := hide ho
  clear ho
  obtain ⟨ka0, ka1, ka2, ka3, ka4, ka5⟩ := fs_cells HFa_w10.out
  have hcon := size_fs xa f s w10 HRa_w10.out HW.out
  go_wp2_with fail
  refine hcon.mono ?_
  rintro e w11 ⟨rfl, hbb⟩
  have HFx_w11 := hide (HFx_w10.out.carry hbb)
  have HFa_w11 := hide (HFa_w10.out.carry hbb)
  have HRa_w11 := hide (HRa_w10.out.carry hbb)
  have HIN_w11 := hide (HIN_w10.out.carry hbb)
  have HBP_w11 := hide (HBP_w10.out.carry hbb)
  have HFp_w11 := hide (HFp_w10.out.carry hbb)
  have HRp_w11 := hide (HRp_w10.out.carry hbb)
  have HOp_w11 := hide (HOp_w10.out.carry hbb)
  have HFq_w11 := hide (HFq_w10.out.carry hbb)
  have HRq_w11 := hide (HRq_w10.out.carry hbb)
  have HGT_w11 := hide (HGT_w10.out.carry hbb)
  have HGR_w11 := hide (HGR_w10.out.carry hbb)
  have HB_w11 := hide (show Below w.heap.size w w11 from HB_w10.out.trans (hbb.mono HB_w10.out.size))
  clear hcon hbb ka0 ka1 ka2 ka3 ka4 ka5
  obtain ⟨kx0, kx1, kx2, kx3, kx4, kx5⟩ := fs_cells HFx_w11.out
  have hcon := rsize6_any x f s w11 (HX.out.carry HB_w11.out) HW.out
  go_wp2_with fail
  refine hcon.mono ?_
  rintro e w12 ⟨rfl, hbb⟩
  have HFx_w12 := hide (HFx_w11.out.carry hbb)
  have HFa_w12 := hide (HFa_w11.out.carry hbb)
  have HRa_w12 := hide (HRa_w11.out.carry hbb)
  have HIN_w12 := hide (HIN_w11.out.carry hbb)
  have HBP_w12 := hide (HBP_w11.out.carry hbb)
  have HFp_w12 := hide (HFp_w11.out.carry hbb)
  have HRp_w12 := hide (HRp_w11.out.carry hbb)
  have HOp_w12 := hide (HOp_w11.out.carry hbb)
  have HFq_w12 := hide (HFq_w11.out.carry hbb)
  have HRq_w12 := hide (HRq_w11.out.carry hbb)
  have HGT_w12 := hide (HGT_w11.out.carry hbb)
  have HGR_w12 := hide (HGR_w11.out.carry hbb)
  have HB_w12 := hide (show Below w.heap.size w w12 from HB_w11.out.trans (hbb.mono HB_w11.out.size))
  clear hcon hbb kx0 kx1 kx2 kx3 kx4 kx5
  obtain ⟨ka0, ka1, ka2, ka3, ka4, ka5⟩ := fs_cells HFa_w12.out
  have hcon := names_fs xa f w12 HRa_w12.out HW.out
  go_wp2_with fail
  refine hcon.mono ?_
  rintro e w13 ⟨v9, rfl, ho, hbb⟩
  have HFx_w13 := hide (HFx_w12.out.carry hbb)
  have HFa_w13 := hide (HFa_w12.out.carry hbb)
  have HRa_w13 := hide (HRa_w12.out.carry hbb)
  have HIN_w13 := hide (HIN_w12.out.carry hbb)
  have HBP_w13 := hide (HBP_w12.out.carry hbb)
  have HFp_w13 := hide (HFp_w12.out.carry hbb)
  have HRp_w13 := hide (HRp_w12.out.carry hbb)
  have HOp_w13 := hide (HOp_w12.out.carry hbb)
  have HFq_w13 := hide (HFq_w12.out.carry hbb)
  have HRq_w13 := hide (HRq_w12.out.carry hbb)
  have HGT_w13 := hide (HGT_w12.out.carry hbb)
  have HGR_w13 := hide (HGR_w12.out.carry hbb)
  have HB_w13 := hide (show Below w.heap.size w w13 from HB_w12.out.trans (hbb.mono HB_w12.out.size))
  clear hcon hbb ka0 ka1 ka2 ka3 ka4 ka5
  obtain ⟨an, cn, hvn⟩ := ho.form
  subst hvn
  have HNA_w13 := hide ho
  clear ho
  obtain ⟨kx0, kx1, kx2, kx3, kx4, kx5⟩ := fs_cells HFx_w13.out
  have hcon := rnames6_any x f w13 (HX.out.carry HB_w13.out) HW.out
  go_wp2_with fail
  refine hcon.mono ?_
  rintro e w14 ⟨v9, rfl, ho, hbb⟩
  have HFx_w14 := hide (HFx_w13.out.carry hbb)
  have HFa_w14 := hide (HFa_w13.out.carry hbb)
  have HRa_w14 := hide (HRa_w13.out.carry hbb)
  have HIN_w14 := hide (HIN_w13.out.carry hbb)
  have HBP_w14 := hide (HBP_w13.out.carry hbb)
  have HFp_w14 := hide (HFp_w13.out.carry hbb)
  have HRp_w14 := hide (HRp_w13.out.carry hbb)
  have HOp_w14 := hide (HOp_w13.out.carry hbb)
  have HFq_w14 := hide (HFq_w13.out.carry hbb)
  have HRq_w14 := hide (HRq_w13.out.carry hbb)
  have HGT_w14 := hide (HGT_w13.out.carry hbb)
  have HGR_w14 := hide (HGR_w13.out.carry hbb)
  have HNA_w14 := hide (HNA_w13.out.carry hbb)
  have HB_w14 := hide (show Below w.heap.size w w14 from HB_w13.out.trans (hbb.mono HB_w13.out.size))
  clear hcon hbb kx0 kx1 kx2 kx3 kx4 kx5
  obtain ⟨am, cm, hvm⟩ := ho.form
  subst hvm
  have HNB_w14 := hide ho
  clear ho
  obtain ⟨ka0, ka1, ka2, ka3, ka4, ka5⟩ := fs_cells HFa_w14.out
  have hcon := room_fs xa f w14 HRa_w14.out HW.out
  go_wp2_with fail
  refine hcon.mono ?_
  rintro e w15 ⟨rfl, hbb⟩
  have HFx_w15 := hide (HFx_w14.out.carry hbb)
  have HFa_w15 := hide (HFa_w14.out.carry hbb)
  have HRa_w15 := hide (HRa_w14.out.carry hbb)
  have HIN_w15 := hide (HIN_w14.out.carry hbb)
  have HBP_w15 := hide (HBP_w14.out.carry hbb)
  have HFp_w15 := hide (HFp_w14.out.carry hbb)
  have HRp_w15 := hide (HRp_w14.out.carry hbb)
  have HOp_w15 := hide (HOp_w14.out.carry hbb)
  have HFq_w15 := hide (HFq_w14.out.carry hbb)
  have HRq_w15 := hide (HRq_w14.out.carry hbb)
  have HGT_w15 := hide (HGT_w14.out.carry hbb)
  have HGR_w15 := hide (HGR_w14.out.carry hbb)
  have HNA_w15 := hide (HNA_w14.out.carry hbb)
  have HNB_w15 := hide (HNB_w14.out.carry hbb)
  have HB_w15 := hide (show Below w.heap.size w w15 from HB_w14.out.trans (hbb.mono HB_w14.out.size))
  clear hcon hbb ka0 ka1 ka2 ka3 ka4 ka5
  obtain ⟨kx0, kx1, kx2, kx3, kx4, kx5⟩ := fs_cells HFx_w15.out
  have hcon := rfree6_any x f w15 (HX.out.carry HB_w15.out) HW.out
  go_wp2_with fail
  refine hcon.mono ?_
  rintro e w16 ⟨rfl, hbb⟩
  have HFx_w16 := hide (HFx_w15.out.carry hbb)
  have HFa_w16 := hide (HFa_w15.out.carry hbb)
  have HRa_w16 := hide (HRa_w15.out.carry hbb)
  have HIN_w16 := hide (HIN_w15.out.carry hbb)
  have HBP_w16 := hide (HBP_w15.out.carry hbb)
  have HFp_w16 := hide (HFp_w15.out.carry hbb)
  have HRp_w16 := hide (HRp_w15.out.carry hbb)
  have HOp_w16 := hide (HOp_w15.out.carry hbb)
  have HFq_w16 := hide (HFq_w15.out.carry hbb)
  have HRq_w16 := hide (HRq_w15.out.carry hbb)
  have HGT_w16 := hide (HGT_w15.out.carry hbb)
  have HGR_w16 := hide (HGR_w15.out.carry hbb)
  have HNA_w16 := hide (HNA_w15.out.carry hbb)
  have HNB_w16 := hide (HNB_w15.out.carry hbb)
  have HB_w16 := hide (show Below w.heap.size w w16 from HB_w15.out.trans (hbb.mono HB_w15.out.size))
  clear hcon hbb kx0 kx1 kx2 kx3 kx4 kx5
  obtain ⟨kp0, kp1, kp2, kp3, kp4, kp5⟩ := fs_cells HFp_w16.out
  obtain ⟨kq0, kq1, kq2, kq3, kq4, kq5⟩ := fs_cells HFq_w16.out
  have hcon := rsame6_any xp xq PF.1 PF.1 w16 HRp_w16.out HRq_w16.out
  rw [sameB_self] at hcon
  go_wp2_with fail
  refine hcon.mono ?_
  rintro e w17 ⟨rfl, hbb⟩
  have HFx_w17 := hide (HFx_w16.out.carry hbb)
  have HFa_w17 := hide (HFa_w16.out.carry hbb)
  have HRa_w17 := hide (HRa_w16.out.carry hbb)
  have HIN_w17 := hide (HIN_w16.out.carry hbb)
  have HBP_w17 := hide (HBP_w16.out.carry hbb)
  have HFp_w17 := hide (HFp_w16.out.carry hbb)
  have HRp_w17 := hide (HRp_w16.out.carry hbb)
  have HOp_w17 := hide (HOp_w16.out.carry hbb)
  have HFq_w17 := hide (HFq_w16.out.carry hbb)
  have HRq_w17 := hide (HRq_w16.out.carry hbb)
  have HGT_w17 := hide (HGT_w16.out.carry hbb)
  have HGR_w17 := hide (HGR_w16.out.carry hbb)
  have HNA_w17 := hide (HNA_w16.out.carry hbb)
  have HNB_w17 := hide (HNB_w16.out.carry hbb)
  have HB_w17 := hide (show Below w.heap.size w w17 from HB_w16.out.trans (hbb.mono HB_w16.out.size))
  clear hcon hbb kp0 kp1 kp2 kp3 kp4 kp5 kq0 kq1 kq2 kq3 kq4 kq5
  have hcv1 := conv_rd (P := Tryz.prog) 22 5 9 Tryz.underlying22 Tryz.underlying5 Tryz.underlying9 HGT_w17.out.rd
  have hcv2 := conv_rd (P := Tryz.prog) 22 5 9 Tryz.underlying22 Tryz.underlying5 Tryz.underlying9 HGR_w17.out.rd
  have HNL := hide (names_short HGx.out)
  have hcon := rsameT_any an _ cn am cm _ _ (namesL f) w17 HNA_w17.out HNB_w17.out rfl HNL.out
  go_wp2_with fail
  refine hcon.mono ?_
  rintro e w18 ⟨rfl, hbb⟩
  have HFx_w18 := hide (HFx_w17.out.carry hbb)
  have HFa_w18 := hide (HFa_w17.out.carry hbb)
  have HRa_w18 := hide (HRa_w17.out.carry hbb)
  have HIN_w18 := hide (HIN_w17.out.carry hbb)
  have HBP_w18 := hide (HBP_w17.out.carry hbb)
  have HFp_w18 := hide (HFp_w17.out.carry hbb)
  have HRp_w18 := hide (HRp_w17.out.carry hbb)
  have HOp_w18 := hide (HOp_w17.out.carry hbb)
  have HFq_w18 := hide (HFq_w17.out.carry hbb)
  have HRq_w18 := hide (HRq_w17.out.carry hbb)
  have HGT_w18 := hide (HGT_w17.out.carry hbb)
  have HGR_w18 := hide (HGR_w17.out.carry hbb)
  have HNA_w18 := hide (HNA_w17.out.carry hbb)
  have HNB_w18 := hide (HNB_w17.out.carry hbb)
  have HB_w18 := hide (show Below w.heap.size w w18 from HB_w17.out.trans (hbb.mono HB_w17.out.size))
  clear hcon hbb hcv1 hcv2
  obtain ⟨kp0, kp1, kp2, kp3, kp4, kp5⟩ := fs_cells HFp_w18.out
  obtain ⟨-, hod, hof, hok⟩ := HOp_w18.out.parts6
  have hcon := turn6_any xp.a1 xp.n1 xp.c1 xp.a2 xp.n2 xp.c2 xp.a3 xp.n3 xp.c3 xp.g xp.a4 xp.n4 xp.c4 xp.a5 xp.n5 xp.c5 wi.heap.size _ w18 hod hof.row6 hok.row6 HBP_w18.out.size (by rw [hof.len6]; exact hof.rd.len_le) (by rw [hok.len6]; exact hok.rd.len_le)
  go_wp2_with fail
  refine hcon.mono ?_
  rintro e wt ⟨rfl, hbt, htz⟩
  obtain ⟨dg, hdg⟩ := htz.1 _ _ (OwD.bytes HGT_w18.out)
  obtain ⟨lg, hlg⟩ := OwD.bytes_out hdg
  have HLG := hide hlg
  have HBT := hide (show BelP wi wt from HBP_w18.out.trans hbt)
  have hgl : GL.length ≤ maxLen := HGT_w18.out.rd.len_le
  unfold maxLen at hgl
  clear hcon hbt htz hdg hlg hod hof hok kp0 kp1 kp2 kp3 kp4 kp5
  generalize GL.length = ng at *
  go_wp2
  go_loopw [31] (fun i wr => ∃ k : Nat, k ≤ ng ∧ i = .int .i64 k ∧ Hid (Turned wt wr ∧ Below wi.heap.size wt wr)) (fun i _ => ng - (intOf i).toNat)
  case atStart => exact ⟨0, Nat.zero_le _, rfl, hide ⟨Turned.refl _, Below.refl _ _⟩⟩
  case round =>
    obtain ⟨k, hk, rfl, hT⟩ := hrel
    by_cases hlt : k < ng
    · have hlt' : (k : Int) < ng := by omega
      obtain ⟨g, bk, bj, rfl, hc, hf, hw8, HN9⟩ := turn_own HLG.out hT.out.1 hT.out.2 k hlt
      go_wp2
      exact ⟨⟨k + 1, by omega, rfl, HN9⟩, by simp only [intOf]; omega⟩
    · have hd : decide ((k : Int) < ng) = false := by simpa using (by omega : ¬ (k : Int) < ng)
      have HBZ := hide (show BelP wi wr from HBT.out.trans hT.out.2)
      clear hT HBT
      obtain ⟨k0, k1, k2, k3, k4, k5⟩ := fs_cells (FA.out.carry HBZ.out)
      obtain ⟨j0, j1, j2, j3, j4, j5⟩ := fs_cells (FX.out.carry HBZ.out)
      have hcon := rsame6_any xa x f f wr (RA.out.carry HBZ.out) (HX.out.carry (BW.out.trans (HBZ.out.mono BW.out.size)))
      rw [sameB_self] at hcon
      go_wp2_with fail
      refine hcon.mono ?_
      rintro e wz ⟨rfl, hbz⟩
      have HBY := hide (show BelP wi wz from HBZ.out.carry hbz)
      have hcv1 := conv_rd (P := Tryz.prog) 22 5 9 Tryz.underlying22 Tryz.underlying5 Tryz.underlying9 (IN.out.carry HBY.out).rd
      have hcv2 := conv_rd (P := Tryz.prog) 22 5 9 Tryz.underlying22 Tryz.underlying5 Tryz.underlying9 (HRX.out.carry (BW.out.trans (HBY.out.mono BW.out.size)))
      have HE := hide (BW.out.trans (HBY.out.mono BW.out.size))
      clear hcon hbz k0 k1 k2 k3 k4 k5 j0 j1 j2 j3 j4 j5
      go_wp2
      go_ret
      exact ⟨rfl, HE.out⟩

end Go.Proofs.YtlibnefibeikcaaGreat

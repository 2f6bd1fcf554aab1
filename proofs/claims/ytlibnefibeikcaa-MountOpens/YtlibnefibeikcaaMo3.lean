/-
  MountOpens.
-/
import Derived.Test.YtlibnefibeikcaaMo2
import Derived.Test.YtlibnefibeikcaaRm6
import Derived.Test.YtlibnefibeikcaaKt
namespace Go.Proofs.Ytlibnefibeikcaa
open Go.RowKit
set_option linter.unusedVariables false
set_option linter.unusedSimpArgs false

def BelO (w0 w : World) : Prop := Below w0.heap.size w0 w
theorem BelO.refl (w : World) : BelO w w := Below.refl _ _
theorem BelO.carry {w0 w w' : World} (h : BelO w0 w) (hb : Below w.heap.size w w') : BelO w0 w' := Below.trans h (hb.mono (Below.size h))
def LowA (w : World) (hi : Nat) (v : Value) (n : Nat) : Prop := ∀ top, LowF w hi top v n
theorem LowA.carry {w w' : World} {hi : Nat} {v : Value} {n : Nat} (h : LowA w hi v n) (hb : Below w.heap.size w w') : LowA w' hi v n := fun top => (h top).carry hb
theorem ApartV.carry {w w' : World} {v : Value} {kl : List Fl} (h : ApartV w v kl) (hb : Below w.heap.size w w') : ApartV w' v kl := by
  obtain ⟨x, e, h⟩ := h
  exact ⟨x, e, h.carry hb⟩
theorem twinS {d : Dk} {v : Value} (w : World) (hD : RdD w v d) (hg : d.1.length ≤ 100000 ∧ d.2.1.length ≤ 2000 ∧ d.2.2.length ≤ 2000) (h2 : ∀ p ∈ d.2.1, p.2.length ≤ 140737488355328) (h3 : ∀ p ∈ d.2.2, p.2.2.length ≤ 140737488355328) :
    Calls Try.prog 5 #[v] w fun e w' => ∃ v', e = .returned v' ∧ OwD w' w.heap.size v' d ∧ Below w.heap.size w w' := by
  refine (twin_any w hD (by omega) (by omega) (by omega) h2 h3).mono ?_
  rintro e w' ⟨x, y, z, B, rfl, hB, hx, _, hy, hz, _, hb⟩
  exact ⟨_, rfl, ⟨_, _, _, rfl, hx, hy.mono hB, hz.mono hB⟩, hb⟩
theorem OwFs.data {w : World} {base : Nat} {x : FsV} {f : Fsd} (h : OwFs w base x.val f) : OwB w base (.slice x.a1 x.n1 x.c1) f.1.1 ∧ OwF w base (.slice x.a4 x.n4 x.c4) f.2.2.1 ∧ OwF w base (.slice x.a5 x.n5 x.c5) f.2.2.2 := by
  obtain ⟨d1, d2, d3, a, b, e, ⟨u1, u2, u3, e', h1, _, _⟩, h2, h3⟩ := h
  unfold FsV.val at e
  simp only [Value.agg.injEq, Array.mk.injEq, List.cons.injEq, and_true] at e e'
  obtain ⟨rfl, rfl, rfl, _, rfl, rfl⟩ := e
  obtain ⟨rfl, rfl, rfl⟩ := e'
  exact ⟨h1, h2, h3⟩
theorem OwF.len7 {w : World} {base : Nat} {a : Option Addr} {n c : Nat} {fs : List Fl} (h : OwF w base (.slice a n c) fs) : n = fs.length := by
  obtain ⟨_, _, e⟩ := h.rd.form
  cases e; rfl
theorem OwF.row7 {w : World} {base : Nat} {a : Option Addr} {n c : Nat} {fs : List Fl} (h : OwF w base (.slice a n c) fs) : RowF w base (.slice a n c) n := by
  have := h.rowF
  rwa [← h.len7] at this
theorem rdx_dir {w : World} {a : Option Addr} {n c : Nat} {l : List Fl} (h : RdF w (.slice a n c) l) (hn : n = l.length) : RdX w ⟨none, 0, 0, none, 0, 0, none, 0, 0, 0, a, n, c, none, 0, 0⟩ (([], [], []), 0, l, []) := by
  have h0 := OwFs_zero w 0
  obtain ⟨d1, d2, d3, p, q, e, h1, h2, h3⟩ := h0
  have hz : OwD w 0 (.agg #[.slice none 0 0, .slice none 0 0, .slice none 0 0]) ([], [], []) := ⟨_, _, _, rfl, World.ownsRow_nil _ _ _ _, ⟨[], rfl, World.ownsRow_nil _ _ _ _, by simp⟩, ⟨[], rfl, World.ownsRow_nil _ _ _ _, by simp⟩⟩
  exact ⟨hz.rd, rfl, rfl, rfl, h, hn, (OwF.nil w 0).rd, rfl⟩

set_option maxHeartbeats 1000000 in
set_option maxRecDepth 100000 in
theorem same7_any (a : Option Addr) (n c : Nat) (b : Option Addr) (m k : Nat) (l : List Fl) (w : World) (h : RdF w (.slice a n c) l) (h' : RdF w (.slice b m k) l) (hn : n = l.length) (hm : m = l.length) :
    Calls Try.prog 10 #[.agg #[.slice a n c], .agg #[.slice b m k]] w fun e w' => e = .returned (.bool true) ∧ Below w.heap.size w w' := by
  obtain ⟨w1, ew⟩ : ∃ w1, (w.alloc (.cells #[.slice a n c] 32)).alloc (.cells #[.slice b m k] 32) = w1 := ⟨_, rfl⟩
  have q0 : Below w.heap.size w (w.alloc (.cells #[.slice a n c] 32)) := (Below.refl _ _).alloc (Nat.le_refl _) _
  have q1 : Below (w.alloc (.cells #[.slice a n c] 32)).heap.size (w.alloc (.cells #[.slice a n c] 32)) w1 := by rw [← ew]; exact (Below.refl _ _).alloc (Nat.le_refl _) _
  have k0 := dir_cell ((Bq.new w 32 #[.slice a n c]).carry q1)
  have k1 := dir_cell (show Bq w1 (w.heap.size + 1) 32 #[.slice b m k] by have := Bq.new (w.alloc (.cells #[.slice a n c] 32)) 32 #[.slice b m k]; rw [← ew]; simpa using this)
  have HB := hide (q0.trans (q1.mono q0.size))
  have hcon := rsame6_any ⟨none, 0, 0, none, 0, 0, none, 0, 0, 0, a, n, c, none, 0, 0⟩ ⟨none, 0, 0, none, 0, 0, none, 0, 0, 0, b, m, k, none, 0, 0⟩ (([], [], []), 0, l, []) (([], [], []), 0, l, []) w1 (rdx_dir (h.carry HB.out) hn) (rdx_dir (h'.carry HB.out) hm)
  rw [sameB_self] at hcon
  unfold FsV.val at hcon
  dsimp only at hcon
  clear q0 q1 h h' hn hm
  go_enter Try.func10, Try.ntmps10
  go_wp2_with fail
  try rw [ew]
  refine hcon.mono ?_
  rintro e w2 ⟨rfl, hbb⟩
  have HB2 := hide (HB.out.trans (hbb.mono HB.out.size))
  clear hcon hbb k0 k1 ew
  go_wp2
  go_ret
  exact ⟨rfl, HB2.out⟩

set_option maxHeartbeats 16000000 in
set_option maxRecDepth 100000 in
theorem mountOpens_any {d : Dk} {v : Value} (w : World) (hD : RdD w v d) (hs2 : ∀ p ∈ d.2.1, p.2.length ≤ 140737488355328) (hs3 : ∀ p ∈ d.2.2, p.2.2.length ≤ 140737488355328) :
    Calls Try.prog 3 #[v] w fun e w' => e = .returned (.bool true) ∧ Below w.heap.size w w' := by
  obtain ⟨a1, c1, a2, c2, a3, c3, rfl, -, -, -⟩ := hD.form
  have HD := hide hD
  have HS2 := hide hs2
  have HS3 := hide hs3
  clear hD hs2 hs3
  generalize d.1.length = n1 at *
  generalize d.2.1.length = n2 at *
  generalize d.2.2.length = n3 at *
  obtain ⟨w1, ew⟩ : ∃ w1, w.alloc (.cells #[.slice a1 n1 c1, .slice a2 n2 c2, .slice a3 n3 c3] 26) = w1 := ⟨_, rfl⟩
  have hb1 : Below w.heap.size w w1 := by rw [← ew]; exact (Below.refl _ _).alloc (Nat.le_refl _) _
  have HQd_w1 := hide (show Bq w1 w.heap.size 26 #[.slice a1 n1 c1, .slice a2 n2 c2, .slice a3 n3 c3] by rw [← ew]; exact Bq.new _ _ _)
  have HB_w1 := hide hb1
  clear hb1
  obtain ⟨FO, ER, hFO⟩ : ∃ FO ER, openFs d = (FO, ER) := ⟨_, _, rfl⟩
  have HFO := hide hFO
  clear hFO
  go_enter Try.func3, Try.ntmps3
  obtain ⟨kd0, kd1, kd2⟩ := dk_cells HQd_w1.out
  have hcon := great_any (d := d) w1 (HD.out.carry HB_w1.out)
  go_wp2_with fail
  try rw [ew]
  refine hcon.mono ?_
  rintro e w2 ⟨⟨r, rfl, hgr⟩, hbb⟩
  have HQd_w2 := hide (HQd_w1.out.carry hbb)
  have HB_w2 := hide (show Below w.heap.size w w2 from HB_w1.out.trans (hbb.mono HB_w1.out.size))
  clear hcon hbb kd0 kd1 kd2
  try clear ew
  cases r with
  | true =>
    clear hgr
    go_wp2
    go_ret
    exact ⟨rfl, HB_w2.out⟩
  | false =>
  have HGx := hide (hgr rfl)
  clear hgr
  obtain ⟨kd0, kd1, kd2⟩ := dk_cells HQd_w2.out
  have hcon := twinS (d := d) w2 (HD.out.carry HB_w2.out) HGx.out HS2.out HS3.out
  go_wp2_with fail
  refine hcon.mono ?_
  rintro e w3 ⟨v0, rfl, ho, hbb⟩
  have HQd_w3 := hide (HQd_w2.out.carry hbb)
  have HB_w3 := hide (show Below w.heap.size w w3 from HB_w2.out.trans (hbb.mono HB_w2.out.size))
  clear hcon hbb kd0 kd1 kd2
  obtain ⟨ao1, co1, ao2, co2, ao3, co3, e9⟩ := ho.form
  subst e9
  have hrd9 := ho.rd
  clear ho
  generalize (d).1.length = no1 at *
  generalize (d).2.1.length = no2 at *
  generalize (d).2.2.length = no3 at *
  obtain ⟨w4, ew4⟩ : ∃ wq, w3.alloc (.cells #[.slice ao1 no1 co1, .slice ao2 no2 co2, .slice ao3 no3 co3] 26) = wq := ⟨_, rfl⟩
  have hbn : Below w3.heap.size w3 w4 := by rw [← ew4]; exact (Below.refl _ _).alloc (Nat.le_refl _) _
  have HQd_w4 := hide (HQd_w3.out.carry hbn)
  have HB_w4 := hide (show Below w.heap.size w w4 from HB_w3.out.trans (hbn.mono HB_w3.out.size))
  have HQo_w4 := hide (show Bq w4 w3.heap.size 26 #[.slice ao1 no1 co1, .slice ao2 no2 co2, .slice ao3 no3 co3] by rw [← ew4]; exact Bq.new _ _ _)
  have HPo_w4 := hide (hrd9.carry hbn)
  clear hrd9 hbn
  have HBO_w4 := hide (BelO.refl w4)
  obtain ⟨ko0, ko1, ko2⟩ := dk_cells HQo_w4.out
  have hcon := open2_any (d := d) w4 HPo_w4.out
  simp only [HFO.out] at hcon
  go_wp2_with fail
  try rw [ew4]
  refine hcon.mono ?_
  rintro e w5 ⟨v0, rfl, ho, hap, hbb⟩
  have HQd_w5 := hide (HQd_w4.out.carry hbb)
  have HQo_w5 := hide (HQo_w4.out.carry hbb)
  have HPo_w5 := hide (HPo_w4.out.carry hbb)
  have HBO_w5 := hide (HBO_w4.out.carry hbb)
  have HB_w5 := hide (show Below w.heap.size w w5 from HB_w4.out.trans (hbb.mono HB_w4.out.size))
  clear hcon hbb ko0 ko1 ko2
  try clear ew4
  have HAV_w5 := hide hap
  clear hap
  obtain ⟨xa, e9, hx9, ho9⟩ := ho.bx
  subst e9
  obtain ⟨aa1, an1, ac1, aa2, an2, ac2, aa3, an3, ac3, ag, aa4, an4, ac4, aa5, an5, ac5⟩ := xa
  obtain ⟨w6, ew6⟩ : ∃ wq, w5.alloc (.cells #[.slice aa1 an1 ac1, .slice aa2 an2 ac2, .slice aa3 an3 ac3, .int .u32 ag, .slice aa4 an4 ac4, .slice aa5 an5 ac5] 34) = wq := ⟨_, rfl⟩
  have hbn : Below w5.heap.size w5 w6 := by rw [← ew6]; exact (Below.refl _ _).alloc (Nat.le_refl _) _
  have HQd_w6 := hide (HQd_w5.out.carry hbn)
  have HQo_w6 := hide (HQo_w5.out.carry hbn)
  have HPo_w6 := hide (HPo_w5.out.carry hbn)
  have HBO_w6 := hide (HBO_w5.out.carry hbn)
  have HAV_w6 := hide (HAV_w5.out.carry hbn)
  have HB_w6 := hide (show Below w.heap.size w w6 from HB_w5.out.trans (hbn.mono HB_w5.out.size))
  have HFa_w6 := hide (show FsAt w6 w5.heap.size (⟨aa1, an1, ac1, aa2, an2, ac2, aa3, an3, ac3, ag, aa4, an4, ac4, aa5, an5, ac5⟩ : FsV) by rw [← ew6]; exact Bq.new _ _ _)
  have HRa_w6 := hide (hx9.carry hbn)
  have HOa_w6 := hide ((ho9.mono (Nat.le_refl _)).carry hbn)
  unfold FsV.val
  dsimp only
  clear ho hx9 ho9 hbn
  obtain ⟨hi, hap1, hap2, hap3⟩ := HAV_w6.out.of
  dsimp only at hap1 hap2
  have HK_w6 := hide hap1
  have HL_w6 := hide (show LowA w6 hi (.slice aa4 an4 ac4) an4 from hap2)
  have HSB := hide hap3
  clear hap1 hap2 hap3 HAV_w6
  obtain ⟨kd0, kd1, kd2⟩ := dk_cells HQd_w6.out
  have hcon := ropen7_any (d := d) w6 (HD.out.carry HB_w6.out)
  simp only [HFO.out] at hcon
  go_wp2_with fail
  try rw [ew6]
  refine hcon.mono ?_
  rintro e w7 ⟨v9, rfl, ho, hbb⟩
  have HQd_w7 := hide (HQd_w6.out.carry hbb)
  have HQo_w7 := hide (HQo_w6.out.carry hbb)
  have HPo_w7 := hide (HPo_w6.out.carry hbb)
  have HBO_w7 := hide (HBO_w6.out.carry hbb)
  have HFa_w7 := hide (HFa_w6.out.carry hbb)
  have HRa_w7 := hide (HRa_w6.out.carry hbb)
  have HOa_w7 := hide (HOa_w6.out.carry hbb)
  have HK_w7 := hide (HK_w6.out.carry hbb)
  have HL_w7 := hide (HL_w6.out.carry hbb)
  have HB_w7 := hide (show Below w.heap.size w w7 from HB_w6.out.trans (hbb.mono HB_w6.out.size))
  clear hcon hbb kd0 kd1 kd2
  try clear ew6
  obtain ⟨xb, e9, hx9, ho9⟩ := ho.bx
  subst e9
  obtain ⟨ba1, bn1, bc1, ba2, bn2, bc2, ba3, bn3, bc3, bg, ba4, bn4, bc4, ba5, bn5, bc5⟩ := xb
  obtain ⟨w8, ew8⟩ : ∃ wq, w7.alloc (.cells #[.slice ba1 bn1 bc1, .slice ba2 bn2 bc2, .slice ba3 bn3 bc3, .int .u32 bg, .slice ba4 bn4 bc4, .slice ba5 bn5 bc5] 34) = wq := ⟨_, rfl⟩
  have hbn : Below w7.heap.size w7 w8 := by rw [← ew8]; exact (Below.refl _ _).alloc (Nat.le_refl _) _
  have HQd_w8 := hide (HQd_w7.out.carry hbn)
  have HQo_w8 := hide (HQo_w7.out.carry hbn)
  have HPo_w8 := hide (HPo_w7.out.carry hbn)
  have HBO_w8 := hide (HBO_w7.out.carry hbn)
  have HFa_w8 := hide (HFa_w7.out.carry hbn)
  have HRa_w8 := hide (HRa_w7.out.carry hbn)
  have HOa_w8 := hide (HOa_w7.out.carry hbn)
  have HK_w8 := hide (HK_w7.out.carry hbn)
  have HL_w8 := hide (HL_w7.out.carry hbn)
  have HB_w8 := hide (show Below w.heap.size w w8 from HB_w7.out.trans (hbn.mono HB_w7.out.size))
  have HFb_w8 := hide (show FsAt w8 w7.heap.size (⟨ba1, bn1, bc1, ba2, bn2, bc2, ba3, bn3, bc3, bg, ba4, bn4, bc4, ba5, bn5, bc5⟩ : FsV) by rw [← ew8]; exact Bq.new _ _ _)
  have HRb_w8 := hide (hx9.carry hbn)
  have HOb_w8 := hide ((ho9.mono (Nat.le_refl _)).carry hbn)
  unfold FsV.val
  dsimp only
  clear ho hx9 ho9 hbn
  obtain ⟨ka0, ka1, ka2, ka3, ka4, ka5⟩ := fs_cells HFa_w8.out
  dsimp only at ka0 ka1 ka2 ka3 ka4 ka5
  obtain ⟨kb0, kb1, kb2, kb3, kb4, kb5⟩ := fs_cells HFb_w8.out
  dsimp only at kb0 kb1 kb2 kb3 kb4 kb5
  have hcon := rsame6_any (⟨aa1, an1, ac1, aa2, an2, ac2, aa3, an3, ac3, ag, aa4, an4, ac4, aa5, an5, ac5⟩ : FsV) (⟨ba1, bn1, bc1, ba2, bn2, bc2, ba3, bn3, bc3, bg, ba4, bn4, bc4, ba5, bn5, bc5⟩ : FsV) FO FO w8 HRa_w8.out HRb_w8.out
  rw [sameB_self] at hcon
  simp only [FsV.val] at hcon
  go_wp2_with fail
  try rw [ew8]
  refine hcon.mono ?_
  rintro e w9 ⟨rfl, hbb⟩
  have HQd_w9 := hide (HQd_w8.out.carry hbb)
  have HQo_w9 := hide (HQo_w8.out.carry hbb)
  have HPo_w9 := hide (HPo_w8.out.carry hbb)
  have HBO_w9 := hide (HBO_w8.out.carry hbb)
  have HFa_w9 := hide (HFa_w8.out.carry hbb)
  have HRa_w9 := hide (HRa_w8.out.carry hbb)
  have HOa_w9 := hide (HOa_w8.out.carry hbb)
  have HK_w9 := hide (HK_w8.out.carry hbb)
  have HL_w9 := hide (HL_w8.out.carry hbb)
  have HFb_w9 := hide (HFb_w8.out.carry hbb)
  have HRb_w9 := hide (HRb_w8.out.carry hbb)
  have HOb_w9 := hide (HOb_w8.out.carry hbb)
  have HB_w9 := hide (show Below w.heap.size w w9 from HB_w8.out.trans (hbb.mono HB_w8.out.size))
  clear hcon hbb ka0 ka1 ka2 ka3 ka4 ka5 kb0 kb1 kb2 kb3 kb4 kb5
  try clear ew8
  obtain ⟨hO1, hO4, hO5⟩ := HOa_w9.out.data
  dsimp only at hO1 hO4 hO5
  obtain ⟨-, -, hP5⟩ := HOb_w9.out.data
  dsimp only at hP5
  have hl1 : an1 ≤ maxLen := by rw [hO1.len']; exact hO1.rd.len_le
  have hl4 : an4 ≤ maxLen := by rw [hO4.len7]; exact hO4.rd.len_le
  unfold maxLen at hl1 hl4
  have O1 := hide hO1
  have R4 := hide hO4.row7
  have K5 := HK_w9
  have HLO := HL_w9
  have P5 := hide hP5
  have N5 := hide HK_w9.out.len7
  have M5 := hide hP5.len7
  clear hO1 hO4 hO5 hP5
  have QD := hide HQd_w9.out
  have QO := hide HQo_w9.out
  have FA := hide HFa_w9.out
  have FB := hide HFb_w9.out
  have RO := hide HPo_w4.out
  have BO := hide HBO_w9.out
  have BW := hide HB_w9.out
  have BWO := hide HB_w4.out.size
  clear HQd_w9 HQo_w9 HFa_w9 HFb_w9 HOa_w9 HOb_w9 HK_w9 HL_w9 HRa_w9 HRb_w9 HPo_w9 HBO_w9
  have HBXA : Hid (∀ wr, Turned w9 wr → Bq wr w5.heap.size 34 #[.slice aa1 an1 ac1, .slice aa2 an2 ac2, .slice aa3 an3 ac3, .int .u32 ag, .slice aa4 an4 ac4, .slice aa5 an5 ac5]) := fun wr hT => hT.2.1 _ _ _ _ FA.out (by decide)
  go_wp2
  go_loopw [8] (fun i wr => ∃ k : Nat, k ≤ an1 ∧ i = .int .i64 k ∧ Hid (Turned w9 wr ∧ Below w4.heap.size w9 wr)) (fun i _ => an1 - (intOf i).toNat)
  case atStart => exact ⟨0, Nat.zero_le _, rfl, hide ⟨Turned.refl _, Below.refl _ _⟩⟩
  case round =>
    obtain ⟨k, hk, rfl, hT⟩ := hrel
    have p0 := (HBXA.out wr hT.out.1).cell 0
    by_cases hlt : k < an1
    · have hlt' : (k : Int) < an1 := by omega
      obtain ⟨g, bk, bj, rfl, hc, hf, hw8, HN⟩ := turn_step O1.out hT.out.1 hT.out.2 k hlt
      go_wp2
      go_region
      go_wp2
      exact ⟨⟨k + 1, by omega, rfl, HN⟩, by simp only [intOf]; omega⟩
    have hd : decide ((k : Int) < an1) = false := by simpa using (by omega : ¬ (k : Int) < an1)
    go_wp2
    clear p0 hd hlt hk
    obtain ⟨wb, ewb⟩ : ∃ wb, wb = wr := ⟨_, rfl⟩
    rw [← ewb]
    rw [← ewb] at hT
    clear ewb
    have FAB := hide (HBXA.out wb hT.out.1)
    have FBB := hide (show Bq wb (w7.heap.size) 34 #[.slice ba1 bn1 bc1, .slice ba2 bn2 bc2, .slice ba3 bn3 bc3, .int .u32 bg, .slice ba4 bn4 bc4, .slice ba5 bn5 bc5] from hT.out.1.2.1 _ _ _ _ FB.out (by decide))
    have QDB := hide (show Bq wb w.heap.size 26 #[.slice a1 n1 c1, .slice a2 n2 c2, .slice a3 n3 c3] from hT.out.1.2.1 _ _ _ _ QD.out (by decide))
    have QOB := hide (show Bq wb (w3.heap.size) 26 #[.slice ao1 no1 co1, .slice ao2 no2 co2, .slice ao3 no3 co3] from hT.out.1.2.1 _ _ _ _ QO.out (by decide))
    have R4B := hide (R4.out.turned hT.out.1)
    have K5B := hide (K5.out.turnedB hT.out.1)
    have P5B := hide (P5.out.turnedB hT.out.1)
    have HLB := hide (fun top => (HLO.out top).turned hT.out.1)
    have BOB := hide (show Below w4.heap.size w4 wb from Below.trans BO.out hT.out.2)
    have BWB := hide (show Below w.heap.size w wb from BW.out.trans (hT.out.2.mono BWO.out))
    have HBSB := hide (show w4.heap.size ≤ wb.heap.size from BOB.out.size)
    have HBTF : Hid (∀ wr, Tf (w4.heap.size) wb wr → Bq wr w5.heap.size 34 #[.slice aa1 an1 ac1, .slice aa2 an2 ac2, .slice aa3 an3 ac3, .int .u32 ag, .slice aa4 an4 ac4, .slice aa5 an5 ac5]) := fun wr hT => hT.2.2.1 _ _ _ FAB.out (by decide) (by decide)
    clear hT HBXA O1 R4 K5 P5 HLO QD QO FA FB BO BW hl1
    go_loopw [9] (fun i wr => ∃ k : Nat, k ≤ an4 ∧ i = .int .i64 k ∧ Hid (Tf (w4.heap.size) wb wr ∧ KeepK hi wb wr (.slice aa4 an4 ac4) an4)) (fun i _ => an4 - (intOf i).toNat)
    case atStart => exact ⟨0, Nat.zero_le _, rfl, hide ⟨Tf.refl _ _, KeepK.refl HLB.out⟩⟩
    case round =>
      obtain ⟨k, hk, rfl, hT⟩ := hrel
      have p4 := (HBTF.out wr hT.out.1).cell 4
      by_cases hlt : k < an4
      · have hlt' : (k : Int) < an4 := by omega
        have hszr := Nat.le_trans HBSB.out hT.out.1.2.1
        have hrow := ((hT.out.1.2.2.2.2 _ _ R4B.out).carry (Below.refl wr.heap.size wr).drew)
        obtain ⟨g, b2, m2, d2, rfl, hc, hmd, g', c', w', hrun0, hsh, HN⟩ := tf_step (w := wr.drew) hszr hrow k hlt 77 77
        have hkk := (hT.out.2.carry (Below.refl wr.heap.size wr).drew).step hrow hszr k hlt hc hrun0
        have hc' : wr.cell? ⟨g, k * 2 + 1, none⟩ = some (.slice b2 m2 d2) := hc
        have HRUN := hide hrun0
        have hkp := (Bq.shp6 ((HBTF.out wr hT.out.1).carry (Below.refl wr.heap.size wr).drew) hsh.out (by decide)).cell 4
        obtain ⟨q9, z9⟩ := tf_same hrow hsh.out k hlt hc
        have HSW := hide (show (fun wx => wx.cell? ⟨w5.heap.size, 4, none⟩ = some (.slice (some ⟨g, 0, none⟩) an4 ac4) ∧ wx.cell? ⟨g, k * 2 + 1, none⟩ = some (.slice b2 m2 d2)) w' from ⟨hkp, q9⟩)
        have HNN := hide (⟨(hT.out.1.trans (Tf.shp (shp_below hszr (Below.refl _ _).drew))).trans HN.out, hkk⟩ : Tf (w4.heap.size) wb _ ∧ KeepK hi wb _ _ _)
        have hK : Keeps (fun wx => wx.cell? ⟨w5.heap.size, 4, none⟩ = some (.slice (some ⟨g, 0, none⟩) an4 ac4) ∧ wx.cell? ⟨g, k * 2 + 1, none⟩ = some (.slice b2 m2 d2)) := (keeps_cell _ _).and (keeps_cell _ _)
        clear hrun0 hszr hkp hsh HN hkk hrow
        go_wp2
        refine regL_begin hK 17 (by kernel_rfl) ⟨p4, hc'⟩ ?_
        intro hS
        clear hc'
        generalize wr.drew = wd at *
        refine regL_take (i := 0) (v := ?qdv0) rfl (by kernel_rfl) (by kernel_rfl) (by kernel_rfl) rfl (by kernel_rfl) (by kernel_rfl) (by rfl) ?qdy0 hS ?qdr0
        case qdy0 => (rintro wx ⟨x1, x2⟩; go_simp; all_goals (with_reducible rfl))
        try simp only [Act.put, List.setIfInBounds_toArray, List.set_cons_zero, List.set_cons_succ]
        refine regL_take (i := 1) (v := ?qdv1) rfl (by kernel_rfl) (by kernel_rfl) (by kernel_rfl) rfl (by kernel_rfl) (by kernel_rfl) (by rfl) ?qdy1 hS ?qdr1
        case qdy1 => (rintro wx ⟨x1, x2⟩; go_simp; all_goals (with_reducible rfl))
        try simp only [Act.put, List.setIfInBounds_toArray, List.set_cons_zero, List.set_cons_succ]
        refine regL_take (i := 2) (v := ?qdv2) rfl (by kernel_rfl) (by kernel_rfl) (by kernel_rfl) rfl (by kernel_rfl) (by kernel_rfl) (by rfl) ?qdy2 hS ?qdr2
        case qdy2 => (rintro wx ⟨x1, x2⟩; go_simp; all_goals (with_reducible rfl))
        try simp only [Act.put, List.setIfInBounds_toArray, List.set_cons_zero, List.set_cons_succ]
        refine regL_take (i := 3) (v := ?qdv3) rfl (by kernel_rfl) (by kernel_rfl) (by kernel_rfl) rfl (by kernel_rfl) (by kernel_rfl) (by rfl) ?qdy3 hS ?qdr3
        case qdy3 => (rintro wx ⟨x1, x2⟩; go_simp; all_goals (with_reducible rfl))
        try simp only [Act.put, List.setIfInBounds_toArray, List.set_cons_zero, List.set_cons_succ]
        refine regL_take (i := 4) (v := ?qdv4) rfl (by kernel_rfl) (by kernel_rfl) (by kernel_rfl) rfl (by kernel_rfl) (by kernel_rfl) (by rfl) ?qdy4 hS ?qdr4
        case qdy4 => (rintro wx ⟨x1, x2⟩; go_simp; all_goals (with_reducible rfl))
        try simp only [Act.put, List.setIfInBounds_toArray, List.set_cons_zero, List.set_cons_succ]
        refine regL_take (i := 5) (v := ?qdv5) rfl (by kernel_rfl) (by kernel_rfl) (by kernel_rfl) rfl (by kernel_rfl) (by kernel_rfl) (by rfl) ?qdy5 hS ?qdr5
        case qdy5 => (rintro wx ⟨x1, x2⟩; go_simp; all_goals (with_reducible rfl))
        try simp only [Act.put, List.setIfInBounds_toArray, List.set_cons_zero, List.set_cons_succ]
        refine regL_take (i := 6) (v := ?qdv6) rfl (by kernel_rfl) (by kernel_rfl) (by kernel_rfl) rfl (by kernel_rfl) (by kernel_rfl) (by rfl) ?qdy6 hS ?qdr6
        case qdy6 => (rintro wx ⟨x1, x2⟩; go_simp; all_goals (with_reducible rfl))
        try simp only [Act.put, List.setIfInBounds_toArray, List.set_cons_zero, List.set_cons_succ]
        refine regL_take (i := 7) (v := ?qdv7) rfl (by kernel_rfl) (by kernel_rfl) (by kernel_rfl) rfl (by kernel_rfl) (by kernel_rfl) (by rfl) ?qdy7 hS ?qdr7
        case qdy7 => (rintro wx ⟨x1, x2⟩; go_simp; all_goals (with_reducible rfl))
        try simp only [Act.put, List.setIfInBounds_toArray, List.set_cons_zero, List.set_cons_succ]
        refine regL_take (i := 8) (v := ?qdv8) rfl (by kernel_rfl) (by kernel_rfl) (by kernel_rfl) rfl (by kernel_rfl) (by kernel_rfl) (by rfl) ?qdy8 hS ?qdr8
        case qdy8 => (rintro wx ⟨x1, x2⟩; go_simp; all_goals (with_reducible rfl))
        try simp only [Act.put, List.setIfInBounds_toArray, List.set_cons_zero, List.set_cons_succ]
        refine regL_take (i := 9) (v := ?qdv9) rfl (by kernel_rfl) (by kernel_rfl) (by kernel_rfl) rfl (by kernel_rfl) (by kernel_rfl) (by rfl) ?qdy9 hS ?qdr9
        case qdy9 => (rintro wx ⟨x1, x2⟩; go_simp; all_goals (with_reducible rfl))
        try simp only [Act.put, List.setIfInBounds_toArray, List.set_cons_zero, List.set_cons_succ]
        refine regL_take (i := 10) (v := ?qdv10) rfl (by kernel_rfl) (by kernel_rfl) (by kernel_rfl) rfl (by kernel_rfl) (by kernel_rfl) (by rfl) ?qdy10 hS ?qdr10
        case qdy10 => (rintro wx ⟨x1, x2⟩; go_simp; all_goals (with_reducible rfl))
        try simp only [Act.put, List.setIfInBounds_toArray, List.set_cons_zero, List.set_cons_succ]
        refine regL_take (i := 11) (v := ?qdv11) rfl (by kernel_rfl) (by kernel_rfl) (by kernel_rfl) rfl (by kernel_rfl) (by kernel_rfl) (by rfl) ?qdy11 hS ?qdr11
        case qdy11 => (rintro wx ⟨x1, x2⟩; go_simp; all_goals (with_reducible rfl))
        try simp only [Act.put, List.setIfInBounds_toArray, List.set_cons_zero, List.set_cons_succ]
        refine regL_take (i := 12) (v := ?qdv12) rfl (by kernel_rfl) (by kernel_rfl) (by kernel_rfl) rfl (by kernel_rfl) (by kernel_rfl) (by rfl) ?qdy12 hS ?qdr12
        case qdy12 => (rintro wx ⟨x1, x2⟩; go_simp; all_goals (with_reducible rfl))
        try simp only [Act.put, List.setIfInBounds_toArray, List.set_cons_zero, List.set_cons_succ]
        refine regL_run (i := 13) (v := .slice (some ⟨wd.heap.size, 0, none⟩) 1 1) (w' := wd.alloc (.cells #[.int .i64 77, .int .i64 77] 45)) rfl (by kernel_rfl) (by rfl) (by go_simp) (fun _ => hK _ _ hS ((Below.refl _ _).alloc (Nat.le_refl _) _)) ?_
        try simp only [Act.put, List.setIfInBounds_toArray, List.set_cons_zero, List.set_cons_succ]
        refine regL_run (i := 14) (v := .slice (some ⟨g', 0, none⟩) 1 c') (w' := w') rfl (by kernel_rfl) (by rfl) (exec_app rfl rfl rfl HRUN.out) (fun _ => HSW.out) ?_
        have hS9 := HSW.out
        clear hS
        have hS := hS9
        clear hS9
        try simp only [Act.put, List.setIfInBounds_toArray, List.set_cons_zero, List.set_cons_succ]
        refine regL_run (i := 15) (v := .pointer (some ⟨g, k * 2, none⟩)) (w' := w') rfl (by kernel_rfl) (by rfl) (by go_simp) (fun _ => hS) ?_
        try simp only [Act.put, List.setIfInBounds_toArray, List.set_cons_zero, List.set_cons_succ]
        refine regL_take (i := 16) (v := ?qdv16) rfl (by kernel_rfl) (by kernel_rfl) (by kernel_rfl) rfl (by kernel_rfl) (by kernel_rfl) (by rfl) ?qdy16 hS ?qdr16
        case qdy16 => (rintro wx ⟨x1, x2⟩; go_simp; all_goals (with_reducible rfl))
        try simp only [Act.put, List.setIfInBounds_toArray, List.set_cons_zero, List.set_cons_succ]
        refine regL_last (i := 17) (w' := w'.setCell ⟨g, k * 2 + 1, none⟩ (.slice (some ⟨g', 0, none⟩) 1 c')) rfl (by kernel_rfl) (by kernel_rfl) (by rfl) (by go_simp) ?_
        try simp only [Act.put, List.setIfInBounds_toArray, List.set_cons_zero, List.set_cons_succ]
        refine wpAnyL_done (by kernel_rfl) ?_ _
        refine NoPanic.normal ?_
        clear hS hK
        go_wp2
        exact ⟨⟨k + 1, by omega, rfl, HNN⟩, by simp only [intOf]; omega⟩
      have hd : decide ((k : Int) < an4) = false := by simpa using (by omega : ¬ (k : Int) < an4)
      have FAF := hide (HBTF.out wr hT.out.1)
      have HFb_wr := hide (show FsAt wr (w7.heap.size) (⟨ba1, bn1, bc1, ba2, bn2, bc2, ba3, bn3, bc3, bg, ba4, bn4, bc4, ba5, bn5, bc5⟩ : FsV) from hT.out.1.2.2.1 _ _ _ FBB.out (by decide) (by decide))
      have HQd_wr := hide (show Bq wr w.heap.size 26 #[.slice a1 n1 c1, .slice a2 n2 c2, .slice a3 n3 c3] from hT.out.1.2.2.1 _ _ _ QDB.out (by decide) (by decide))
      have HQo_wr := hide (show Bq wr (w3.heap.size) 26 #[.slice ao1 no1 co1, .slice ao2 no2 co2, .slice ao3 no3 co3] from hT.out.1.2.2.1 _ _ _ QOB.out (by decide) (by decide))
      have HK5_wr := hide (K5B.out.above hT.out.2.2.1)
      have HP5_wr := hide ((P5B.out).above (fun K h1 h2 => hT.out.2.2.1 K (Nat.le_trans HSB.out h1) h2))
      have HRO_wr := hide (show RdD wr (.agg #[.slice ao1 no1 co1, .slice ao2 no2 co2, .slice ao3 no3 co3]) d from RO.out.carry (Below.trans BOB.out hT.out.1.1))
      have HB_wr := hide (show Below w.heap.size w wr from BWB.out.trans (hT.out.1.1.mono BWO.out))
      have HFa_wr := hide (show FsAt wr (w5.heap.size) (⟨aa1, an1, ac1, aa2, an2, ac2, aa3, an3, ac3, ag, aa4, an4, ac4, aa5, an5, ac5⟩ : FsV) from FAF.out)
      clear FAF hT HBTF FAB FBB QDB QOB K5B P5B R4B HLB BOB BWB RO
      obtain ⟨kd0, kd1, kd2⟩ := dk_cells HQd_wr.out
      obtain ⟨ko0, ko1, ko2⟩ := dk_cells HQo_wr.out
      have hcon := whole_any (d := d) (e := d) wr HRO_wr.out (HD.out.carry HB_wr.out)
      go_wp2_with fail
      refine hcon.mono ?_
      rintro e vw1 ⟨rfl, hbb⟩
      have HFa_vw1 := hide (HFa_wr.out.carry hbb)
      have HFb_vw1 := hide (HFb_wr.out.carry hbb)
      have HQd_vw1 := hide (HQd_wr.out.carry hbb)
      have HQo_vw1 := hide (HQo_wr.out.carry hbb)
      have HK5_vw1 := hide (HK5_wr.out.carry hbb)
      have HP5_vw1 := hide (HP5_wr.out.carry hbb)
      have HRO_vw1 := hide (HRO_wr.out.carry hbb)
      have HB_vw1 := hide (show Below w.heap.size w vw1 from HB_wr.out.trans (hbb.mono HB_wr.out.size))
      clear hcon hbb p4 hd hlt hk kd0 kd1 kd2 ko0 ko1 ko2
      try rw [decide_eq_true (rfl : d = d)]
      by_cases g5 : ¬ ER = 0
      · have g5' : (ER != 0) = true := by simpa using g5
        go_wp2
        go_ret
        exact ⟨rfl, HB_vw1.out⟩
      rw [Decidable.not_not] at g5
      subst g5
      obtain rfl : bn5 = an5 := by rw [M5.out, N5.out]
      obtain ⟨ka0, ka1, ka2, ka3, ka4, ka5⟩ := fs_cells HFa_vw1.out
      dsimp only at ka0 ka1 ka2 ka3 ka4 ka5
      obtain ⟨kb0, kb1, kb2, kb3, kb4, kb5⟩ := fs_cells HFb_vw1.out
      dsimp only at kb0 kb1 kb2 kb3 kb4 kb5
      have hcon := same7_any aa5 bn5 ac5 ba5 bn5 bc5 FO.2.2.2 vw1 HK5_vw1.out.rd HP5_vw1.out.rd M5.out M5.out
      go_wp2_with fail
      refine hcon.mono ?_
      rintro e vw2 ⟨rfl, hbb⟩
      have HFa_vw2 := hide (HFa_vw1.out.carry hbb)
      have HFb_vw2 := hide (HFb_vw1.out.carry hbb)
      have HQd_vw2 := hide (HQd_vw1.out.carry hbb)
      have HQo_vw2 := hide (HQo_vw1.out.carry hbb)
      have HK5_vw2 := hide (HK5_vw1.out.carry hbb)
      have HP5_vw2 := hide (HP5_vw1.out.carry hbb)
      have HRO_vw2 := hide (HRO_vw1.out.carry hbb)
      have HB_vw2 := hide (show Below w.heap.size w vw2 from HB_vw1.out.trans (hbb.mono HB_vw1.out.size))
      clear hcon hbb ka0 ka1 ka2 ka3 ka4 ka5 kb0 kb1 kb2 kb3 kb4 kb5
      go_wp2
      go_ret
      exact ⟨rfl, HB_vw2.out⟩

end Go.Proofs.Ytlibnefibeikcaa

/-
  Plain mathematics of files on a disk: blocks of files are apart; what a write changes.
-/
import Derived.Test.YtmeaiocohalphaaGreatDoorFsTop5
set_option maxHeartbeats 2000000
set_option maxRecDepth 100000
namespace Go.Proofs.YtmeaiocohalphaaGreatDoor
open Go.RowKit
set_option linter.unusedVariables false
set_option linter.unusedSimpArgs false
theorem Tryz.infoStr6 : (Tryz.prog.info? 9).map (fun i => (i.zero, i.size, i.bytes)) = some (some (.string ByteArray.empty), 1, 16) := by kernel_rfl
def txv (l : List (List UInt8)) : List Value := l.map fun s => Value.string (bs s)
def OwT (w : World) (base : Nat) (v : Value) (l : List (List UInt8)) : Prop := w.ownsRow base 9 1 v l.length (txv l)
theorem OwT.nil (w : World) (base : Nat) : OwT w base (.slice none 0 0) [] := World.ownsRow_nil _ _ _ _
theorem OwT.form {w : World} {base : Nat} {v : Value} {l : List (List UInt8)} (h : OwT w base v l) : ∃ a c, v = .slice a l.length c := by
 rcases h.2 with ⟨rfl, hn⟩ | ⟨g, cap, cur, rfl, _⟩
 ·rw [hn]; exact ⟨_, _, rfl⟩
 ·exact ⟨_, _, rfl⟩
theorem OwT.carry {w w' : World} {base : Nat} {v : Value} {l : List (List UInt8)} (h : OwT w base v l) (hb : Below w.heap.size w w') : OwT w' base v l := own_carry h hb
theorem OwT.at {w : World} {base : Nat} {a : Option Addr} {n c : Nat} {l : List (List UInt8)} (h : OwT w base (.slice a n c) l) (j : Nat) (hj : j < l.length) : ∃ g, a = some ⟨g, 0, none⟩ ∧ w.cell? ⟨g, j, none⟩ = some (.string (bs l[j])) := by
 rcases h.2 with ⟨e, hn⟩ | ⟨g, cap, cur, e, _⟩
 ·rw [hn] at hj; cases hj
 ·cases e
  have c1 := h.cells (g := g) rfl j (.string (bs l[j])) (by simp [txv, List.getElem?_eq_getElem hj])
  exact ⟨g, rfl, by simpa [Addr.add_lit] using c1⟩
theorem app_txt {w : World} {base : Nat} {v : Value} {l : List (List UInt8)} (h : OwT w base v l) (hb : base ≤ w.heap.size) (hl : l.length ≤ 1000000) (s : List UInt8) :
  ∃ g c w', (Builtin.append_ #[48, 48] 48 #[v, .slice (some ⟨w.heap.size, 0, none⟩) 1 1]).run Tryz.prog (w.alloc (.cells #[.string (bs s)] 9)) = .ok (.slice (some ⟨g, 0, none⟩) (l.length + 1) c) w' ∧
   OwT w' base (.slice (some ⟨g, 0, none⟩) (l.length + 1) c) (l ++ [s]) ∧ Below base w w' := by
 obtain ⟨w8, ew8⟩ : ∃ w8, w8 = w.alloc (.cells #[.string (bs s)] 9) := ⟨_, rfl⟩
 have hn8 := alloc_news w #[.string (bs s)] 9
 rw [← ew8] at hn8 ⊢
 have hb8 : Below w.heap.size w w8 := by rw [ew8]; exact (Below.refl _ _).alloc (Nat.le_refl _) _
 obtain ⟨i0, hi, hz0, hz1, hz2⟩ := info_parts Tryz.infoStr6
 have q2 : w8.ownsRow base 9 1 v l.length (txv l) := own_carry h hb8
 obtain ⟨v9, w9, hrun9, hown9, hg9, _⟩ := run_append_own (P := Tryz.prog) w8 base 48 48 9 i0 _ 1 16 Tryz.underlying48 hi hz0 hz1 hz2 rfl (by decide) _ _ _ q2 ⟨w.heap.size, 0, none⟩ 1 1 [.string (bs s)] rfl hn8 (by
  intro u hu
  simp at hu
  subst hu
  rfl) (by unfold maxLen; omega) (by omega) (Nat.le_trans hb hb8.size)
 have hb9 : Below base w w9 := (hb8.mono hb).grown hg9 (Nat.le_trans hb hb8.size) fun k hk => (q2.lt k hk).1
 rcases hown9.2 with ⟨_, h0⟩ | ⟨g, cap, cur, h0, _⟩
 ·exact absurd h0 (by omega)
 ·subst h0
  refine ⟨g, cap, w9, hrun9, ?_, hb9⟩
  have e : txv (l ++ [s]) = txv l ++ [.string (bs s)] := by simp [txv]
  unfold OwT
  rw [e, List.length_append]
  exact hown9
theorem fs_names_take (fs : List Fl) (k : Nat) (h : k < fs.length) : (fs.take (k + 1)).map (·.1) = (fs.take k).map (·.1) ++ [(fs[k]).1] := by
 rw [List.take_succ_eq_append_getElem h, List.map_append]; rfl
theorem names_fs (x : FsV) (f : Fsd) (w : World) (h : RdX w x f) (hw : WfX f) :
  Calls Tryz.prog 15 #[x.val] w fun e w' => ∃ v, e = .returned (.tuple #[v, .int .i64 (fsE f)]) ∧ OwT w' w.heap.size v (namesL f) ∧ Below w.heap.size w w' := by
 have HW := hide hw
 clear hw
 obtain ⟨w1, ew⟩ : ∃ w1, w.alloc (.cells x.cs 33) = w1 := ⟨_, rfl⟩
 have hb1 : Below w.heap.size w w1 := by rw [← ew]; exact (Below.refl _ _).alloc (Nat.le_refl _) _
 have HF_w1 := hide (show FsAt w1 w.heap.size x by rw [← ew]; exact Bq.new _ _ _)
 obtain ⟨k0, k1, k2, k3, k4, k5⟩ := fs_cells HF_w1.out
 have HX := hide h
 have HB_w1 := hide hb1
 clear h hb1
 unfold FsV.val
 unfold FsV.cs at ew
 go_enter Tryz.func15, Tryz.ntmps15
 go_wp2_with fail
 refine (check_fs x f w1 (HX.out.carry HB_w1.out) HW.out).mono ?_
 rintro e w2 ⟨rfl, hb2⟩
 have HF_w2 := hide (HF_w1.out.carry hb2)
 have HB_w2 := hide (show Below w.heap.size w w2 from HB_w1.out.trans (hb2.mono HB_w1.out.size))
 clear k0 k1 k2 k3 k4 k5 ew hb2
 obtain ⟨k0, k1, k2, k3, k4, k5⟩ := fs_cells HF_w2.out
 rcases (fsE_cases f).symm with ⟨_, g1⟩ | ⟨_, g1⟩
 ·have HG := hide g1
  have HE := hide (show namesL f = [] by unfold namesL; rw [if_pos (by rw [g1]; decide)])
  rw [g1]
  clear g1
  go_wp2
  go_ret2
  rw [HE.out, HG.out]
  exact ⟨_, rfl, OwT.nil _ _, HB_w2.out⟩
 have HG := hide g1
 have HE := hide (show namesL f = f.2.2.1.map (·.1) by unfold namesL; rw [if_neg (by rw [g1]; decide)])
 have hm : x.n4 ≤ 1000 := by rw [HX.out.n4]; exact (small_ok g1).1.1
 rw [g1]
 clear g1
 obtain ⟨n, hn⟩ : ∃ n, n = x.n4 := ⟨_, rfl⟩
 obtain ⟨a, ha⟩ : ∃ a, a = x.a4 := ⟨_, rfl⟩
 obtain ⟨c, hc⟩ : ∃ c, c = x.c4 := ⟨_, rfl⟩
 have HR := hide (show RdF w (.slice a n c) f.2.2.1 by rw [hn, ha, hc]; exact HX.out.fl)
 have HN := hide (show n = f.2.2.1.length by rw [hn]; exact HX.out.n4)
 rw [← hn] at hm k4
 rw [← ha, ← hc] at k4
 clear hn ha hc
 go_wp2
 go_loopw [17, 5] (fun i v wr => ∃ k : Nat, k ≤ n ∧ i = .int .i64 k ∧ Hid (OwT wr w.heap.size v ((f.2.2.1.take k).map (·.1))) ∧ Below w.heap.size w wr) (fun i _ _ => n - (intOf i).toNat)
 case atStart => exact ⟨0, Nat.zero_le _, rfl, hide (by simpa using OwT.nil _ _), HB_w2.out⟩
 case round =>
  obtain ⟨k, hk, rfl, hown, hbel⟩ := hrel
  by_cases hlt : k < n
  ·have hlt' : (k : Int) < n := by omega
   have hkl : k < f.2.2.1.length := by have := HN.out; omega
   have HT := hide (fs_names_take f.2.2.1 k hkl)
   have HTL := hide (show ((f.2.2.1.take k).map (·.1)).length = k by rw [List.length_map, List.length_take]; omega)
   obtain ⟨b, off, a2, c2, rfl, q0, q1, q2⟩ := HR.out.atB hbel k hkl
   clear q2
   obtain ⟨g, hf⟩ : ∃ g, g = (f.2.2.1)[k] := ⟨_, rfl⟩
   rw [← hf] at q0 q1 HT
   clear hf
   obtain ⟨s, l⟩ := g
   simp only at q0 q1
   obtain ⟨m, hm2⟩ : ∃ m, m = l.length := ⟨_, rfl⟩
   rw [← hm2] at q1
   clear hm2
   obtain ⟨av, cv, e9⟩ := hown.out.form
   rw [HTL.out] at e9
   subst e9
   obtain ⟨wq, ewq⟩ : ∃ wq, wr.alloc (.cells #[.string (bs s), .slice a2 m c2] 98) = wq := ⟨_, rfl⟩
   have hbq : Below wr.heap.size wr wq := by rw [← ewq]; exact (Below.refl _ _).alloc (Nat.le_refl _) _
   have hbq' : Below w.heap.size w wq := hbel.trans (hbq.mono hbel.size)
   have c0 : wq.cell? ⟨wr.heap.size, 0, none⟩ = some (.string (bs s)) := by rw [← ewq]; simp
   obtain ⟨g9, c9, w9, hrun, ho9, hb9⟩ := app_txt (hown.out.carry hbq) hbq'.size (by rw [HTL.out]; omega) s
   rw [HTL.out] at hrun ho9
   have HO9 := hide ho9
   have HB9 := hide (hbq'.trans hb9)
   clear ho9 hb9 hown hbq hbq'
   go_wp2_with (at_builtin; refine wpList_runappE rfl (.tmp 21) (.tmp 24) 48 rfl rfl rfl rfl hrun ?_)
   go_roundw
   case rel => exact ⟨k + 1, by omega, rfl, hide (by rw [HT.out]; exact HO9.out), HB9.out⟩
   case measure => simp only [intOf]; omega
  ·have hd : decide ((k : Int) < n) = false := by simpa using (by omega : ¬ (k : Int) < n)
   have HO := hide (show OwT wr w.heap.size _ (namesL f) by
    have := hown.out
    rw [List.take_of_length_le (by have := HN.out; omega)] at this
    rw [HE.out]; exact this)
   clear hown
   go_wp2
   go_ret2
   rw [HG.out]
   exact ⟨_, rfl, HO.out, hbel⟩
theorem blockD_now {d : Dk} {n : Nat} (h : okD d = true) (hn : n < mny d) : blockD d n = nowD d n := blockD_ok h hn
theorem okD_len {d : Dk} (h : okD d = true) : d.1.length = 128 * mny d := (Fine.of_ok h).1.1
theorem block_writes : ∀ (bl : List (List UInt8)) (n : Nat) (d x : Dk), okD d = true → (∀ a ∈ wActs (n : Int) bl, actE (mny d) a = 0) → onesD d (wActs (n : Int) bl) = some x → ∀ k, k < mny d → blockD x k = if n ≤ k ∧ k < n + bl.length then bl.getD (k - n) [] else blockD d k
 | [], n, d, x, h, ha, he, k, hk => by
  cases he
  rw [if_neg (by simp only [List.length_nil]; omega)]
 | b :: bl, n, d, x, h, ha, he, k, hk => by
  have h1 := ha (false, (n : Int), b) (List.mem_cons_self ..)
  have he : (match oneD d (false, (n : Int), b) with | none => none | some y => onesD y (wActs ((n : Int) + 1) bl)) = some x := he
  cases ho : oneD d (false, (n : Int), b) with
  | none => rw [ho] at he; cases he
  | some y =>
   rw [ho] at he
   simp only at he
   obtain ⟨h2, h3, _⟩ := okD_one h h1 ho
   have hb := block_write h h1 ho hk
   have ih := block_writes bl (n + 1) y x h2 (fun a ha' => by rw [h3]; exact ha a (List.mem_cons_of_mem _ (by simpa using ha'))) (by simpa using he) k (by rw [h3]; exact hk)
   rw [ih, hb]
   simp only [List.length_cons]
   by_cases hkn : k = n
   ·subst hkn
    rw [if_neg (by omega), if_pos rfl, if_pos (by omega), Nat.sub_self]
    rfl
   ·rw [if_neg (show ¬ (k : Int) = (n : Int) by omega)]
    by_cases hr : n + 1 ≤ k ∧ k < n + 1 + bl.length
    ·rw [if_pos hr, if_pos (by omega), show k - n = (k - (n + 1)) + 1 by omega]
     rfl
    ·rw [if_neg hr, if_neg (by omega)]
theorem acts_block {d x : Dk} {g : Nat} {l : List UInt8} (hok : okD d = true) (hm : 34 < mny d) (hg : g ≠ 0) (hl : l.length ≤ 2048) (h : onesD d (actsF g l) = some x) :
  okD x = true ∧ mny x = mny d ∧ x.2.1 = [] ∧ ∀ k, k < mny d → blk x.1 k = if k = g % 2 then (blockS g (l.length : Nat)).1 else if 2 + g % 2 * 16 ≤ k ∧ k < 2 + g % 2 * 16 + (wholeB l).length then (wholeB l).getD (k - (2 + g % 2 * 16)) [] else blockD d k := by
 obtain ⟨o1, o2⟩ := okD_ones' hok (actsF_ok hm hg hl) h
 have e : actsF g l = [(true, 0, [])] ++ (wActs ((2 + g % 2 * 16 : Nat) : Int) (wholeB l) ++ ([(true, 0, [])] ++ ([(false, ((g % 2 : Nat) : Int), (blockS g (l.length : Nat)).1)] ++ [(true, 0, [])]))) := rfl
 rw [e, onesD_append6, onesD_one] at h
 obtain ⟨x1, a1, h⟩ := Option.bind_eq_some_iff.1 h
 rw [onesD_append6] at h
 obtain ⟨x2, a2, h⟩ := Option.bind_eq_some_iff.1 h
 rw [onesD_append6, onesD_one] at h
 obtain ⟨x3, a3, h⟩ := Option.bind_eq_some_iff.1 h
 rw [onesD_append6, onesD_one] at h
 obtain ⟨x4, a4, a5⟩ := Option.bind_eq_some_iff.1 h
 rw [onesD_one] at a5
 obtain ⟨k1, m1, _⟩ := okD_one hok (sync_act _) a1
 have hda : ∀ a ∈ wActs ((2 + g % 2 * 16 : Nat) : Int) (wholeB l), actE (mny x1) a = 0 := by rw [m1]; exact dirs_act hm hl
 obtain ⟨k2, m2⟩ := okD_ones' k1 hda a2
 obtain ⟨k3, m3, _⟩ := okD_one k2 (sync_act _) a3
 have hsa : actE (mny x3) (false, ((g % 2 : Nat) : Int), (blockS g (l.length : Nat)).1) = 0 := super_act (by omega) hg hl
 obtain ⟨k4, m4, _⟩ := okD_one k3 hsa a4
 refine ⟨o1, o2, ?_, fun k hk => ?_⟩
 ·have := block_sync (n := 0) k4 (sync_act _) rfl a5 (by omega)
  exact this.2
 ·have b5 := block_sync (n := k) k4 (sync_act _) rfl a5 (by omega)
  have b4 := block_write (n := k) k3 hsa a4 (by omega)
  have b3 := (block_sync (n := k) k2 (sync_act _) rfl a3 (by omega)).1
  have b2 := block_writes (wholeB l) (2 + g % 2 * 16) x1 x2 k1 hda a2 k (by omega)
  have b1 := (block_sync (n := k) hok (sync_act _) rfl a1 hk).1
  have e5 : blockD x k = blk x.1 k := by rw [blockD_ok o1 (by omega), b5.2]; rfl
  rw [← e5, b5.1, b4, b3, b2, b1]
  by_cases hk2 : k = g % 2
  ·rw [if_pos (by omega), if_pos hk2]
  ·rw [if_neg (by omega), if_neg hk2]
theorem blk_get {data : List UInt8} {n j : Nat} (h : 128 * n + j < data.length) (hj : j < 128) : (blk data n)[j]? = data[128 * n + j]? := by
 unfold blk
 rw [List.getElem?_take]
 rw [if_pos hj, List.getElem?_drop]
theorem genB_whole {x : Dk} {g : Nat} {l : List UInt8} (hlen : x.1.length = 128 * mny x) (hm : 34 < mny x) (hl : l.length ≤ 2048) (h : ∀ j, j < (wholeB l).length → blk x.1 (2 + g % 2 * 16 + j) = (wholeB l).getD j []) : genB x g l.length = l := by
 unfold genB
 apply List.ext_getElem?
 intro i
 rw [List.getElem?_take]
 by_cases hi : i < l.length
 ·rw [if_pos hi, List.getElem?_drop]
  have hj : i / 128 < (wholeB l).length := by rw [wholeB_len]; omega
  have hb := h (i / 128) hj
  have e1 : 128 * (2 + g % 2 * 16) + i = 128 * (2 + g % 2 * 16 + i / 128) + i % 128 := by omega
  rw [e1, ← blk_get (by omega) (by omega), hb]
  rw [List.getD, List.getElem?_eq_getElem hj, Option.getD_some, wholeB_get]
  unfold padB
  rw [List.getElem?_append_left (by rw [List.length_take, List.length_drop]; omega), List.getElem?_take, if_pos (by omega), List.getElem?_drop]
  congr 1
  omega
 ·rw [if_neg hi, List.getElem?_eq_none (by omega)]
theorem genB_same {x d : Dk} {g sz : Nat} (hx : x.1.length = d.1.length) (hlen : d.1.length = 128 * mny d) (hm : 34 < mny d) (hs : sz ≤ 2048) (h : ∀ k, k < 34 → blk x.1 k = blk d.1 k) : genB x g sz = genB d g sz := by
 unfold genB
 apply List.ext_getElem?
 intro i
 rw [List.getElem?_take, List.getElem?_take]
 by_cases hi : i < sz
 ·rw [if_pos hi, if_pos hi, List.getElem?_drop, List.getElem?_drop]
  have e1 : 128 * (2 + g % 2 * 16) + i = 128 * (2 + g % 2 * 16 + i / 128) + i % 128 := by omega
  rw [e1, ← blk_get (by omega) (by omega), ← blk_get (by omega) (by omega), h _ (by omega)]
 ·rw [if_neg hi, if_neg hi]
theorem lastS_same {x d : Dk} {n : Nat} (h : blk x.1 n = blk d.1 n) : lastS x n = lastS d n := by unfold lastS; rw [h]
theorem best_of2 {d : Dk} {gen size : Nat} (h1 : (lastS d (gen % 2)).1 ≤ gen) (h2 : lastS d ((gen + 1) % 2) = (gen + 1, size)) : bestS d = (gen + 1, size) := by
 unfold bestS laterS
 rcases (by omega : gen % 2 = 0 ∧ (gen + 1) % 2 = 1 ∨ gen % 2 = 1 ∧ (gen + 1) % 2 = 0) with ⟨e1, e2⟩ | ⟨e1, e2⟩
 ·rw [e1] at h1
  rw [e2] at h2
  rw [h2]
  by_cases hg : 0 < (lastS d 0).1
  ·rw [if_pos (show ((0, 0) : Nat × Nat).1 < (lastS d 0).1 from hg), if_pos (show (lastS d 0).1 < gen + 1 by omega)]
  ·rw [if_neg (show ¬ ((0, 0) : Nat × Nat).1 < (lastS d 0).1 from hg), if_pos (show 0 < gen + 1 by omega)]
 ·rw [e1] at h1
  rw [e2] at h2
  rw [h2, if_pos (show ((0, 0) : Nat × Nat).1 < gen + 1 by show 0 < gen + 1; omega), if_neg (show ¬ gen + 1 < (lastS d 1).1 by omega)]
theorem last_none {l : List Pu} (h : ∀ p ∈ l, 34 ≤ p.1) {k : Nat} (hk : k < 34) : lastP (k : Int) l = none := by
 induction l with
 | nil => rfl
 | cons p l ih =>
  unfold lastP
  rw [ih (fun q hq => h q (List.mem_cons_of_mem _ hq))]
  have := h p (List.mem_cons_self ..)
  simp only
  rw [if_neg (by omega)]
theorem block_low {d : Dk} (hok : okD d = true) (hm : 34 < mny d) (hw : ∀ p ∈ d.2.1, 34 ≤ p.1) {k : Nat} (hk : k < 34) : blockD d k = blk d.1 k := by
 rw [blockD_ok hok (by omega), last_none hw hk]; rfl
theorem commit_ok {d x : Dk} {g : Nat} {D : List Fl} (hok : okD d = true) (hm : 34 < mny d) (hw : ∀ p ∈ d.2.1, 34 ≤ p.1) (hc : chkF D (mny d) = 0) (hg : g + 1 < 4294967296) (hl : (lastS d (g % 2)).1 ≤ g) (h : onesD d (actsF (g + 1) (bytF D)) = some x) : okFs (x, g + 1, D, D) := by
 have hb : (bytF D).length ≤ 2048 := (chkF_may hc).2.2.2.2
 obtain ⟨o1, o2, o3, o4⟩ := acts_block hok hm (by omega) hb h
 have hS : (blockS (g + 1) ((bytF D).length : Nat)).2 = 0 := by rw [blockS_of (by omega) (by omega) (by omega)]
 have q1 : lastS x (g % 2) = lastS d (g % 2) := by
  apply lastS_same
  rw [o4 _ (by omega), if_neg (by omega), if_neg (by omega), block_low hok hm hw (by omega)]
 have q2 : lastS x ((g + 1) % 2) = (g + 1, (bytF D).length) := by
  unfold lastS
  rw [o4 _ (by omega), if_pos rfl, ofS_block hg hS]
  rw [if_pos rfl, Int.toNat_natCast]
 have hL : latestS x = (g + 1, (bytF D).length, 0) := latestS_of o1 (by omega) (by omega) (best_of2 (by rw [q1]; exact hl) q2)
 have hG : genB x (g + 1) (bytF D).length = bytF D := genB_whole (okD_len o1) (by omega) hb (fun j hj => by
  have hj' : j ≤ 15 := by rw [wholeB_len] at hj; omega
  rw [o4 _ (by omega), if_neg (by omega), if_pos (by omega), show 2 + (g + 1) % 2 * 16 + j - (2 + (g + 1) % 2 * 16) = j by omega])
 have hR := read_back hc
 refine ⟨by rw [hL], by rw [hL], (fun p hp => by have hp : p ∈ x.2.1 := hp; rw [o3] at hp; cases hp), ?_, ?_, ?_⟩
 ·show readE (genB x (g + 1) (latestS x).2.1) (mny x) = 0
  rw [hL, hG, o2]; exact hR.1
 ·show readL (genB x (g + 1) (latestS x).2.1) (mny x) = D
  rw [hL, hG, o2]; exact hR.2
 ·show chkF D (mny x) = 0
  rw [o2]; exact hc
theorem ok_same {f : Fsd} {d : Dk} {D : List Fl} (h : okFs f) (hok : okD d = true) (hlen : d.1.length = f.1.1.length) (hb : ∀ k, k < 34 → blk d.1 k = blk f.1.1 k) (hw : ∀ p ∈ d.2.1, 34 ≤ p.1) (hD : chkF D (mny f.1) = 0) : okFs (d, f.2.1, D, f.2.2.2) := by
 obtain ⟨h1, h2, h3, h4⟩ := okFs_disk h
 obtain ⟨s1, s2⟩ := okFs_size h
 have hm : mny d = mny f.1 := by unfold mny; rw [hlen]
 have hL : latestS d = latestS f.1 := by
  have e1 : bestS d = bestS f.1 := by unfold bestS; rw [lastS_same (hb 0 (by omega)), lastS_same (hb 1 (by omega))]
  unfold latestS
  rw [e1, hm, chk_ok hok, chk_ok h1]
 have hG : genB d f.2.1 (latestS f.1).2.1 = genB f.1 f.2.1 (latestS f.1).2.1 := genB_same hlen (okD_len h1) h2 s1 hb
 obtain ⟨c1, c2, c3, c4, c5, c6⟩ := h
 refine ⟨by show (latestS d).2.2 = 0; rw [hL]; exact c1, by show (latestS d).1 = _; rw [hL]; exact c2, hw, ?_, ?_, ?_⟩
 ·show readE (genB d f.2.1 (latestS d).2.1) (mny d) = 0
  rw [hL, hG, hm]; exact c4
 ·show readL (genB d f.2.1 (latestS d).2.1) (mny d) = f.2.2.2
  rw [hL, hG, hm]; exact c5
 ·show chkF D (mny d) = 0
  rw [hm]; exact hD
theorem kept_chk {f : Fsd} (h : okFs f) : chkF f.2.2.2 (mny f.1) = 0 := by
 rw [← h.2.2.2.2.1]
 exact (read_only h.2.2.2.1).1
theorem ofS_zero : ofS (List.replicate 128 0) = (0, 0, 8) := by kernel_rfl
theorem then_begin {s : Stp} {f : Fsd} : endW (thenW s (beginW f)) = if fsE f ≠ 0 then (fz, fsE f) else if (s (beginW f)).2 ≠ 0 then (fz, (s (beginW f)).2) else ((s (beginW f)).1.1, 0) := by
 by_cases h : fsE f = 0
 ·rw [thenW_val (show (beginW f).2.1 = 0 from h), if_neg (by rw [h]; decide)]
  rfl
 ·rw [thenW_err (show (beginW f).2.1 ≠ 0 from h), if_pos h]
  unfold endW
  rw [if_pos (show (beginW f).2.1 ≠ 0 from h)]
  rfl
theorem put_is (f : Fsd) (s : List UInt8) (i : Int) (b : List UInt8) : putFs f s i b = if fsE f ≠ 0 then (fz, fsE f) else if atE f s i ≠ 0 then (fz, atE f s i) else if (doD f.1 [(false, atN f s i, b)] 1).2 ≠ 0 then (fz, (doD f.1 [(false, atN f s i, b)] 1).2) else (((doD f.1 [(false, atN f s i, b)] 1).1, f.2), 0) := by
 unfold putFs
 rw [then_begin]
 by_cases h : fsE f ≠ 0
 ·rw [if_pos h, if_pos h]
 ·rw [if_neg h, if_neg h]
  by_cases h1 : atE f s i ≠ 0
  ·have e : putW s i b (beginW f) = (beginW f, atE f s i) := by unfold putW; rw [if_pos (show atE (beginW f).1 s i ≠ 0 from h1)]; rfl
   rw [e, if_pos h1, if_pos h1]
  ·have e : putW s i b (beginW f) = writeW (atN f s i) b (beginW f) := by unfold putW; rw [if_neg (show ¬ atE (beginW f).1 s i ≠ 0 from h1)]; rfl
   rw [e, if_neg h1]
   rfl
theorem turn_ok {f : Fsd} {l : List Fl} {e : Int} (h : (turnFs f l e).2 = 0) : fsE f = 0 ∧ e = 0 ∧ turnFs f l e = ((f.1, f.2.1, l, f.2.2.2), 0) := by
 unfold turnFs at *
 split at h
 ·rename_i h0; exact absurd h h0
 ·rename_i h0
  split at h
  ·rename_i h1; exact absurd h h1
  ·rename_i h1
   rw [if_neg h0, if_neg h1]
   exact ⟨Decidable.not_not.1 h0, Decidable.not_not.1 h1, rfl⟩
theorem turn_of {f : Fsd} {l : List Fl} (h : fsE f = 0) : turnFs f l 0 = ((f.1, f.2.1, l, f.2.2.2), 0) := by
 unfold turnFs
 rw [if_neg (by rw [h]; decide), if_neg (by decide)]
theorem turned_ok {f : Fsd} {l : List Fl} (h : okFs f) (hl : chkF l (mny f.1) = 0) : okFs (f.1, f.2.1, l, f.2.2.2) :=
 ok_same h (okFs_disk h).1 rfl (fun _ _ => rfl) h.2.2.1 hl
/-! ### the example -/
section
variable {x : List UInt8}
end
def contF (f : Fsd) (s : List UInt8) : List UInt8 := if sizeE f s ≠ 0 then [] else (bloL f s).flatMap fun n => nowD f.1 n.toNat
theorem okFs_may {f : Fsd} (h : okFs f) : mayF f.2.2.1 (mny f.1) := (chkF_may h.2.2.2.2.2).2
theorem ext_chk {l m : List Ex} {b : Int} (h : extP m b) (hs : l.Sublist m) : chkX l = 0 := (extP_sub hs h).1
theorem mem_sub {fs : List Fl} {g : Fl} (h : g ∈ fs) : g.2.Sublist (usedF fs) := by
 have h1 : [g].Sublist fs := List.singleton_sublist.2 h
 have := used_sub h1
 simpa [usedF] using this
theorem file_in {f : Fsd} (h : okFs f) {g : Fl} (hg : g ∈ f.2.2.1) : thereE f.2.2.1 g.1 = 0 ∧ getF f.2.2.1 g.1 = g.2 ∧ bloE f g.1 = 0 ∧ bloL f g.1 = blocksX g.2 ∧ sizeE f g.1 = 0 := by
 have hm := okFs_may h
 have h1 : isF f.2.2.1 g.1 = true := (isF_iff _ _).2 ⟨g.2, hg⟩
 have h2 : nameF g.1 = true := by
  have := hm.2.1.1 g hg
  unfold oneF at this
  simp only [Bool.and_eq_true] at this
  exact this.1.1
 have h3 := (thereE_in h.2.2.2.2.2 h2 h1).1
 have h4 : getF f.2.2.1 g.1 = g.2 := getF_mem hm.2.1.2 hg
 have h5 : chkX g.2 = 0 := ext_chk hm.2.2.1 (mem_sub hg)
 have h6 : bloE f g.1 = 0 := by unfold bloE; rw [if_neg (by rw [h3]; decide), h4, h5]
 have h7 : bloL f g.1 = blocksX g.2 := by unfold bloL blocksR; rw [if_neg (by rw [h3]; decide), h4, if_pos h5]
 refine ⟨h3, h4, h6, h7, ?_⟩
 unfold sizeE
 rw [if_neg (by rw [fsE_of h]; decide), h6]
theorem name_pos {f : Fsd} (h : okFs f) {g : Fl} (hg : g ∈ f.2.2.1) : g.1 ≠ [] := by
 have := (okFs_may h).2.1.1 g hg
 unfold oneF nameF at this
 simp only [Bool.and_eq_true, decide_eq_true_eq] at this
 intro e
 rw [e] at this
 simp at this
theorem size_there {f : Fsd} {s : List UInt8} (h : sizeE f s = 0) : okFs f ∧ ∃ l, (s, l) ∈ f.2.2.1 := by
 unfold sizeE at h
 by_cases h0 : fsE f = 0
 ·rw [if_neg (by rw [h0]; decide)] at h
  have hok := fsE_ok h0
  unfold bloE at h
  by_cases h1 : thereE f.2.2.1 s = 0
  ·exact ⟨hok, (isF_iff _ _).1 (thereE_okF h1).2.2⟩
  ·rw [if_pos h1] at h; exact absurd h h1
 ·rw [if_pos h0] at h; exact absurd h h0
theorem blocksX_mem {l : List Ex} {n : Int} (h : n ∈ blocksX l) : ∃ x ∈ l, x.1 ≤ n ∧ n < x.1 + x.2 := by
 obtain ⟨x, hx, hn⟩ := List.mem_flatMap.1 h
 refine ⟨x, hx, ?_⟩
 unfold blkX at hn
 obtain ⟨i, hi, rfl⟩ := List.mem_map.1 hn
 have := List.mem_range.1 hi
 omega
theorem blo_rng {f : Fsd} (h : okFs f) {g : Fl} (hg : g ∈ f.2.2.1) : ∀ n ∈ blocksX g.2, 34 ≤ n ∧ n < mny f.1 := by
 intro n hn
 obtain ⟨x, hx, h1, h2⟩ := blocksX_mem hn
 have := extP_all (okFs_may h).2.2.1 x ((mem_sub hg).subset hx)
 omega
theorem blo_rng2 {f : Fsd} {s : List UInt8} (h : sizeE f s = 0) : ∀ n ∈ bloL f s, 34 ≤ n ∧ n < mny f.1 := by
 obtain ⟨h0, l, hl⟩ := size_there h
 rw [(file_in h0 hl).2.2.2.1]
 exact blo_rng h0 hl
theorem size_ok {f : Fsd} {s : List UInt8} (h : sizeE f s = 0) : okFs f ∧ bloE f s = 0 ∧ sizeN f s = (bloL f s).length := by
 obtain ⟨h0, l, hl⟩ := size_there h
 refine ⟨h0, (file_in h0 hl).2.2.1, ?_⟩
 unfold sizeN
 rw [if_neg (by rw [fsE_of h0]; decide)]
theorem get_ok {f : Fsd} {s : List UInt8} (h : sizeE f s = 0) {i : Nat} (hi : i < (bloL f s).length) : atE f s i = 0 ∧ atN f s i = (bloL f s)[i] ∧ getE f s i = 0 ∧ getL f s i = nowD f.1 ((bloL f s)[i]).toNat := by
 obtain ⟨h0, h1, _⟩ := size_ok h
 have hr := blo_rng2 h _ (List.getElem_mem hi)
 have a1 : atE f s i = 0 := by unfold atE; rw [if_neg (by rw [h1]; decide), if_neg (by omega)]
 have a2 : atN f s i = (bloL f s)[i] := by unfold atN; rw [if_neg (by rw [a1]; decide)]; simp [List.getD, List.getElem?_eq_getElem hi]
 have a3 : readD f.1 ((bloL f s)[i]) = (nowD f.1 ((bloL f s)[i]).toNat, 0) := by
  unfold readD
  rw [if_neg (by rw [chk_ok (okFs_disk h0).1]; decide), if_neg (by omega)]
 refine ⟨a1, a2, ?_, ?_⟩
 ·unfold getE; rw [if_neg (by rw [fsE_of h0]; decide), if_neg (by rw [a1]; decide), a2, a3]
 ·unfold getL; rw [if_neg (by rw [fsE_of h0]; decide), if_neg (by rw [a1]; decide), a2, a3]
theorem now_len {d : Dk} {n : Nat} (h : okD d = true) (hn : n < mny d) : (nowD d n).length = 128 := by
 unfold nowD
 have h1 := (okD_iff d).1 h
 cases e : lastP (n : Int) d.2.1 with
 | some b =>
  have : ∀ (l : List Pu), (∀ p ∈ l, putE (mny d) p = 0) → ∀ b, lastP (n : Int) l = some b → b.length = 128 := by
   intro l
   induction l with
   | nil => intro _ b hb; cases hb
   | cons p l ih =>
    intro hp b hb
    unfold lastP at hb
    cases e2 : lastP (n : Int) l with
    | some b' => rw [e2] at hb; cases hb; exact ih (fun q hq => hp q (List.mem_cons_of_mem _ hq)) _ e2
    | none =>
     rw [e2] at hb
     simp only at hb
     split at hb
     ·cases hb; exact (putE_ok (hp p (List.mem_cons_self ..))).2.2
     ·cases hb
  exact this _ h1.2.2.2.2.2.1 b e
 | none =>
  show (blk d.1 n).length = 128
  unfold blk
  rw [List.length_take, List.length_drop, okD_len h]
  omega
theorem cont_same {f g : Fsd} {s : List UInt8} (h1 : sizeE f s = 0) (h2 : sizeE g s = 0) (hl : bloL g s = bloL f s) (hb : ∀ n ∈ bloL f s, nowD g.1 n.toNat = nowD f.1 n.toNat) : contF f s = contF g s := by
 unfold contF
 rw [if_neg (by rw [h1]; decide), if_neg (by rw [h2]; decide), hl]
 have : ∀ (l : List Int), (∀ n ∈ l, nowD g.1 n.toNat = nowD f.1 n.toNat) → (l.flatMap fun n => nowD f.1 n.toNat) = l.flatMap fun n => nowD g.1 n.toNat := by
  intro l
  induction l with
  | nil => intro _; rfl
  | cons a l ih => intro h; rw [List.flatMap_cons, List.flatMap_cons, h a (List.mem_cons_self ..), ih (fun n hn => h n (List.mem_cons_of_mem _ hn))]
 exact this _ hb
theorem blo_dir {f g : Fsd} (h : g.2.2.1 = f.2.2.1) (s : List UInt8) : bloL g s = bloL f s ∧ bloE g s = bloE f s := by
 unfold bloL bloE
 rw [h]
 exact ⟨rfl, rfl⟩
theorem size_dir {f g : Fsd} (h : g.2.2.1 = f.2.2.1) (hf : okFs f) (hg : okFs g) (s : List UInt8) : sizeE g s = sizeE f s := by
 unfold sizeE
 rw [fsE_of hf, fsE_of hg, (blo_dir h s).2]
theorem OwFs.bx {w : World} {base : Nat} {v : Value} {f : Fsd} (h : OwFs w base v f) : ∃ x : FsV, v = x.val ∧ RdX w x f ∧ OwFs w base x.val f := by
 obtain ⟨x, e, hx⟩ := h.form
 exact ⟨x, e, hx, e ▸ h⟩
theorem FsV.ext_val {x y : FsV} (h : x.val = y.val) : x = y := by
 obtain ⟨a1, n1, c1, a2, n2, c2, a3, n3, c3, g, a4, n4, c4, a5, n5, c5⟩ := x
 obtain ⟨b1, m1, d1, b2, m2, d2, b3, m3, d3, g', b4, m4, d4, b5, m5, d5⟩ := y
 injection h with h
 have e0 := congrArg (fun z : Array Value => z[0]!) h
 have e1 := congrArg (fun z : Array Value => z[1]!) h
 have e2 := congrArg (fun z : Array Value => z[2]!) h
 have e3 := congrArg (fun z : Array Value => z[3]!) h
 have e4 := congrArg (fun z : Array Value => z[4]!) h
 have e5 := congrArg (fun z : Array Value => z[5]!) h
 simp at e0 e1 e2 e3 e4 e5
 obtain ⟨rfl, rfl, rfl⟩ := e0
 obtain ⟨rfl, rfl, rfl⟩ := e1
 obtain ⟨rfl, rfl, rfl⟩ := e2
 have e3 : g = g' := by omega
 subst e3
 obtain ⟨rfl, rfl, rfl⟩ := e4
 obtain ⟨rfl, rfl, rfl⟩ := e5
 rfl
theorem FsB.of {w : World} {q : Nat} {x : FsV} (h : FsAt w q x) : FsB w q := ⟨_, _, _, _, _, _, h⟩
theorem OwFs.assign {w w0 : World} {base q : Nat} {y : FsV} {f : Fsd} (h : OwFs w base y.val f) (hq : FsB w q) (hb : Below w0.heap.size w0 w) (hq0 : w0.heap.size ≤ q) :
  OwFs (set6 w q y) base y.val f ∧ Below w0.heap.size w0 (set6 w q y) ∧ FsAt (set6 w q y) q y ∧ RdX (set6 w q y) y f ∧ w.grownBy (set6 w q y) (some q) := by
 obtain ⟨h1, h2, h3⟩ := h.stored hq hb hq0
 refine ⟨h1, h2, h3, ?_, (hq.put y).2⟩
 obtain ⟨x', ex', hx'⟩ := h1.form
 have e : x' = y := FsV.ext_val ex'.symm
 subst e
 exact hx'
theorem flat_len {d : Dk} (h : okD d = true) : ∀ l : List Int, (∀ n ∈ l, 34 ≤ n ∧ n < mny d) → (l.flatMap fun n => nowD d n.toNat).length = 128 * l.length
 | [], _ => rfl
 | n :: l, hl => by
  have h1 := hl n (List.mem_cons_self ..)
  rw [List.flatMap_cons, List.length_append, flat_len h l (fun m hm => hl m (List.mem_cons_of_mem _ hm)), now_len h (by omega), List.length_cons]
  omega
def Like (f g : Fsd) (but : List UInt8) : Prop := ∀ x ∈ f.2.2.1, x.1 ≠ but → sizeE f x.1 = 0 ∧ sizeE g x.1 = 0 ∧ contF f x.1 = contF g x.1
theorem blkX_nodup (x : Ex) (k : Nat) : (blkX x k).Nodup := by
 unfold blkX
 rw [List.nodup_iff_pairwise_ne, List.pairwise_map]
 exact List.Pairwise.imp (fun h => by omega) List.nodup_range
theorem blocksX_nodup {l : List Ex} (h : apX l = true) (hp : ∀ x ∈ l, 1 ≤ x.2) : (blocksX l).Nodup := by
 have h := (apX_pw l).1 h
 unfold blocksX
 rw [List.nodup_iff_pairwise_ne, List.pairwise_flatMap]
 refine ⟨fun x _ => blkX_nodup x _, ?_⟩
 refine List.Pairwise.imp ?_ h
 intro x y hm a ha b hb
 unfold blkX at ha hb
 obtain ⟨i, hi, rfl⟩ := List.mem_map.1 ha
 obtain ⟨j, hj, rfl⟩ := List.mem_map.1 hb
 have := List.mem_range.1 hi
 have := List.mem_range.1 hj
 unfold meetX at hm
 simp only [Bool.and_eq_false_iff, decide_eq_false_iff_not] at hm
 omega
theorem blocks_used (fs : List Fl) : blocksX (usedF fs) = fs.flatMap fun g => blocksX g.2 := by
 unfold blocksX usedF
 rw [List.flatMap_assoc]
theorem dir_nodup {f : Fsd} (h : okFs f) : (f.2.2.1.flatMap fun g => blocksX g.2).Nodup := by
 rw [← blocks_used]
 have hm := okFs_may h
 have := extP_parts.1 hm.2.2.1
 exact blocksX_nodup this.1 (fun x hx => (extP_all hm.2.2.1 x hx).2.1)
theorem file_nodup {f : Fsd} (h : okFs f) {g : Fl} (hg : g ∈ f.2.2.1) : (blocksX g.2).Nodup := by
 have := dir_nodup h
 rw [List.nodup_iff_pairwise_ne, List.pairwise_flatMap] at this
 exact this.1 g hg
theorem files_apart {f : Fsd} (h : okFs f) {g k : Fl} (hg : g ∈ f.2.2.1) (hk : k ∈ f.2.2.1) (hne : g.1 ≠ k.1) {n : Int} (h1 : n ∈ blocksX g.2) : n ∉ blocksX k.2 := by
 have hp := dir_nodup h
 rw [List.nodup_iff_pairwise_ne, List.pairwise_flatMap] at hp
 intro h2
 have hs : ∀ a ∈ f.2.2.1, ∀ b ∈ f.2.2.1, a.1 ≠ b.1 → ∀ x ∈ blocksX a.2, ∀ y ∈ blocksX b.2, x ≠ y := by
  have := hp.2
  intro a ha b hb hab
  obtain ⟨i, hi, rfl⟩ := List.mem_iff_getElem.1 ha
  obtain ⟨j, hj, rfl⟩ := List.mem_iff_getElem.1 hb
  have hpw := List.pairwise_iff_getElem.1 this
  rcases Nat.lt_trichotomy i j with hij | hij | hij
  ·exact hpw i j hi hj hij
  ·subst hij; exact absurd rfl hab
  ·intro x hx y hy e
   exact hpw j i hj hi hij y hy x hx e.symm
 exact hs g hg k hk hne n h1 n h2 rfl
theorem put_all {f : Fsd} {s : List UInt8} {i : Int} {b : List UInt8} (h : (putFs f s i b).2 = 0) :
  okFs f ∧ ∃ d', putFs f s i b = ((d', f.2), 0) ∧ atE f s i = 0 ∧ oneD f.1 (false, atN f s i, b) = some d' ∧ actE (mny f.1) (false, atN f s i, b) = 0 := by
 rw [put_is] at h ⊢
 by_cases h0 : fsE f = 0
 ·have hok := fsE_ok h0
  rw [if_neg (by rw [h0]; decide)] at h ⊢
  by_cases h1 : atE f s i = 0
  ·rw [if_neg (by rw [h1]; decide)] at h ⊢
   by_cases h2 : (doD f.1 [(false, atN f s i, b)] 1).2 = 0
   ·obtain ⟨a1, a2, a3, a4, x, a5, a6⟩ := doD_ok h2
    have a7 := a2 (false, atN f s i, b) (by simp)
    refine ⟨hok, x, ?_, h1, ?_, a7⟩
    ·rw [if_neg (by rw [h2]; decide), a6]
    ·have : onesD f.1 [(false, atN f s i, b)] = some x := a5
     rw [onesD_one] at this
     exact this
   ·rw [if_pos h2] at h; exact absurd h h2
  ·rw [if_pos h1] at h; exact absurd h h1
 ·rw [if_pos h0] at h; exact absurd h h0
theorem at_file {f : Fsd} {s : List UInt8} {i : Int} (h : okFs f) (ha : atE f s i = 0) : sizeE f s = 0 ∧ ∃ j : Nat, i = j ∧ ∃ hj : j < (bloL f s).length, atN f s i = (bloL f s)[j] := by
 have ha2 := ha
 unfold atE at ha
 by_cases h1 : bloE f s = 0
 ·have hs : sizeE f s = 0 := by unfold sizeE; rw [if_neg (by rw [fsE_of h]; decide), h1]
  rw [if_neg (by rw [h1]; decide)] at ha
  by_cases h2 : i < 0 ∨ ((bloL f s).length : Int) ≤ i
  ·rw [if_pos h2] at ha; cases ha
  ·refine ⟨hs, i.toNat, by omega, by omega, ?_⟩
   have e : i = (i.toNat : Int) := by omega
   have := (get_ok hs (show i.toNat < (bloL f s).length by omega)).2.1
   rw [← e] at this
   exact this
 ·rw [if_pos h1] at ha; exact absurd ha h1
theorem put_err {f : Fsd} {s : List UInt8} {i : Int} {b : List UInt8} (h : (putFs f s i b).2 ≠ 0) : (putFs f s i b).1 = fz := by
 rw [put_is] at h ⊢
 by_cases h0 : fsE f ≠ 0
 ·rw [if_pos h0]
 ·rw [if_neg h0] at h ⊢
  by_cases h1 : atE f s i ≠ 0
  ·rw [if_pos h1]
  ·rw [if_neg h1] at h ⊢
   by_cases h2 : (doD f.1 [(false, atN f s i, b)] 1).2 ≠ 0
   ·rw [if_pos h2]
   ·rw [if_neg h2] at h; exact absurd rfl h
theorem flat_set (F G : Int → List UInt8) (b : List UInt8) : ∀ (l : List Int) (j : Nat) (hj : j < l.length), l.Nodup → (∀ n ∈ l, (F n).length = 128) → (∀ n, G n = if n = l[j] then b else F n) →
  l.flatMap G = (l.flatMap F).take (128 * j) ++ (b ++ (l.flatMap F).drop (128 * j + 128))
 | n :: l, 0, hj, hn, hF, hG => by
  have h1 : G n = b := by rw [hG]; simp
  have h2 : l.flatMap G = l.flatMap F := by
   have hx : ∀ m ∈ l, G m = F m := by
    intro m hm
    rw [hG, if_neg]
    intro e
    have e : m = n := e
    subst e
    exact (List.nodup_cons.1 hn).1 hm
   clear hG hF hn hj h1
   induction l with
   | nil => rfl
   | cons a l ih => rw [List.flatMap_cons, List.flatMap_cons, hx a (List.mem_cons_self ..), ih (fun m hm => hx m (List.mem_cons_of_mem _ hm))]
  rw [List.flatMap_cons, h1, h2, List.flatMap_cons]
  have hl := hF n (List.mem_cons_self ..)
  rw [Nat.mul_zero, List.take_zero, Nat.zero_add, List.nil_append, ← hl, List.drop_left]
 | n :: l, j + 1, hj, hn, hF, hG => by
  have hj' : j < l.length := by simpa using hj
  have ih := flat_set F G b l j hj' (List.nodup_cons.1 hn).2 (fun m hm => hF m (List.mem_cons_of_mem _ hm)) (fun m => by rw [hG]; rfl)
  have h1 : G n = F n := by
   rw [hG, if_neg]
   intro e
   have e : n = l[j] := e
   exact (List.nodup_cons.1 hn).1 (e ▸ List.getElem_mem hj')
  have hl := hF n (List.mem_cons_self ..)
  rw [List.flatMap_cons, h1, ih, List.flatMap_cons]
  have e1 : 128 * (j + 1) = (F n).length + 128 * j := by omega
  have e2 : 128 * (j + 1) + 128 = (F n).length + (128 * j + 128) := by omega
  rw [e2, e1, List.take_length_add_append, List.drop_length_add_append, List.append_assoc]
theorem put_spec {f : Fsd} {s : List UInt8} {i : Int} {b : List UInt8} (h : (putFs f s i b).2 = 0) :
  okFs (putFs f s i b).1 ∧ (putFs f s i b).1.2 = f.2 ∧ b.length = 128 ∧ sizeE f s = 0 ∧ sizeE (putFs f s i b).1 s = 0 ∧ (∃ j : Nat, i = j ∧ 128 * j + 128 ≤ (contF f s).length ∧ contF (putFs f s i b).1 s = (contF f s).take (128 * j) ++ (b ++ (contF f s).drop (128 * j + 128))) ∧ getE (putFs f s i b).1 s i = 0 ∧ getL (putFs f s i b).1 s i = b ∧ Like f (putFs f s i b).1 s := by
 obtain ⟨hok, d', e, ha, ho, hact⟩ := put_all h
 rw [e]
 obtain ⟨hs, j, rfl, hj, hN⟩ := at_file hok ha
 obtain ⟨hd, hm34, _, _⟩ := okFs_disk hok
 obtain ⟨o1, o2, _⟩ := okD_one hd hact ho
 have hr := blo_rng2 hs _ (List.getElem_mem hj)
 have hb : b.length = 128 := by
  have : putE (mny f.1) (atN f s j, b) = 0 := by unfold actE at hact; simpa using hact
  exact (putE_ok this).2.2
 have hd1 : d'.1 = f.1.1 ∧ d'.2.1 = f.1.2.1 ++ [(atN f s j, b)] := by
  unfold oneD at ho
  split at ho
  ·cases ho
  ·simp only [Bool.false_eq_true, if_false] at ho; cases ho; exact ⟨rfl, rfl⟩
 have hokF : okFs (d', f.2.1, f.2.2.1, f.2.2.2) := ok_same hok o1 (by rw [hd1.1]) (fun k _ => by rw [hd1.1]) (by
  intro p hp
  rw [hd1.2] at hp
  rcases List.mem_append.1 hp with hp | hp
  ·exact hok.2.2.1 p hp
  ·rw [List.mem_singleton.1 hp]; show 34 ≤ atN f s j; rw [hN]; exact hr.1) hok.2.2.2.2.2
 have hokF : okFs (d', f.2) := hokF
 have hsF : sizeE (d', f.2) s = 0 := by rw [size_dir (f := f) (g := (d', f.2)) rfl hok hokF]; exact hs
 have hbl : bloL (d', f.2) s = bloL f s := (blo_dir (f := f) (g := (d', f.2)) rfl s).1
 have hnow : ∀ k : Nat, k < mny f.1 → nowD d' k = if (k : Int) = atN f s j then b else nowD f.1 k := by
  intro k hk
  have := block_write hd hact ho hk
  rw [blockD_now o1 (by omega), blockD_now hd hk] at this
  exact this
 obtain ⟨h0, l, hl⟩ := size_there hs
 have hfi := (file_in hok hl).2.2.2.1
 have hnd : (bloL f s).Nodup := by rw [hfi]; exact file_nodup hok hl
 refine ⟨hokF, rfl, hb, hs, hsF, ⟨j, rfl, ?_, ?_⟩, ?_, ?_, ?_⟩
 ·unfold contF
  rw [if_neg (by rw [hs]; decide), flat_len hd _ (blo_rng2 hs)]
  omega
 ·unfold contF
  rw [if_neg (by rw [hsF]; decide), if_neg (by rw [hs]; decide), hbl]
  have hG : ∀ n ∈ bloL f s, nowD d' n.toNat = if n = (bloL f s)[j] then b else nowD f.1 n.toNat := by
   intro n hn
   have := blo_rng2 hs n hn
   rw [hnow _ (by omega), hN]
   have e : ((n.toNat : Nat) : Int) = n := by omega
   rw [e]
  have hc : (bloL f s).flatMap (fun n => nowD d' n.toNat) = (bloL f s).flatMap (fun n => if n = (bloL f s)[j] then b else nowD f.1 n.toNat) := by
   have : ∀ (l : List Int), (∀ n ∈ l, n ∈ bloL f s) → l.flatMap (fun n => nowD d' n.toNat) = l.flatMap (fun n => if n = (bloL f s)[j] then b else nowD f.1 n.toNat) := by
    intro l
    induction l with
    | nil => intro _; rfl
    | cons a l ih => intro hx; rw [List.flatMap_cons, List.flatMap_cons, hG a (hx a (List.mem_cons_self ..)), ih (fun m hm => hx m (List.mem_cons_of_mem _ hm))]
   exact this _ (fun n hn => hn)
  show (bloL f s).flatMap (fun n => nowD d' n.toNat) = _
  rw [hc]
  exact flat_set (fun n => nowD f.1 n.toNat) (fun n => if n = (bloL f s)[j] then b else nowD f.1 n.toNat) b (bloL f s) j hj hnd (fun n hn => by have := blo_rng2 hs n hn; exact now_len hd (by omega)) (fun n => rfl)
 ·exact (get_ok hsF (i := j) (by rw [hbl]; exact hj)).2.2.1
 ·rw [(get_ok hsF (i := j) (by rw [hbl]; exact hj)).2.2.2]
  have e : (bloL (d', f.2) s)[j]'(by rw [hbl]; exact hj) = (bloL f s)[j] := by simp only [hbl]
  rw [e]
  show nowD d' _ = b
  rw [hnow _ (by omega), if_pos (by rw [hN]; omega)]
 ·intro g hg hne
  have hsg := (file_in hok hg).2.2.2.2
  have hsg' : sizeE (d', f.2) g.1 = 0 := by rw [size_dir (f := f) (g := (d', f.2)) rfl hok hokF]; exact hsg
  refine ⟨hsg, hsg', cont_same hsg hsg' (blo_dir (f := f) (g := (d', f.2)) rfl g.1).1 ?_⟩
  intro n hn
  have hrn := blo_rng2 hsg n hn
  show nowD d' n.toNat = _
  rw [hnow _ (by omega), if_neg]
  intro e
  rw [hN] at e
  have e : n = (bloL f s)[j] := by omega
  rw [(file_in hok hg).2.2.2.1] at hn
  have hin : n ∈ blocksX l := by
   have h9 : n ∈ bloL f s := e ▸ List.getElem_mem hj
   have hfi' : bloL f s = blocksX l := hfi
   rw [hfi'] at h9
   exact h9
  exact files_apart hok hg hl hne hn hin
end Go.Proofs.YtmeaiocohalphaaGreatDoor

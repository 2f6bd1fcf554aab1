/-
  The document's Twin and New.
-/
import Derived.Test.YthhlckdglifmeaaRv1
import Derived.Test.YthhlckdglifmeaaVn8
import Derived.Test.YthhlckdglifmeaaVn14
namespace Go.Proofs.Ythhlckdglifmeaa
open Go.RowKit
set_option linter.unusedVariables false
set_option linter.unusedSimpArgs false
set_option synthInstance.maxHeartbeats 400000
set_option synthInstance.maxSize 4000

theorem app_oneXv {α : Type} {sz : Nat} {ec : α → List Value} {t : TypeId} {P : Program} {ts : TypeId} {z : Value} {by_ : Nat} (hsz : ∀ x, (ec x).length = sz) (h0 : 0 < sz) (hts : P.underlying ts = some (.slice t)) (hinfo : (P.info? t).map (fun i => (i.zero, i.size, i.bytes)) = some (some z, sz, by_)) (hz : z.cells.size = sz)
    {w : World} {base : Nat} {v : Value} {l : List α} (h : OwG sz ec t w base v l) (hb : base ≤ w.heap.size) (hl : (l.length + 1) * by_ ≤ 140737488355328) (hl2 : l.length + 1 ≤ maxLen) (x : α) (hone : ∀ u ∈ ec x, u.oneCell' = true) (cs : Array Value) (hcs : cs.toList = ec x) :
    ∃ g c w', (Builtin.append_ #[ts, ts] ts #[v, .slice (some ⟨w.heap.size, 0, none⟩) 1 1]).run P (w.alloc (.cells cs t)) = .ok (.slice (some ⟨g, 0, none⟩) (l.length + 1) c) w' ∧
      OwG sz ec t w' base (.slice (some ⟨g, 0, none⟩) (l.length + 1) c) (l ++ [x]) ∧ Below base w w' ∧ KeepG t w w' := by
  obtain ⟨w8, ew8⟩ : ∃ w8, w8 = w.alloc (.cells cs t) := ⟨_, rfl⟩
  have hn8 : ∀ j u, (ec x)[j]? = some u → w8.cell? ((⟨w.heap.size, 0, none⟩ : Addr).add j) = some u := by
    intro j u hj
    have := World.news_of_block (w := w.alloc (.cells cs t)) (heap_alloc_new w _) j u (by rw [← hcs] at hj; simpa using hj)
    rw [ew8]; simpa using this
  rw [← ew8]
  have hb8 : Below w.heap.size w w8 := by rw [ew8]; exact (Below.refl _ _).alloc (Nat.le_refl _) _
  obtain ⟨i0, hi, hz0, hz1, hz2⟩ := info_parts hinfo
  have q2 : w8.ownsRow base t sz v l.length (l.flatMap ec) := own_carry h hb8
  obtain ⟨v9, w9, hrun9, hown9, hg9, _⟩ := run_append_own (P := P) w8 base ts ts t i0 z sz by_ hts hi hz0 hz1 hz2 hz h0 _ _ _ q2 ⟨w.heap.size, 0, none⟩ 1 1 (ec x) (by rw [hsz]; omega) hn8 hone hl2 hl (Nat.le_trans hb hb8.size)
  have hb9 : Below base w w9 := (hb8.mono hb).grown hg9 (Nat.le_trans hb hb8.size) fun k hk => (q2.lt k hk).1
  rcases hown9.2 with ⟨_, h1⟩ | ⟨g, cap, cur, h1, _⟩
  · exact absurd h1 (by omega)
  · subst h1
    refine ⟨g, cap, w9, hrun9, ?_, hb9, (KeepG.below hb8).trans (keepG_of (l := l) (ec := ec) q2 hg9)⟩
    have e : (l ++ [x]).flatMap ec = l.flatMap ec ++ ec x := by simp
    unfold OwG
    rw [e, List.length_append]
    exact hown9

theorem app_lvl {w : World} {base : Nat} {v : Value} {S : Lvs} (h : OwVw w base v S) (hb : base ≤ w.heap.size) (hl : S.length ≤ 100000) {a : Option Addr} {n c : Nat} {l : List Mta} (hx : OwM w base (.slice a n c) l) :
    ∃ g c' w', (Builtin.append_ #[22, 22] 22 #[v, .slice (some ⟨w.heap.size, 0, none⟩) 1 1]).run Try.prog (w.alloc (.cells #[.slice a n c] 26)) = .ok (.slice (some ⟨g, 0, none⟩) (S.length + 1) c') w' ∧
      OwVw w' base (.slice (some ⟨g, 0, none⟩) (S.length + 1) c') (S ++ [(.slice a n c, l)]) ∧ Below base w w' := by
  obtain ⟨g, c', w', h1, h2, h3, h4⟩ := app_oneXv (P := Try.prog) ecW_len (by decide) Try.underlying22 Try.infoW rfl h.1 hb (by omega) (by unfold maxLen; omega) (.slice a n c, l) (by intro u hu; simp [ecW] at hu; subst hu; rfl) #[.slice a n c] rfl
  refine ⟨g, c', w', h1, ⟨h2, fun p hp => ?_⟩, h3⟩
  rcases List.mem_append.1 hp with hp | hp
  · exact OwG.keep (h.2 p hp) h4 (by decide)
  · obtain rfl := List.mem_singleton.1 hp
    exact OwG.keep hx h4 (by decide)
theorem OwVw.set1v {w : World} {base B j : Nat} {v u : Value} {S : Lvs} (h : OwVw w base v S) (hB : B < base) : OwVw (w.setCell ⟨B, j, none⟩ u) base v S := ⟨OwG.set1v h.1 hB, fun p hp => OwG.set1v (h.2 p hp) hB⟩

set_option maxHeartbeats 4000000 in
set_option maxRecDepth 100000 in
theorem rtwin_vn (a : Option Addr) (n c : Nat) (R : Lvs) (nx sq : Int) (lg : List UInt8) (w : World) (hrd : RdVw w (.slice a n c) R) (hn : n ≤ 1000) (hT : (lvs R).flatten.length ≤ 100000) :
    Calls Try.prog 13 #[.agg #[.slice a n c, .int .i64 nx, .int .i64 sq, .string (bs lg)]] w fun e w' => ∃ a' c' S, e = .returned (.agg #[.slice a' n c', .int .i64 nx, .int .i64 sq, .string (bs lg)]) ∧ OwVw w' w.heap.size (.slice a' n c') S ∧ lvs S = lvs R ∧ ApW S ∧ Below w.heap.size w w' := by
  have HN := hide hrd.len
  have HR := hide hrd
  have HTF := hide hT
  obtain ⟨w1, hw1⟩ : ∃ w1, w1 = w.alloc (.cells #[.slice a n c, .int .i64 nx, .int .i64 sq, .string (bs lg)] 24) := ⟨_, rfl⟩
  have hb1 : Below w.heap.size w w1 := by rw [hw1]; exact (Below.refl _ _).alloc (Nat.le_refl _) _
  have hs1 : w1.heap.size = w.heap.size + 1 := by rw [hw1]; simp
  obtain ⟨w2, hw2⟩ : ∃ w2, w2 = w1.alloc (.cells #[.slice none 0 0, .int .i64 0, .int .i64 0, .string { data := #[] }] 24) := ⟨_, rfl⟩
  have hb2 : Below w1.heap.size w1 w2 := by rw [hw2]; exact (Below.refl _ _).alloc (Nat.le_refl _) _
  have hs2 : w2.heap.size = w.heap.size + 2 := by rw [hw2]; simp [hs1]
  obtain ⟨w4, hw4⟩ : ∃ w4, w4 = w2.alloc (.cells #[.slice none 0 0, .int .i64 nx, .int .i64 sq, .string (bs lg)] 24) := ⟨_, rfl⟩
  have hb4 : Below w2.heap.size w2 w4 := by rw [hw4]; exact (Below.refl _ _).alloc (Nat.le_refl _) _
  have hs4 : w4.heap.size = w.heap.size + 3 := by rw [hw4]; simp [hs2]
  have hV4 := (show VvAt w1 w.heap.size (.slice a n c) nx sq lg by rw [hw1]; exact VvAt.new w _ nx sq lg).carry hb2 |>.carry hb4
  have hZ4 := (show VvAt w2 (w.heap.size + 1) (.slice none 0 0) 0 0 [] by rw [hw2, ← hs1]; exact VvAt.new w1 _ 0 0 []).carry hb4
  have hC4 : VvAt w4 (w.heap.size + 2) (.slice none 0 0) nx sq lg := by rw [hw4, ← hs2]; exact VvAt.new w2 _ _ _ _
  have hB4 := (hb1.trans (hb2.mono hb1.size)).trans (hb4.mono (Nat.le_trans hb1.size hb2.size))
  have HC4 := hide hC4
  have HV4 := hide hV4
  have HZ4 := hide hZ4
  have HB4 := hide hB4
  have HS4 := hide hs4
  clear hb1 hb2 hb4 hs1 hs2 hs4 hC4 hV4 hZ4 hB4 hrd hT
  go_enter Try.func13, Try.ntmps13
  go_wp2_with fail
  rw [← hw1]
  rw [← hw2]
  rw [← hw4]
  clear hw1 hw2 hw4
  go_loopw [4] (fun i wr => ∃ (k : Nat) (S : Lvs) (av : Option Addr) (cv : Nat), k ≤ n ∧ i = .int .i64 k ∧ Hid (S.length = k ∧ lvs S = (lvs R).take k ∧ ApW S) ∧ Hid (OwVw wr (w.heap.size + 3) (.slice av k cv) S) ∧ Hid (VvAt wr (w.heap.size + 2) (.slice av k cv) nx sq lg) ∧ Hid (VvAt wr (w.heap.size + 1) (.slice none 0 0) 0 0 []) ∧ Hid (VvAt wr w.heap.size (.slice a n c) nx sq lg) ∧ Hid (w.heap.size + 3 ≤ wr.heap.size) ∧ Hid (Below w.heap.size w wr)) (fun i _ => n - (intOf i).toNat)
  case atStart => exact ⟨0, [], none, 0, Nat.zero_le _, rfl, hide ⟨rfl, by simp, List.Pairwise.nil⟩, hide (OwVw.nil _ _), HC4, HZ4, HV4, hide (Nat.le_of_eq HS4.out.symm), HB4⟩
  case round =>
    obtain ⟨k, S, av, cv, hk, rfl, hS, hO, hC, hZ, hV, hW, hB⟩ := hrel
    clear HC4 HZ4 HV4 HB4 HS4
    obtain ⟨v0, v1, v2, v3⟩ := hV.out.cells
    by_cases hlt : k < n
    · have hlt' : (k : Int) < n := by omega
      have hkl : k < R.length := by have := HN.out; omega
      obtain ⟨b, off, ax, nx', cx, rfl, q0, hRx, hnx⟩ := HR.out.cells hB.out k hkl
      have hx5 : (R[k]).2.length ≤ 100000 := by have := cntW_one hkl; have := HTF.out; omega
      have HTK := hide (show (lvs R).take (k + 1) = (lvs R).take k ++ [(R[k]).2] by rw [List.take_succ_eq_append_getElem (by rw [lvs_len]; exact hkl), lvs_get hkl])
      obtain ⟨X, hX⟩ : ∃ X, X = (R[k]).2 := ⟨_, rfl⟩
      rw [← hX] at hRx hnx HTK hx5
      clear hX
      obtain ⟨ao, no, co, w5, hno, hr5, o5, b5⟩ := app_metas (OwG.nil wr wr.heap.size) (Nat.le_refl _) (hRx.carry hB.out) (by simp only [List.length_nil]; omega)
      rw [List.nil_append] at hno o5
      have hbase := hW.out
      have hO5 := hO.out.carry b5
      have hw5 : w.heap.size + 3 ≤ w5.heap.size := Nat.le_trans hbase b5.size
      obtain ⟨g6, c6, w6, hr6, o6, b6⟩ := app_lvl hO5 hw5 (by have := hS.out.1; omega) (o5.mono hbase)
      have hAp : ApW (S ++ [(Value.slice ao no co, X)]) := List.pairwise_append.2 ⟨hS.out.2.2, List.pairwise_singleton _ _, fun p hp q hq gg h1 h2 => by
        obtain rfl := List.mem_singleton.1 hq
        have l1 := OwG.ltV (hO.out.2 p hp) h1
        have l2 := OwG.ltV o5 h2
        omega⟩
      have HS9 := hide (show (S ++ [(Value.slice ao no co, X)]).length = k + 1 ∧ lvs (S ++ [(Value.slice ao no co, X)]) = (lvs R).take (k + 1) ∧ ApW (S ++ [(Value.slice ao no co, X)]) from ⟨by simp [hS.out.1], by rw [HTK.out, ← hS.out.2.1]; simp [lvs], hAp⟩)
      have hSk := hS.out.1
      rw [hSk] at hr6 o6
      have hC5 := hC.out.carry b5
      obtain ⟨r0, r1, r2, r3⟩ := hC5.cells
      have hC6 := hC5.low b6 (by omega)
      have hV6 := (hV.out.carry b5).low b6 (by omega)
      have hZ6 := (hZ.out.carry b5).low b6 (by omega)
      have hB6 : Below w.heap.size w w6 := (hB.out.trans (b5.mono hB.out.size)).trans (b6.mono (by omega))
      obtain ⟨s0, s1, s2, s3⟩ := hC6.cells
      have f0 := hC6.fz 0
      have HC9 := hide (hC6.put0 (.slice (some ⟨g6, 0, none⟩) (k + 1) c6))
      have hV9 : VvAt (w6.setCell ⟨w.heap.size + 2, 0, none⟩ (.slice (some ⟨g6, 0, none⟩) (k + 1) c6)) w.heap.size (.slice (some ⟨b, off, none⟩) n c) nx sq lg := by
        unfold VvAt; rw [heap_setCell_other w6 ⟨w.heap.size + 2, 0, none⟩ w.heap.size _ (fun e : w.heap.size = w.heap.size + 2 => by omega)]; exact hV6
      have hZ9 : VvAt (w6.setCell ⟨w.heap.size + 2, 0, none⟩ (.slice (some ⟨g6, 0, none⟩) (k + 1) c6)) (w.heap.size + 1) (.slice none 0 0) 0 0 [] := by
        unfold VvAt; rw [heap_setCell_other w6 ⟨w.heap.size + 2, 0, none⟩ (w.heap.size + 1) _ (fun e : w.heap.size + 1 = w.heap.size + 2 => by omega)]; exact hZ6
      have HO9 := hide (OwVw.set1v (j := 0) (u := .slice (some ⟨g6, 0, none⟩) (k + 1) c6) o6 (show w.heap.size + 2 < w.heap.size + 3 by omega))
      have HB9 := hide (show Below w.heap.size w (w6.setCell ⟨w.heap.size + 2, 0, none⟩ (.slice (some ⟨g6, 0, none⟩) (k + 1) c6)) from belowX_set hB6 (by omega) _ _)
      have hw9 : w.heap.size + 3 ≤ (w6.setCell ⟨w.heap.size + 2, 0, none⟩ (.slice (some ⟨g6, 0, none⟩) (k + 1) c6)).heap.size := by simp; exact Nat.le_trans hw5 b6.size
      have HV9 := hide hV9
      have HZ9 := hide hZ9
      have HW9 := hide hw9
      obtain ⟨w9, hw9'⟩ : ∃ w9, w9 = w6.setCell ⟨w.heap.size + 2, 0, none⟩ (.slice (some ⟨g6, 0, none⟩) (k + 1) c6) := ⟨_, rfl⟩
      rw [← hw9'] at HC9 HV9 HZ9 HO9 HB9 HW9
      clear hV9 hZ9 hw9 hB6 hZ6 hV6 hC6 hC5 hAp o6 b6 o5 b5 hO5 hw5 hbase hno hS hO hC hZ hV hW hB HTK hRx hnx hSk
      go_wp2_with (first | (at_builtin; refine wpList_runappY rfl (.tmp 15) (.tmp 20) 26 rfl rfl rfl rfl hr5 ?_) | (at_builtin; refine wpList_runappY rfl (.tmp 23) (.tmp 25) 22 rfl rfl rfl rfl hr6 ?_) | fail)
      rw [← hw9']
      clear hw9'
      go_roundw
      case rel => exact ⟨k + 1, _, _, c6, by omega, by go_num, HS9, HO9, HC9, HZ9, HV9, HW9, HB9⟩
      case measure => simp only [intOf]; omega
    · have hd : decide ((k : Int) < n) = false := by simpa using (by omega : ¬ (k : Int) < n)
      obtain rfl : k = n := by omega
      have HE := hide (show lvs S = lvs R by rw [hS.out.2.1, List.take_of_length_le (by rw [lvs_len]; have := HN.out; omega)])
      have HA := hide hS.out.2.2
      obtain ⟨r0, r1, r2, r3⟩ := hC.out.cells
      obtain ⟨s0, s1, s2, s3⟩ := hZ.out.cells
      have f0 := hZ.out.fz 0
      have f1 := hZ.out.fz 1
      have f2 := hZ.out.fz 2
      have f3 := hZ.out.fz 3
      have hp9 : VvAt (set4v wr (w.heap.size + 1) (.slice av k cv) (.int .i64 nx) (.int .i64 sq) (.string (bs lg))) (w.heap.size + 1) (.slice av k cv) nx sq lg := VvAt.put (v' := .slice av k cv) (nx' := nx) (sq' := sq) (lg' := lg) hZ.out
      have HB9 := hide (show Below w.heap.size w (set4v wr (w.heap.size + 1) (.slice av k cv) (.int .i64 nx) (.int .i64 sq) (.string (bs lg))) from below_set4v hB.out (by omega) _ _ _ _)
      have HO9 := hide ((hO.out.set4v (show w.heap.size + 1 < w.heap.size + 3 by omega) (.slice av k cv) (.int .i64 nx) (.int .i64 sq) (.string (bs lg))).mono (show w.heap.size ≤ w.heap.size + 3 by omega))
      obtain ⟨w9, hw9⟩ : ∃ w9, w9 = set4v wr (w.heap.size + 1) (.slice av k cv) (.int .i64 nx) (.int .i64 sq) (.string (bs lg)) := ⟨_, rfl⟩
      rw [← hw9] at hp9 HB9 HO9
      unfold set4v at hw9
      obtain ⟨z0, z1, z2, z3⟩ := hp9.cells
      clear hp9 hS hO hC hZ hV hW hB
      go_wp2
      rw [← hw9]
      clear r0 r1 r2 r3 s0 s1 s2 s3 f0 f1 f2 f3
      refine bodyPost_ret (v := .agg #[.slice av k cv, .int .i64 nx, .int .i64 sq, .string (bs lg)]) ?_ rfl ⟨av, cv, S, rfl, HO9.out, HE.out, HA.out, HB9.out⟩
      clear hw9
      simp [results, Try.results13, go_sem, *]
end Go.Proofs.Ythhlckdglifmeaa

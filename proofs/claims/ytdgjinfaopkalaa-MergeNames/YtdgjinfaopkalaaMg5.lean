/-
  What merge.listSeen does: a range over a function.
-/
import Derived.Test.YtdgjinfaopkalaaMg4
namespace Go.Proofs.Ytdgjinfaopkalaa
open Go.RowKit Go.Shelf
set_option linter.unusedVariables false
set_option linter.unusedSimpArgs false
attribute [local go_sem] Oper.semAt_some

def takG (d : Bool) (l : List Ent) : List Ent := l.filter fun e => !e.2.2.1 || !d
theorem takG_hit (d : Bool) (pre : List Ent) (x : Ent) (h : (!x.2.2.1 || !d) = true) : takG d (pre ++ [x]) = takG d pre ++ [x] := by
  unfold takG; rw [List.filter_append]; simp [List.filter_cons, h]
theorem takG_miss (d : Bool) (pre : List Ent) (x : Ent) (h : (!x.2.2.1 || !d) = false) : takG d (pre ++ [x]) = takG d pre := by
  unfold takG; rw [List.filter_append]; simp [List.filter_cons, h]
theorem takG_len (d : Bool) (l : List Ent) : (takG d l).length ≤ l.length := List.length_filter_le _ _
theorem seeG_len (s : Int) : ∀ (k : List UInt8) (l : List Ent), (seeG s k l).length ≤ l.length
  | _, [] => by simp [seeG]
  | k, e :: l => by
    unfold seeG
    split
    · have := seeG_len s k l; simp; omega
    · have := seeG_len s e.1 l; simp; omega

set_option maxRecDepth 100000 in
set_option maxHeartbeats 2000000 in
theorem listSeen_mg (a : Option Addr) (n c : Nat) (l : List Ent) (s : Int) (d : Bool) (w : World) (hrd : RdN w (.slice a n c) l) (hn : n ≤ 1000000) :
    Calls Try.prog 25 #[.slice a n c, .int .i64 s, .bool d] w fun e w' => ∃ av nv cv, e = .returned (.slice av nv cv) ∧ OwN w' w.heap.size (.slice av nv cv) (lseG s d l) ∧ Below w.heap.size w w' := by
  have HSL := hide (show (seeG s [] l).length ≤ 1000000 from Nat.le_trans (seeG_len s [] l) (by have := hrd.len; omega))
  obtain ⟨i0, hi, hz0, hz1, hz2⟩ := info_parts Try.infoEn
  refine (callsIn_wide (n := 8)).1 ?_
  refine callsIn_of_wp_marks Try.func25 rfl trivial ?_ rfl
  simp only [Try.ntmps25, List.size_toArray, List.length_cons, List.length_nil, Nat.reduceAdd, Nat.reduceSub, Array.replicate_succ, Array.replicate_zero, List.push_toArray, List.append_toArray, List.nil_append, List.cons_append]
  gi_wp2_with fail
  refine ⟨trivial, ?_⟩
  refine (callsIn_wide.2 (seen_mg _ _ _ _ _)).mono ?_
  rintro e w' ⟨rfl, rfl⟩
  gi_wp2
  have bD := (((Boxed.new w 4 (.bool d)).alloc (.cells #[.slice none 0 0] 22)).alloc (.cells #[.slice a n c] 22)).alloc (.cells #[.int .i64 s] 3)
  have bO := ((Boxed.new (w.alloc (.cells #[.bool d] 4)) 22 (.slice none 0 0)).alloc (.cells #[.slice a n c] 22)).alloc (.cells #[.int .i64 s] 3)
  have bR := (Boxed.new ((w.alloc (.cells #[.bool d] 4)).alloc (.cells #[.slice none 0 0] 22)) 22 (.slice a n c)).alloc (.cells #[.int .i64 s] 3)
  have bQ := Boxed.new (((w.alloc (.cells #[.bool d] 4)).alloc (.cells #[.slice none 0 0] 22)).alloc (.cells #[.slice a n c] 22)) 3 (.int .i64 s)
  simp only [World.size_alloc] at bO bR bQ
  have hB0 : Below w.heap.size w ((((w.alloc (.cells #[.bool d] 4)).alloc (.cells #[.slice none 0 0] 22)).alloc (.cells #[.slice a n c] 22)).alloc (.cells #[.int .i64 s] 3)) := ((((Below.refl _ w).alloc (Nat.le_refl _) _).alloc (by simp) _).alloc (by simp; omega) _).alloc (by simp; omega) _
  have hsz : ((((w.alloc (.cells #[.bool d] 4)).alloc (.cells #[.slice none 0 0] 22)).alloc (.cells #[.slice a n c] 22)).alloc (.cells #[.int .i64 s] 3)).heap.size = w.heap.size + 4 := by simp
  obtain ⟨W0, hW0⟩ : ∃ W0, (((w.alloc (.cells #[.bool d] 4)).alloc (.cells #[.slice none 0 0] 22)).alloc (.cells #[.slice a n c] 22)).alloc (.cells #[.int .i64 s] 3) = W0 := ⟨_, rfl⟩
  rw [hW0] at bD bO bR bQ hB0 hsz ⊢
  clear hW0
  refine wpIn_rangeFunc_ownH (α := Ent) rfl (by decide) (gf := 43) (lb := #[.pointer (some ⟨w.heap.size + 1 + 1, 0, none⟩), .pointer (some ⟨w.heap.size + 1 + 1 + 1, 0, none⟩)]) rfl trivial (enters_of Try.func43 (by kernel_rfl) rfl)
    (encs := fun x => #[aggN x]) (Kp := KpG w.heap.size (w.heap.size + 1 + 1 + 1)) (S := fun ys => ys = seeG s [] l) (Sp := fun _ => True) (N := (seeG s [] l).length) (w0 := W0)
    (fun lo J Jx W hW hJ hJx hY h0 => seen1_mg Fence.wide _ trivial rfl (by decide) lo _ _ w a n c l s hrd hn J Jx W hJ hY (hB0.trans (hW.mono hB0.size)) ((hW.block _ bR.lt).trans bR) ((hW.block _ bQ.lt).trans bQ) h0)
    KpG.trans (KpG.put (by omega)) (Below.refl _ _) (fun _ => rfl)
    (fun pre W => ((∃ v, Boxed W (w.heap.size + 1) 22 v ∧ W.ownsRow w.heap.size 30 4 v (takG d pre).length ((takG d pre).flatMap ecN) ∧ True) ∧ Boxed W w.heap.size 4 (.bool d)) ∧ Below w.heap.size w W)
    (fun _ _ _ => False)
    (OwnFrom.and (OwnFrom.and (Own.from (holdsRow_own w.heap.size (w.heap.size + 1) 22 30 4 (fun pre => (takG d pre).length) (fun pre => (takG d pre).flatMap ecN) (fun _ _ => True)) _) (Own.from (boxed_own _ _ (fun _ => .bool d)) _)) (ownFrom_below (Nat.le_refl _) (by omega)))
    (fun _ _ _ _ _ hs _ _ => hs)
    ⟨⟨⟨_, bO, World.ownsRow_nil _ _ _ _, trivial⟩, bD⟩, hB0⟩
    (fun x a' W => ∃ Bx, w.heap.size + 1 < Bx ∧ EntAt W Bx x ∧ a' = { tmps := #[.slice a n c, .int .i64 s, .bool d, undef, undef, .pointer (some ⟨w.heap.size, 0, none⟩), .slice none 0 0, .pointer (some ⟨w.heap.size + 1, 0, none⟩), .pointer (some ⟨Bx, 0, none⟩), .slice a n c, .int .i64 s, .func (.func 43) #[] #[.pointer (some ⟨w.heap.size + 1 + 1, 0, none⟩), .pointer (some ⟨w.heap.size + 1 + 1 + 1, 0, none⟩)], aggN x, undef, undef, undef, undef, undef, undef, undef, undef, undef, undef, undef, undef], defers := [] })
    (fun x a' => fun _ X Y row hs hg hr => by
      obtain ⟨Bx, h1, h2, h3⟩ := hs
      exact ⟨Bx, h1, (Own.from (entAt_own Bx x) _) () X Y row h2 hg hr, h3⟩) ?assign ?body ?done ?stop
  case assign =>
    rintro lo pre x W K ⟨⟨⟨v, hv, hrow, _⟩, hbd⟩, hB⟩ hK
    unfold aggN
    gi_wp2
    exact hK _ _ ((KeepsOthers.alloc _ _).from _) ⟨(Below.refl _ W).alloc hB.size _, fun u hu => hu.alloc _⟩ ⟨⟨⟨v, hv.alloc _, hrow.alloc _, trivial⟩, hbd.alloc _⟩, hB.alloc hB.size _⟩ ⟨W.heap.size, hv.lt, EntAt.new W x, rfl⟩
  case body =>
    rintro lo pre x a' W hl hrx ⟨⟨⟨v, hv, hrow, _⟩, hbd⟩, hB⟩ ⟨Bx, hBx, hX, rfl⟩ hlt
    have hc := hv.cell
    have hcd := hbd.cell
    obtain ⟨x0, x1, x2, x3⟩ := hX.cells
    have hpl : (takG d pre).length ≤ 1000000 := by have := takG_len d pre; have := HSL.out; omega
    have H1 := takG_hit d pre x
    have H2 := takG_miss d pre x
    have HH := hide H1
    have HM := hide H2
    clear H1 H2 hlt
    obtain ⟨K, S, D, V⟩ := x
    simp only at x0 x1 x2 x3 HH HM
    cases d with
    | false =>
      cases D with
      | false =>
        have HNEW : ∀ j u, (ecN (K, S, false, V))[j]? = some u → (W.alloc (.cells #[.string (bs K), .int .i64 S, .bool false, .string (bs V)] 30)).cell? ((⟨W.heap.size, 0, none⟩ : Addr).add j) = some u := fun j u hj => by
          have := World.news_of_block (w := W.alloc (.cells #[.string (bs K), .int .i64 S, .bool false, .string (bs V)] 30)) (heap_alloc_new W _) j u (by simpa [ecN] using hj)
          simpa using this
        gi_wp2_with (gi_at_builtin; refine wpListIn_append_own _ rfl _ _ 22 rfl w.heap.size 30 i0 _ 4 48 Try.underlying22 hi hz0 hz1 hz2 rfl (by decide) _ _ _ rfl (hrow.alloc _) ⟨W.heap.size, 0, none⟩ 1 1 (ecN (K, S, false, V)) rfl rfl HNEW (ecN_one _) (by unfold maxLen; omega) (by omega) (by have := hB.size; simp; omega) ?_; intro v' w1 hown' hgrow _; obtain ⟨g', cap', rfl⟩ := ownsRow_succ hown'; obtain ⟨hv1, hv2, hr2, hk2, hb2⟩ := hv.appended (by decide) hrow hB.size (by omega) hown' hgrow; have hc1 := hv1.cell; have hf1 := hv1.frozen)
        exact ⟨hk2.from _, ⟨hb2, fun u hu => ((hu.alloc _).kept hgrow (hu.not_row (by decide) hrow)).other (by omega) _⟩, ⟨⟨_, hv2, by rw [HH.out rfl, List.length_append, List.flatMap_append, List.flatMap_cons, List.flatMap_nil, List.append_nil]; exact hr2, trivial⟩, ((hbd.alloc _).kept hgrow (hbd.not_row (by decide) hrow)).other (by omega) _⟩, hB.trans hb2⟩
      | true =>
        have HNEW : ∀ j u, (ecN (K, S, true, V))[j]? = some u → (W.alloc (.cells #[.string (bs K), .int .i64 S, .bool true, .string (bs V)] 30)).cell? ((⟨W.heap.size, 0, none⟩ : Addr).add j) = some u := fun j u hj => by
          have := World.news_of_block (w := W.alloc (.cells #[.string (bs K), .int .i64 S, .bool true, .string (bs V)] 30)) (heap_alloc_new W _) j u (by simpa [ecN] using hj)
          simpa using this
        gi_wp2_with (gi_at_builtin; refine wpListIn_append_own _ rfl _ _ 22 rfl w.heap.size 30 i0 _ 4 48 Try.underlying22 hi hz0 hz1 hz2 rfl (by decide) _ _ _ rfl (hrow.alloc _) ⟨W.heap.size, 0, none⟩ 1 1 (ecN (K, S, true, V)) rfl rfl HNEW (ecN_one _) (by unfold maxLen; omega) (by omega) (by have := hB.size; simp; omega) ?_; intro v' w1 hown' hgrow _; obtain ⟨g', cap', rfl⟩ := ownsRow_succ hown'; obtain ⟨hv1, hv2, hr2, hk2, hb2⟩ := hv.appended (by decide) hrow hB.size (by omega) hown' hgrow; have hc1 := hv1.cell; have hf1 := hv1.frozen)
        exact ⟨hk2.from _, ⟨hb2, fun u hu => ((hu.alloc _).kept hgrow (hu.not_row (by decide) hrow)).other (by omega) _⟩, ⟨⟨_, hv2, by rw [HH.out rfl, List.length_append, List.flatMap_append, List.flatMap_cons, List.flatMap_nil, List.append_nil]; exact hr2, trivial⟩, ((hbd.alloc _).kept hgrow (hbd.not_row (by decide) hrow)).other (by omega) _⟩, hB.trans hb2⟩
    | true =>
      cases D with
      | false =>
        have HNEW : ∀ j u, (ecN (K, S, false, V))[j]? = some u → (W.alloc (.cells #[.string (bs K), .int .i64 S, .bool false, .string (bs V)] 30)).cell? ((⟨W.heap.size, 0, none⟩ : Addr).add j) = some u := fun j u hj => by
          have := World.news_of_block (w := W.alloc (.cells #[.string (bs K), .int .i64 S, .bool false, .string (bs V)] 30)) (heap_alloc_new W _) j u (by simpa [ecN] using hj)
          simpa using this
        gi_wp2_with (gi_at_builtin; refine wpListIn_append_own _ rfl _ _ 22 rfl w.heap.size 30 i0 _ 4 48 Try.underlying22 hi hz0 hz1 hz2 rfl (by decide) _ _ _ rfl (hrow.alloc _) ⟨W.heap.size, 0, none⟩ 1 1 (ecN (K, S, false, V)) rfl rfl HNEW (ecN_one _) (by unfold maxLen; omega) (by omega) (by have := hB.size; simp; omega) ?_; intro v' w1 hown' hgrow _; obtain ⟨g', cap', rfl⟩ := ownsRow_succ hown'; obtain ⟨hv1, hv2, hr2, hk2, hb2⟩ := hv.appended (by decide) hrow hB.size (by omega) hown' hgrow; have hc1 := hv1.cell; have hf1 := hv1.frozen)
        exact ⟨hk2.from _, ⟨hb2, fun u hu => ((hu.alloc _).kept hgrow (hu.not_row (by decide) hrow)).other (by omega) _⟩, ⟨⟨_, hv2, by rw [HH.out rfl, List.length_append, List.flatMap_append, List.flatMap_cons, List.flatMap_nil, List.append_nil]; exact hr2, trivial⟩, ((hbd.alloc _).kept hgrow (hbd.not_row (by decide) hrow)).other (by omega) _⟩, hB.trans hb2⟩
      | true =>
        gi_wp2
        exact ⟨KeepsFrom.refl _ _, ⟨Below.refl _ _, fun u hu => hu⟩, ⟨⟨v, hv, by rw [HM.out rfl]; exact hrow, trivial⟩, hbd⟩, hB⟩
  case done =>
    rintro D ys W hD rfl ⟨⟨⟨v, hv, hrow, _⟩, hbd⟩, hB⟩ hK
    have hc := hv.cell
    obtain ⟨av, cv, rfl⟩ := OwG.form (ec := ecN) (sz := 4) (t := 30) (l := takG d (seeG s [] l)) hrow
    gi_wp2
    refine ⟨by simp, .inl ⟨_, _, rfl, run_takeDeferred hK, ?_⟩⟩
    exact ⟨_, results_tmp rfl _ _ _, _, _, _, rfl, ownsRow_putObj hrow _ hK rfl, hB.trans (belowK_b (w := w) (Nat.le_refl _) W D _ _ (by omega) hK rfl rfl)⟩
  case stop =>
    rintro D c pre W _ _ h _
    exact h.elim
end Go.Proofs.Ytdgjinfaopkalaa

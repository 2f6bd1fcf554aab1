/-
  What is seen of two rows as one is, of each key, the newest of what is seen of them. No program is named here.
-/
import Derived.Test.YtdgjinfaopkalaaMathMg4
namespace Go.Proofs.Ytdgjinfaopkalaa
open Go.RowKit
set_option linter.unusedVariables false
set_option linter.unusedSimpArgs false

def fndG (l : List Ent) (k : List UInt8) : Option Ent := l.find? fun e => decide (e.1 = k)
theorem lse_all {l : List Ent} (h : okM l) (s : Int) : lseG s false l = l.filter (visG l s) := by
  rw [lse_vis h]
  congr 1
  funext e
  simp
theorem vis_iff {l : List Ent} {s : Int} {e : Ent} : visG l s e = true ↔ seenM l e.1 s = some e := by
  unfold visG; rw [decide_eq_true_iff]
theorem mem_lse {l : List Ent} (h : okM l) {s : Int} {e : Ent} : e ∈ lseG s false l ↔ seenM l e.1 s = some e := by
  rw [lse_all h, List.mem_filter, vis_iff]
  exact ⟨fun q => q.2, fun q => ⟨(seen_some q).1, q⟩⟩
theorem fnd_lse {l : List Ent} (h : okM l) (s : Int) (k : List UInt8) : fndG (lseG s false l) k = seenM l k s := by
  unfold fndG
  cases f : (lseG s false l).find? (fun e => decide (e.1 = k)) with
  | some y =>
    have y1 : y.1 = k := by simpa using List.find?_some f
    have y2 := (mem_lse h).1 (List.mem_of_find?_eq_some f)
    rw [y1] at y2
    exact y2.symm
  | none =>
    cases q : seenM l k s with
    | none => rfl
    | some x =>
      obtain ⟨h1, h2, h3⟩ := seen_some q
      rw [List.find?_eq_none] at f
      exact absurd (decide_eq_true h2) (f x ((mem_lse h).2 (h2 ▸ q)))
theorem seen_new {l : List Ent} (h : OrdG l) {k : List UInt8} {s : Int} {e : Ent} (q : seenM l k s = some e) : ∀ x ∈ l, x.1 = k → x.2.1 ≤ s → x.2.1 ≤ e.2.1 := fun x hx hk hs => by
  rcases seen_first h q hx hk hs with rfl | r
  · exact Int.le_refl _
  · rcases ahd_iff.1 r with r | ⟨_, r⟩
    · rw [(seen_some q).2.1, hk, ltS_irrefl] at r; cases r
    · omega
theorem seen_newest {l : List Ent} (h : OrdG l) {k : List UInt8} {s : Int} {e : Ent} (he : e ∈ l) (hk : e.1 = k) (hs : e.2.1 ≤ s) (hn : ∀ x ∈ l, x.1 = k → x.2.1 ≤ s → x.2.1 ≤ e.2.1) : seenM l k s = some e := by
  subst hk
  refine seen_by h he hs fun x hx hk hs => .inr ?_
  cases q : ahdM x e with
  | false => rfl
  | true =>
    have := hn x hx hk hs
    rcases ahd_iff.1 q with r | ⟨_, r⟩
    · rw [hk, ltS_irrefl] at r; cases r
    · omega
theorem seen_none {l : List Ent} {k : List UInt8} {s : Int} (q : seenM l k s = none) : ∀ x ∈ l, x.1 = k → ¬ x.2.1 ≤ s := fun x hx hk hs => by
  obtain ⟨y, hy⟩ := seen_is hx hk hs
  rw [q] at hy; cases hy
def nwG : Option Ent → Option Ent → Option Ent
  | none, o => o
  | some e, none => some e
  | some e, some f => if e.2.1 < f.2.1 then some f else some e
theorem nw_two (e f : Ent) : nwG (some e) (some f) = if e.2.1 < f.2.1 then some f else some e := rfl
theorem nw_some (e : Ent) (o : Option Ent) : ∃ x, nwG (some e) o = some x := by
  cases o with
  | none => exact ⟨e, rfl⟩
  | some f =>
    rw [nw_two]
    by_cases c : e.2.1 < f.2.1
    · exact ⟨f, if_pos c⟩
    · exact ⟨e, if_neg c⟩
theorem seen_two {M A B : List Ent} (hM : OrdG M) (hA : OrdG A) (hB : OrdG B) (p : M.Perm (A ++ B)) (k : List UInt8) (s : Int) : seenM M k s = nwG (seenM A k s) (seenM B k s) := by
  have hm : ∀ x, x ∈ M ↔ x ∈ A ∨ x ∈ B := fun x => by rw [p.mem_iff, List.mem_append]
  cases qa : seenM A k s with
  | none =>
    cases qb : seenM B k s with
    | none =>
      cases q : seenM M k s with
      | none => rfl
      | some e =>
        obtain ⟨h1, h2, h3⟩ := seen_some q
        rcases (hm e).1 h1 with h | h
        · exact absurd h3 (seen_none qa e h h2)
        · exact absurd h3 (seen_none qb e h h2)
    | some f =>
      obtain ⟨h1, h2, h3⟩ := seen_some qb
      refine seen_newest hM ((hm f).2 (.inr h1)) h2 h3 fun x hx hk hs => ?_
      rcases (hm x).1 hx with h | h
      · exact absurd hs (seen_none qa x h hk)
      · exact seen_new hB qb x h hk hs
  | some e =>
    obtain ⟨e1, e2, e3⟩ := seen_some qa
    cases qb : seenM B k s with
    | none =>
      refine seen_newest hM ((hm e).2 (.inl e1)) e2 e3 fun x hx hk hs => ?_
      rcases (hm x).1 hx with h | h
      · exact seen_new hA qa x h hk hs
      · exact absurd hs (seen_none qb x h hk)
    | some f =>
      obtain ⟨h1, h2, h3⟩ := seen_some qb
      rw [nw_two]
      by_cases c : e.2.1 < f.2.1
      · rw [if_pos c]
        refine seen_newest hM ((hm f).2 (.inr h1)) h2 h3 fun x hx hk hs => ?_
        rcases (hm x).1 hx with h | h
        · have := seen_new hA qa x h hk hs; omega
        · exact seen_new hB qb x h hk hs
      · rw [if_neg c]
        refine seen_newest hM ((hm e).2 (.inl e1)) e2 e3 fun x hx hk hs => ?_
        rcases (hm x).1 hx with h | h
        · exact seen_new hA qa x h hk hs
        · have := seen_new hB qb x h hk hs; omega
theorem lse_nodup {l : List Ent} (h : okM l) (s : Int) : ((lseG s false l).map Prod.fst).Nodup := by
  rw [lse_all h]
  unfold List.Nodup
  rw [List.pairwise_map]
  refine (h.2.filter (visG l s)).imp_of_mem fun {a b} ha hb hab e => ?_
  have := vis_one (List.mem_filter.1 ha).2 (List.mem_filter.1 hb).2 e
  rw [this, ahd_irr] at hab
  cases hab
theorem mem_key {l : List Ent} (h : okM l) {s : Int} {k : List UInt8} : k ∈ (lseG s false l).map Prod.fst ↔ ∃ e, seenM l k s = some e := by
  rw [List.mem_map]
  constructor
  · rintro ⟨e, he, rfl⟩
    exact ⟨e, (mem_lse h).1 he⟩
  · rintro ⟨e, he⟩
    have := (seen_some he).2.1
    exact ⟨e, (mem_lse h).2 (this ▸ he), this⟩
theorem seen_many {M A B : List Ent} (hM : okM M) (hA : okM A) (hB : okM B) (p : M.Perm (A ++ B)) (s : Int) :
    (lseG s false M).length = (lseG s false B).length + ((lseG s false A).filter fun e => (seenM B e.1 s).isNone).length := by
  have hp : ((lseG s false M).map Prod.fst).Perm ((lseG s false B).map Prod.fst ++ ((lseG s false A).filter fun e => (seenM B e.1 s).isNone).map Prod.fst) := by
    refine (List.perm_ext_iff_of_nodup (lse_nodup hM s) ?_).2 fun k => ?_
    · rw [List.nodup_append]
      refine ⟨lse_nodup hB s, (lse_nodup hA s).sublist ((List.filter_sublist).map _), fun a ha b hb e => ?_⟩
      obtain ⟨x, hx⟩ := (mem_key hB).1 ha
      obtain ⟨y, hy, rfl⟩ := List.mem_map.1 hb
      have := (List.mem_filter.1 hy).2
      rw [← e, hx] at this
      cases this
    · rw [List.mem_append, mem_key hM, mem_key hB, seen_two hM.2 hA.2 hB.2 p]
      constructor
      · rintro ⟨e, he⟩
        cases qb : seenM B k s with
        | some f => exact .inl ⟨f, rfl⟩
        | none =>
          cases qa : seenM A k s with
          | none => rw [qa, qb] at he; cases he
          | some x =>
            have hk := (seen_some qa).2.1
            exact .inr (List.mem_map.2 ⟨x, List.mem_filter.2 ⟨(mem_lse hA).2 (hk ▸ qa), by rw [hk, qb]; rfl⟩, hk⟩)
      · rintro (⟨f, hf⟩ | h)
        · rw [hf]
          cases seenM A k s with
          | none => exact ⟨f, rfl⟩
          | some e => exact nw_some _ _
        · obtain ⟨x, hx, rfl⟩ := List.mem_map.1 h
          have := (mem_lse hA).1 (List.mem_filter.1 hx).1
          rw [this]
          exact nw_some _ _
  have := hp.length_eq
  simpa using this
end Go.Proofs.Ytdgjinfaopkalaa

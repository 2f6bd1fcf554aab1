/-
  What super's lasting and Latest do.
-/
import Derived.Test.YtabaomacfijppaaGreatRDo
import Derived.Test.YtabaomacfijppaaGreatMathDk
import Derived.Test.YtabaomacfijppaaGreatL2c
import Derived.Test.YtabaomacfijppaaGreatCut
import Derived.Test.YtabaomacfijppaaGreatMathFi3
import Derived.Test.YtabaomacfijppaaGreatRLast
import Derived.Test.YtabaomacfijppaaGreatRmKit
namespace Go.Proofs.YtabaomacfijppaaGreat
open Go.RowKit
set_option linter.unusedVariables false
set_option linter.unusedSimpArgs false

def Turned (w w' : World) : Prop := w.heap.size ≤ w'.heap.size ∧ (∀ (i : Nat) cs t fr, w.heap[i]? = some (.cells cs t fr) → t ≠ 5 → w'.heap[i]? = some (.cells cs t fr)) ∧
  ∀ (base g n c : Nat) (l : List UInt8), OwB w base (.slice (some ⟨g, 0, none⟩) n c) l → ∃ l', OwB w' base (.slice (some ⟨g, 0, none⟩) n c) l'
theorem Turned.refl (w : World) : Turned w w := ⟨Nat.le_refl _, fun _ _ _ _ h _ => h, fun _ _ _ _ l h => ⟨l, h⟩⟩
theorem Turned.trans {a b c : World} (h : Turned a b) (k : Turned b c) : Turned a c :=
  ⟨Nat.le_trans h.1 k.1, fun i cs t fr hi ht => k.2.1 i cs t fr (h.2.1 i cs t fr hi ht) ht, fun base g n cc l hO => by
    obtain ⟨l', h'⟩ := h.2.2 base g n cc l hO
    exact k.2.2 base g n cc l' h'⟩
theorem Turned.of_below {a b : World} (h : Below a.heap.size a b) : Turned a b :=
  ⟨h.size, fun i cs t fr hi _ => keeps_block _ _ _ _ hi h, fun base g n c l hO => ⟨l, hO.carry h⟩⟩
theorem Turned.set {w : World} {base g n c : Nat} {l : List UInt8} (h : OwB w base (.slice (some ⟨g, 0, none⟩) n c) l) (j : Nat) (b : UInt8) : Turned w (w.setCell ⟨g, j, none⟩ (.int .u8 b.toNat)) := by
  have hg := (h.stored j b).2
  refine ⟨hg.size, fun i cs t fr hi ht => ?_, fun base' g' n' c' l' hO => ?_⟩
  · refine (hg.block i (Array.getElem?_eq_some_iff.1 hi).1 fun e => ?_).trans hi
    cases e
    obtain ⟨cs', hc⟩ := row_block h g rfl
    rw [hi] at hc
    cases hc
    exact ht rfl
  · by_cases e : g' = g
    · subst e
      exact ⟨_, (hO.stored j b).1⟩
    · exact ⟨l', World.ownsRow.kept hO hg (.inr (by simp [Value.ownBlock]; omega))⟩
theorem OwB.turned {w w' : World} {base : Nat} {v : Value} {l : List UInt8} (h : OwB w base v l) (hT : Turned w w') : ∃ l', OwB w' base v l' := by
  rcases id h with ⟨_, ⟨rfl, hn⟩ | ⟨g, cap, cur, rfl, _⟩⟩
  · exact ⟨[], World.ownsRow_nil _ _ _ _⟩
  · exact hT.2.2 _ _ _ _ _ h
theorem OwB.len' {w : World} {base n c : Nat} {a : Option Addr} {l : List UInt8} (h : OwB w base (.slice a n c) l) : n = l.length := by
  obtain ⟨a, c', e⟩ := h.form
  cases e; rfl
theorem own_keptU {w w' : World} {base : Nat} {e : TypeId} {s : Nat} {v : Value} {n : Nat} {xs : List Value} (h : w.ownsRow base e s v n xs) (hT : Turned w w') (he : e ≠ 5) : w'.ownsRow base e s v n xs := by
  refine ⟨h.1, ?_⟩
  rcases h.2 with h | ⟨g, cap, cur, rfl, h1, h2, h3⟩
  · exact .inl h
  · exact .inr ⟨g, cap, cur, rfl, h1, hT.2.1 _ _ _ _ h2 he, h3⟩
theorem turned_z {w w' : World} {base : Nat} (hT : Turned w w') : ∀ z : List (Pu × Value), (∀ p ∈ z, OwB w base p.2 p.1.2) → ∃ z' : List (Pu × Value), cellsW z' = cellsW z ∧ z'.length = z.length ∧ ∀ p ∈ z', OwB w' base p.2 p.1.2
  | [], _ => ⟨[], rfl, rfl, by simp⟩
  | p :: z, h => by
    obtain ⟨z', h1, h2, h3⟩ := turned_z hT z (fun q hq => h q (List.mem_cons_of_mem _ hq))
    obtain ⟨l', hl⟩ := (h p List.mem_cons_self).turned hT
    refine ⟨((p.1.1, l'), p.2) :: z', ?_, by simp [h2], fun q hq => ?_⟩
    · show [Value.int .i64 p.1.1, p.2] ++ cellsW z' = [Value.int .i64 p.1.1, p.2] ++ cellsW z
      rw [h1]
    · rcases List.mem_cons.1 hq with rfl | hq
      · exact hl
      · exact h3 q hq
theorem turned_za {w w' : World} {base : Nat} (hT : Turned w w') : ∀ z : List (Ac × Value), (∀ p ∈ z, OwB w base p.2 p.1.2.2) → ∃ z' : List (Ac × Value), cellsA z' = cellsA z ∧ z'.length = z.length ∧ ∀ p ∈ z', OwB w' base p.2 p.1.2.2
  | [], _ => ⟨[], rfl, rfl, by simp⟩
  | p :: z, h => by
    obtain ⟨z', h1, h2, h3⟩ := turned_za hT z (fun q hq => h q (List.mem_cons_of_mem _ hq))
    obtain ⟨l', hl⟩ := (h p List.mem_cons_self).turned hT
    refine ⟨((p.1.1, p.1.2.1, l'), p.2) :: z', ?_, by simp [h2], fun q hq => ?_⟩
    · show [Value.bool p.1.1, .int .i64 p.1.2.1, p.2] ++ cellsA z' = [Value.bool p.1.1, .int .i64 p.1.2.1, p.2] ++ cellsA z
      rw [h1]
    · rcases List.mem_cons.1 hq with rfl | hq
      · exact hl
      · exact h3 q hq
theorem OwD.turned {w w' : World} {base : Nat} {v : Value} {d : Dk} (h : OwD w base v d) (hT : Turned w w') : ∃ d', OwD w' base v d' := by
  obtain ⟨x, y, z, rfl, h1, ⟨zy, e1, hy, hy2⟩, ⟨zz, e2, hz, hz2⟩⟩ := h
  obtain ⟨l1, g1⟩ := h1.turned hT
  obtain ⟨zy', q1, q2, q3⟩ := turned_z hT zy hy2
  obtain ⟨zz', r1, r2, r3⟩ := turned_za hT zz hz2
  refine ⟨(l1, zy'.map (·.1), zz'.map (·.1)), x, y, z, rfl, g1, ⟨zy', rfl, ?_, q3⟩, ⟨zz', rfl, ?_, r3⟩⟩
  · rw [q1, List.length_map, q2]; rw [← e1, List.length_map] at hy; exact own_keptU hy hT (by decide)
  · rw [r1, List.length_map, r2]; rw [← e2, List.length_map] at hz; exact own_keptU hz hT (by decide)

theorem wrap8 (b : UInt8) : IntKind.u8.wrap ((b.toNat : Int) + 1) = ((b + 1).toNat : Int) := by
  rw [IntKind.wrap_u8, UInt8.toNat_add]
  have : (1 : UInt8).toNat = 1 := rfl
  rw [this]; omega
theorem turn_step {w1 wr : World} {base n c : Nat} {a : Option Addr} {l : List UInt8} (hO : OwB w1 base (.slice a n c) l) (hT : Turned w1 wr) (hB : Below base w1 wr) (k : Nat) (hk : k < n) :
    ∃ (g : Nat) (bk bj : Int), a = some ⟨g, 0, none⟩ ∧ wr.cell? ⟨g, k, none⟩ = some (.int .u8 bk) ∧ wr.frozen? ⟨g, k, none⟩ = false ∧ IntKind.u8.wrap (bk + 1) = bj ∧
      Hid (Turned w1 (wr.drew.setCell ⟨g, k, none⟩ (.int .u8 bj)) ∧ Below base w1 (wr.drew.setCell ⟨g, k, none⟩ (.int .u8 bj))) := by
  have hn := hO.len'
  rcases id hO with ⟨_, ⟨_, h0⟩ | ⟨g, cap, cur, e, hg, _⟩⟩
  · omega
  cases e
  obtain ⟨l', hO'⟩ := hO.turned hT
  have hn' := hO'.len'
  have hk' : k < l'.length := by omega
  refine ⟨g, (l'[k]).toNat, _, rfl, hO'.at k hk', hO'.fz k, wrap8 _, ?_, ?_⟩
  · have := (hO'.carry (Below.refl wr.heap.size wr).drew).stored k (l'[k] + 1)
    exact (hT.trans (Turned.of_below (Below.refl wr.heap.size wr).drew)).trans (Turned.set (hO'.carry (Below.refl wr.heap.size wr).drew) k _)
  · exact hB.drew.setCell hg _

end Go.Proofs.YtabaomacfijppaaGreat
namespace Go.Proofs.YtabaomacfijppaaGreat
open Go.RowKit
set_option linter.unusedVariables false
set_option linter.unusedSimpArgs false

def le4 (n : Nat) : List UInt8 := [UInt8.ofNat (n % 256), UInt8.ofNat (n / 256 % 256), UInt8.ofNat (n / 65536 % 256), UInt8.ofNat (n / 16777216 % 256)]
def un4 : List UInt8 → Nat
  | [] => 0
  | b :: l => b.toNat + 256 * un4 l
theorem le4_len (n : Nat) : (le4 n).length = 4 := rfl
theorem un4_lt : ∀ l : List UInt8, un4 l < 256 ^ l.length
  | [] => by simp [un4]
  | b :: l => by
    have := un4_lt l
    have hb := b.toNat_lt
    rw [un4, List.length_cons, Nat.pow_succ]
    omega
theorem un4_snoc (b : UInt8) : ∀ l : List UInt8, un4 (l ++ [b]) = un4 l + b.toNat * 256 ^ l.length
  | [] => by simp [un4]
  | c :: l => by
    have e : un4 (c :: l ++ [b]) = c.toNat + 256 * un4 (l ++ [b]) := rfl
    rw [e, un4_snoc b l, un4, List.length_cons, Nat.pow_succ, Nat.mul_add, Nat.add_assoc]
    congr 2
    rw [Nat.mul_comm (256 ^ l.length) 256, ← Nat.mul_assoc, ← Nat.mul_assoc, Nat.mul_comm 256 b.toNat]
theorem u8_ofNat_mod (m : Nat) : UInt8.ofNat (m % 256) = UInt8.ofNat m := UInt8.toNat_inj.1 (by simp [UInt8.toNat_ofNat'])
theorem le4_get (n k : Nat) (hk : k < 4) : (le4 n)[k]'(by rw [le4_len]; exact hk) = UInt8.ofNat (n / 2 ^ (8 * k)) := by
  match k, hk with
  | 0, _ => simp [le4, u8_ofNat_mod]
  | 1, _ => simp [le4, u8_ofNat_mod]
  | 2, _ => simp [le4, u8_ofNat_mod]
  | 3, _ => simp [le4, u8_ofNat_mod]
theorem un4_take (l : List UInt8) (k : Nat) (hk : k < l.length) : un4 (l.take (k + 1)) = un4 (l.take k) + (l[k]).toNat * 256 ^ k := by
  rw [List.take_succ_eq_append_getElem hk, un4_snoc]
  congr 2
  rw [List.length_take, Nat.min_eq_left (by omega)]

def blockS (gen : Nat) (size : Int) : List UInt8 × Int := if gen = 0 ∨ size < 0 ∨ 2048 < size then ([], 2) else (le4 gen ++ (le4 size.toNat ++ List.replicate 120 0), 0)
def ofS (b : List UInt8) : Nat × Nat × Int :=
  if b.length ≠ 128 then (0, 0, 3)
  else if (blockS (un4 (b.take 4)) (un4 ((b.drop 4).take 4))).2 ≠ 0 ∨ b ≠ (blockS (un4 (b.take 4)) (un4 ((b.drop 4).take 4))).1 then (0, 0, 8)
  else (un4 (b.take 4), un4 ((b.drop 4).take 4), 0)
def lastS (d : Dk) (n : Nat) : Nat × Nat := if (ofS (blk d.1 n)).1 % 2 = n then ((ofS (blk d.1 n)).1, (ofS (blk d.1 n)).2.1) else (0, 0)
def laterS (a b : Nat × Nat) : Nat × Nat := if a.1 < b.1 then b else a
def bestS (d : Dk) : Nat × Nat := laterS (laterS (0, 0) (lastS d 0)) (lastS d 1)
def latestS (d : Dk) : Nat × Nat × Int :=
  if chk d ≠ 0 then (0, 0, chk d) else if mny d ≤ 34 then (0, 0, 70)
  else if (bestS d).1 = 0 then (0, 0, 70) else ((bestS d).1, (bestS d).2, 0)

theorem blockS_len {gen : Nat} {size : Int} (h : (blockS gen size).2 = 0) : (blockS gen size).1.length = 128 := by
  unfold blockS at *
  split
  · rename_i c; rw [if_pos c] at h; cases h
  · simp [le4_len]
theorem blockS_ok {gen : Nat} {size : Int} (h : (blockS gen size).2 = 0) : gen ≠ 0 ∧ 0 ≤ size ∧ size ≤ 2048 ∧ (blockS gen size).1 = le4 gen ++ (le4 size.toNat ++ List.replicate 120 0) := by
  unfold blockS at *
  split at h
  · cases h
  · rename_i c
    rw [if_neg c]
    exact ⟨by omega, by omega, by omega, rfl⟩
theorem blockS_of {gen : Nat} {size : Int} (h1 : gen ≠ 0) (h2 : 0 ≤ size) (h3 : size ≤ 2048) : blockS gen size = (le4 gen ++ (le4 size.toNat ++ List.replicate 120 0), 0) := by
  unfold blockS; rw [if_neg (by omega)]
theorem blockS_err {gen : Nat} {size : Int} (h : (blockS gen size).2 ≠ 0) : blockS gen size = ([], 2) := by
  unfold blockS at *
  split
  · rfl
  · rename_i c; rw [if_neg c] at h; exact absurd rfl h
theorem ofS_ok {b : List UInt8} (h : (ofS b).2.2 = 0) : blockS (ofS b).1 ((ofS b).2.1 : Nat) = (b, 0) := by
  unfold ofS at *
  split at h
  · cases h
  · rename_i c1
    split at h
    · cases h
    · rename_i c2
      rw [if_neg c1, if_neg c2]
      have h1 : (blockS (un4 (b.take 4)) (un4 ((b.drop 4).take 4))).2 = 0 := by
        by_cases hx : (blockS (un4 (b.take 4)) (un4 ((b.drop 4).take 4))).2 = 0
        · exact hx
        · exact absurd (.inl hx) c2
      have h2 : b = (blockS (un4 (b.take 4)) (un4 ((b.drop 4).take 4))).1 := by
        by_cases hx : b = (blockS (un4 (b.take 4)) (un4 ((b.drop 4).take 4))).1
        · exact hx
        · exact absurd (.inr hx) c2
      show blockS (un4 (b.take 4)) (un4 ((b.drop 4).take 4)) = (b, 0)
      exact Prod.ext h2.symm h1
theorem ofS_err {b : List UInt8} (h : (ofS b).2.2 ≠ 0) : (ofS b).1 = 0 ∧ (ofS b).2.1 = 0 := by
  unfold ofS at *
  split
  · exact ⟨rfl, rfl⟩
  · rename_i c1
    rw [if_neg c1] at h
    split
    · exact ⟨rfl, rfl⟩
    · rename_i c2; rw [if_neg c2] at h; exact absurd rfl h
theorem ofS_lt (b : List UInt8) : (ofS b).1 < 4294967296 ∧ (ofS b).2.1 ≤ 2048 := by
  by_cases h : (ofS b).2.2 = 0
  · have := ofS_ok h
    obtain ⟨h1, h2, h3, _⟩ := blockS_ok (by rw [this] : (blockS (ofS b).1 ((ofS b).2.1 : Nat)).2 = 0)
    refine ⟨?_, by omega⟩
    unfold ofS
    split
    · show (0 : Nat) < _; omega
    · split
      · show (0 : Nat) < _; omega
      · have := un4_lt (b.take 4)
        have hle : 256 ^ (b.take 4).length ≤ 256 ^ 4 := Nat.pow_le_pow_right (by decide) (by rw [List.length_take]; omega)
        exact Nat.lt_of_lt_of_le this hle
  · obtain ⟨h1, h2⟩ := ofS_err h
    rw [h1, h2]; exact ⟨by omega, by omega⟩

end Go.Proofs.YtabaomacfijppaaGreat
namespace Go.Proofs.YtabaomacfijppaaGreat
open Go.RowKit
set_option linter.unusedVariables false
set_option linter.unusedSimpArgs false

theorem latestS_ok {d : Dk} {gen was : Nat} (h : latestS d = (gen, was, 0)) : okD d = true ∧ 34 < mny d ∧ gen ≠ 0 ∧ bestS d = (gen, was) := by
  unfold latestS at h
  split at h
  · rename_i c
    have := congrArg (fun x => x.2.2) h
    exact absurd this c
  · rename_i c1
    split at h
    · cases h
    · split at h
      · cases h
      · rename_i c2 c3
        injection h with h1 h2
        injection h2 with h2 h3
        refine ⟨ok_of_chk (by omega), by omega, by rw [← h1]; exact c3, ?_⟩
        exact Prod.ext h1 h2
theorem lastS_par (d : Dk) (n : Nat) : (lastS d n).1 = 0 ∨ (lastS d n).1 % 2 = n := by
  unfold lastS
  split
  · rename_i h; exact .inr h
  · exact .inl rfl
theorem laterS_or (a b : Nat × Nat) : laterS a b = a ∨ laterS a b = b := by
  unfold laterS
  split
  · exact .inr rfl
  · exact .inl rfl
theorem bestS_slot {d : Dk} {gen was : Nat} (h : bestS d = (gen, was)) (hg : gen ≠ 0) : lastS d (gen % 2) = (gen, was) := by
  have p0 := lastS_par d 0
  have p1 := lastS_par d 1
  unfold bestS at h
  rcases laterS_or (laterS (0, 0) (lastS d 0)) (lastS d 1) with e | e
  · rw [e] at h
    rcases laterS_or (0, 0) (lastS d 0) with e | e
    · rw [e] at h
      exact absurd (congrArg Prod.fst h).symm hg
    · rw [e] at h
      rw [h] at p0
      have : gen % 2 = 0 := by
        rcases p0 with p0 | p0
        · exact absurd p0 hg
        · exact p0
      rw [this]; exact h
  · rw [e] at h
    rw [h] at p1
    have : gen % 2 = 1 := by
      rcases p1 with p1 | p1
      · exact absurd p1 hg
      · exact p1
    rw [this]; exact h
end Go.Proofs.YtabaomacfijppaaGreat
namespace Go.Proofs.YtabaomacfijppaaGreat
open Go.RowKit
set_option linter.unusedVariables false
set_option linter.unusedSimpArgs false

abbrev Fsd := Dk × Nat × List Fl × List Fl
def fz : Fsd := (dz, 0, [], [])
def genB (d : Dk) (gen size : Nat) : List UInt8 := (d.1.drop (128 * (2 + gen % 2 * 16))).take size
def okFs (f : Fsd) : Prop := (latestS f.1).2.2 = 0 ∧ (latestS f.1).1 = f.2.1 ∧ (∀ p ∈ f.1.2.1, 34 ≤ p.1) ∧ readE (genB f.1 f.2.1 (latestS f.1).2.1) (mny f.1) = 0 ∧ readL (genB f.1 f.2.1 (latestS f.1).2.1) (mny f.1) = f.2.2.2 ∧ chkF f.2.2.1 (mny f.1) = 0
instance (f : Fsd) : Decidable (okFs f) := inferInstanceAs (Decidable (_ ∧ _ ∧ _ ∧ _ ∧ _ ∧ _))
def fsE (f : Fsd) : Int := if okFs f then 0 else 8
def usedFs (f : Fsd) : List Ex := usedL f.2.2.1 ++ usedL f.2.2.2
def mnyFs (f : Fsd) : Int := (manyD f.1).1
def mkE (f : Fsd) (s : List UInt8) (n : Int) : Int :=
  if thereE f.2.2.1 s = 0 then 51 else if thereE f.2.2.1 s ≠ 6 then thereE f.2.2.1 s
  else if takeE 34 (mnyFs f) (usedFs f) n ≠ 0 then takeE 34 (mnyFs f) (usedFs f) n
  else createE f.2.2.1 s (takeL 34 (mnyFs f) (usedFs f) n) (mnyFs f)
def mkL (f : Fsd) (s : List UInt8) (n : Int) : List Fl := if mkE f s n = 0 then createL f.2.2.1 s (takeL 34 (mnyFs f) (usedFs f) n) (mnyFs f) else []
def turnFs (f : Fsd) (l : List Fl) (e : Int) : Fsd × Int := if fsE f ≠ 0 then (fz, fsE f) else if e ≠ 0 then (fz, e) else ((f.1, f.2.1, l, f.2.2.2), 0)
def createFs (f : Fsd) (s : List UInt8) (n : Int) : Fsd × Int := turnFs f (mkL f s n) (mkE f s n)
def deleteFs (f : Fsd) (s : List UInt8) : Fsd × Int := turnFs f (deleteL f.2.2.1 s) (thereE f.2.2.1 s)
def renameFs (f : Fsd) (s t : List UInt8) : Fsd × Int := turnFs f (renameL f.2.2.1 s t) (renameE f.2.2.1 s t)
/-! ### on the way -/
abbrev Wy := Fsd × Int × List UInt8
abbrev Stp := Wy → Wy × Int
def thenW (s : Stp) (x : Wy) : Wy := if x.2.1 = 0 then ((s x).1.1, (s x).2, (s x).1.2.2) else x
def beginW (f : Fsd) : Wy := (f, fsE f, [])
def endW (x : Wy) : Fsd × Int := if x.2.1 ≠ 0 then (fz, x.2.1) else (x.1, 0)
def diskW (x : Wy) (d : Dk) : Wy := ((d, x.1.2), x.2)
def nextW : Stp := fun x => if x.1.2.1 = 4294967295 then (x, 9) else (((x.1.1, x.1.2.1 + 1, x.1.2.2), x.2.1, writeL x.1.2.2.1 (mnyFs x.1)), chkF x.1.2.2.1 (mnyFs x.1))
def syncW : Stp := fun x => (diskW x (doD x.1.1 [(true, 0, [])] 1).1, (doD x.1.1 [(true, 0, [])] 1).2)
def clearW : Stp := fun x => (diskW x (clearD x.1.1).1, (clearD x.1.1).2)
def stayW : Stp := fun x => (diskW x (doD x.1.1 [] 0).1, (doD x.1.1 [] 0).2)
def writeW (n : Int) (b : List UInt8) : Stp := fun x => (diskW x (doD x.1.1 [(false, n, b)] 1).1, (doD x.1.1 [(false, n, b)] 1).2)
def dirW (l : List Fl) (e : Int) : Stp := fun x => (((x.1.1, x.1.2.1, l, x.1.2.2.2), x.2), e)
def keepW : Stp := fun x => (((x.1.1, x.1.2.1, x.1.2.2.1, x.1.2.2.1), x.2), 0)
def padB (l : List UInt8) : List UInt8 := l.take 128 ++ List.replicate (128 - l.length) 0
def wholeB (l : List UInt8) : List (List UInt8) := (List.range ((l.length + 127) / 128)).map fun k => padB (l.drop (128 * k))
def writesW : Int → List (List UInt8) → Stp
  | _, [], x => (x, 0)
  | n, b :: l, x => if (writeW n b x).2 ≠ 0 then writeW n b x else writesW (n + 1) l (writeW n b x).1
def wdirW : Stp := fun x => writesW ((2 + x.1.2.1 % 2 * 16 : Nat) : Int) (wholeB x.2.2) x
def wsupW : Stp := fun x => if (blockS x.1.2.1 (x.2.2.length : Nat)).2 ≠ 0 then (x, (blockS x.1.2.1 (x.2.2.length : Nat)).2) else writeW ((x.1.2.1 % 2 : Nat) : Int) (blockS x.1.2.1 (x.2.2.length : Nat)).1 x
def commitW (x : Wy) : Wy := thenW keepW (thenW syncW (thenW wsupW (thenW syncW (thenW wdirW (thenW syncW (thenW nextW x))))))

def syncFs (f : Fsd) : Fsd × Int := endW (thenW syncW (beginW f))
def clearFs (f : Fsd) : Fsd × Int := endW (thenW clearW (beginW f))
def commitFs (f : Fsd) : Fsd × Int := endW (commitW (beginW f))
def formatFs (n : Int) : Fsd × Int := if (newD n).2 ≠ 0 then (fz, (newD n).2) else if n ≤ 34 then (fz, 2) else endW (thenW clearW (commitW (((newD n).1, 0, [], []), 0, [])))
def tdirFs (f : Fsd) (l : List Fl) (e : Int) : Fsd × Int := endW (thenW stayW (thenW (dirW l e) (beginW f)))

theorem fsE_cases (f : Fsd) : (okFs f ∧ fsE f = 0) ∨ (¬ okFs f ∧ fsE f = 8) := by
  unfold fsE; by_cases h : okFs f
  · exact .inl ⟨h, if_pos h⟩
  · exact .inr ⟨h, if_neg h⟩
theorem fsE_ok {f : Fsd} (h : fsE f = 0) : okFs f := by rcases fsE_cases f with h1 | h1; exact h1.1; rw [h1.2] at h; cases h
theorem fsE_of {f : Fsd} (h : okFs f) : fsE f = 0 := by unfold fsE; exact if_pos h
theorem okFs_disk {f : Fsd} (h : okFs f) : okD f.1 = true ∧ 34 < mny f.1 ∧ f.2.1 ≠ 0 ∧ latestS f.1 = (f.2.1, (latestS f.1).2.1, 0) := by
  obtain ⟨h1, h2, _⟩ := h
  have e : latestS f.1 = (f.2.1, (latestS f.1).2.1, 0) := by rw [← h2, ← h1]
  obtain ⟨a, b, c, _⟩ := latestS_ok e
  exact ⟨a, b, c, e⟩
theorem chk_ok6 {d : Dk} (h : okD d = true) : chk d = 0 := by unfold chk; rw [if_pos h]
theorem mnyFs_ok {f : Fsd} (h : okD f.1 = true) : mnyFs f = mny f.1 := by unfold mnyFs manyD; rw [chk_ok6 h]; rfl
theorem turn_tdir (f : Fsd) (l : List Fl) (e : Int) : tdirFs f l e = turnFs f l e := by
  unfold tdirFs turnFs beginW
  rcases fsE_cases f with ⟨h, h0⟩ | ⟨h, h0⟩
  · have hd := chk_ok6 (okFs_disk h).1
    rw [h0]
    unfold thenW dirW stayW endW diskW doD
    by_cases he : e = 0
    · subst he
      simp [hd, firstE, onesD]
    · simp [he]
  · rw [h0]
    simp [thenW, endW]

end Go.Proofs.YtabaomacfijppaaGreat
namespace Go.Proofs.YtabaomacfijppaaGreat
open Go.RowKit
set_option linter.unusedVariables false
set_option linter.unusedSimpArgs false

set_option maxHeartbeats 1000000 in
set_option maxRecDepth 100000 in
theorem number_any (g off n c k : Nat) (w : World) (hk : k + 4 ≤ n) (hc : n ≤ c) (hm : c ≤ maxLen) :
    Calls Tryz.prog 206 #[.slice (some ⟨g, off, none⟩) n c, .int .i64 k] w fun e w' => e = .returned (.func (.func 217) #[] #[.pointer (some ⟨w.heap.size, 0, none⟩)]) ∧ Below w.heap.size w w' ∧ w'.cell? ⟨w.heap.size, 0, none⟩ = some (.slice (some ⟨g, off + k, none⟩) 4 (c - k)) ∧ w'.heap.size = w.heap.size + 1 := by
  have hw : wrap64 ((k : Int) + 4) = ((k + 4 : Nat) : Int) := by unfold wrap64; unfold maxLen at hm; omega
  have h1 : ((k + 4 : Nat) : Int) ≤ c := by omega
  have h2 : ¬ k = c := by omega
  have h3 : k + 4 ≤ c := by omega
  have h4 : k + 4 - k = 4 := by omega
  go_enter Tryz.func206, Tryz.ntmps206
  go_wp2
  go_ret
  rw [h4]
  exact ⟨rfl, (Below.refl _ _).alloc (Nat.le_refl _) _, by simp, by simp⟩

theorem put_arith {j : Nat} (h : j < 4) : ∃ m : Nat, m = 8 * j ∧ wrap64 (8 * (j : Int)) = (m : Int) ∧ IntKind.i64.wrap (8 * (j : Int)) = (m : Int) ∧ (m : Int) ≤ 32 := by
  refine ⟨8 * j, rfl, ?_, ?_, by omega⟩
  · unfold wrap64; omega
  · rw [IntKind.wrap_i64]; omega

theorem put_byte (x j m : Nat) (hm : m = 8 * j) (h : j < 4) : IntKind.u8.wrap ((x : Int) / 2 ^ m) = (((le4 x)[j]'(by rw [le4_len]; exact h)).toNat : Int) := by
  rw [le4_get x j h, hm, IntKind.wrap_u8', UInt8.toNat_ofNat']
  have e : ((2 : Int) ^ (8 * j)) = ((2 ^ (8 * j) : Nat) : Int) := by rw [Int.natCast_pow]; rfl
  rw [e, ← Int.natCast_ediv]
  generalize x / 2 ^ (8 * j) = y
  omega
theorem cell_other {w w' : World} {k g : Nat} {v : Value} {o : Nat} (hg : w.grownBy w' (some g)) (hc : w.cell? ⟨k, o, none⟩ = some v) (hne : k ≠ g) : w'.cell? ⟨k, o, none⟩ = some v := by
  rw [← hc]; unfold World.cell?; rw [show w'.heap[k]? = w.heap[k]? from hg.block _ (World.block_lt_of_cell? w _ hc) (by simpa using hne)]

set_option maxHeartbeats 1000000 in
set_option maxRecDepth 100000 in
theorem put_any (base g n c k kp cp : Nat) (l : List UInt8) (x : Nat) (w : World) (hown : OwB w base (.slice (some ⟨g, 0, none⟩) n c) l) (hcell : w.cell? ⟨kp, 0, none⟩ = some (.slice (some ⟨g, k, none⟩) 4 cp)) (hne : kp ≠ g) (hk : k + 4 ≤ l.length) (hx : x < 4294967296) :
    Calls Tryz.prog 217 #[.bool true, .int .u32 x, .pointer (some ⟨kp, 0, none⟩)] w fun e w' => (∃ v, e = .returned v) ∧ w.grownBy w' (some g) ∧ OwB w' base (.slice (some ⟨g, 0, none⟩) n c) (splice l k (le4 x)) := by
  have HOWN := hide hown
  have HKL := hide hk
  have HX := hide hx
  have hkb : kp < w.heap.size := World.block_lt_of_cell? w _ hcell
  clear hown hk hx
  go_enter Tryz.func217, Tryz.ntmps217
  go_wp2
  go_loopw [6, 10] (fun t i wr => ∃ (j : Nat) (z : Int), j ≤ 4 ∧ i = .int .i64 j ∧ t = .int .u32 z ∧ Hid (OwB wr base (.slice (some ⟨g, 0, none⟩) n c) (splice l k ((le4 x).take j))) ∧ w.grownBy wr (some g)) (fun _ i _ => 4 - (intOf i).toNat)
  case atStart =>
    refine ⟨0, 0, Nat.zero_le _, rfl, rfl, ?_, World.grownBy.refl _ _⟩
    show OwB _ _ _ _
    have e : splice l k ((le4 x).take 0) = l := by simp [splice]
    rw [e]; exact HOWN.out
  case round =>
    obtain ⟨j, z, hj, rfl, rfl, ho, hgr⟩ := hrel
    by_cases hlt : j < 4
    · have hlt' : (j : Int) < 4 := by omega
      obtain ⟨m, em, a1, a2, a3⟩ := put_arith hlt
      have EM := hide em
      clear em
      have hc : wr.cell? ⟨kp, 0, none⟩ = some (.slice (some ⟨g, k, none⟩) 4 cp) := cell_other hgr hcell hne
      have hfz := ho.out.fz (k + j)
      have hcl := ho.out.at (k + j) (by rw [length_splice]; have := HKL.out; omega; have := HKL.out; simp [le4_len]; omega)
      obtain ⟨bk, hbk, ebk⟩ : ∃ bk : UInt8, IntKind.u8.wrap ((x : Int) / 2 ^ m) = (bk.toNat : Int) ∧ bk = (le4 x)[j]'(by rw [le4_len]; exact hlt) := ⟨_, put_byte x j m EM.out hlt, rfl⟩
      have EB := hide ebk
      clear ebk
      have hK : Keeps (fun wx => wx.cell? ⟨kp, 0, none⟩ = some (.slice (some ⟨g, k, none⟩) 4 cp)) := keeps_cell _ _
      go_wp2
      refine regL_begin hK 8 (by kernel_rfl) hc ?_
      intro hS
      refine regL_take (i := 0) (v := ?qav0) rfl (by kernel_rfl) (by kernel_rfl) (by kernel_rfl) rfl (by kernel_rfl) (by kernel_rfl) (by rfl) ?qay0 hS ?qar0
      case qay0 => (rintro wx x1; go_simp; all_goals (with_reducible rfl))
      try simp only [Act.put, List.setIfInBounds_toArray, List.set_cons_zero, List.set_cons_succ]
      refine regL_take (i := 1) (v := ?qav1) rfl (by kernel_rfl) (by kernel_rfl) (by kernel_rfl) rfl (by kernel_rfl) (by kernel_rfl) (by rfl) ?qay1 hS ?qar1
      case qay1 => (rintro wx x1; go_simp; all_goals (with_reducible rfl))
      try simp only [Act.put, List.setIfInBounds_toArray, List.set_cons_zero, List.set_cons_succ]
      refine regL_take (i := 2) (v := ?qav2) rfl (by kernel_rfl) (by kernel_rfl) (by kernel_rfl) rfl (by kernel_rfl) (by kernel_rfl) (by rfl) ?qay2 hS ?qar2
      case qay2 => (rintro wx x1; go_simp; all_goals (with_reducible rfl))
      try simp only [Act.put, List.setIfInBounds_toArray, List.set_cons_zero, List.set_cons_succ]
      refine regL_take (i := 3) (v := ?qav3) rfl (by kernel_rfl) (by kernel_rfl) (by kernel_rfl) rfl (by kernel_rfl) (by kernel_rfl) (by rfl) ?qay3 hS ?qar3
      case qay3 => (rintro wx x1; go_simp; all_goals (with_reducible rfl))
      try simp only [Act.put, List.setIfInBounds_toArray, List.set_cons_zero, List.set_cons_succ]
      refine regL_take (i := 4) (v := ?qav4) rfl (by kernel_rfl) (by kernel_rfl) (by kernel_rfl) rfl (by kernel_rfl) (by kernel_rfl) (by rfl) ?qay4 hS ?qar4
      case qay4 => (rintro wx x1; go_simp; all_goals (with_reducible rfl))
      try simp only [Act.put, List.setIfInBounds_toArray, List.set_cons_zero, List.set_cons_succ]
      refine regL_take (i := 5) (v := ?qav5) rfl (by kernel_rfl) (by kernel_rfl) (by kernel_rfl) rfl (by kernel_rfl) (by kernel_rfl) (by rfl) ?qay5 hS ?qar5
      case qay5 => (rintro wx x1; go_simp; all_goals (with_reducible rfl))
      try simp only [Act.put, List.setIfInBounds_toArray, List.set_cons_zero, List.set_cons_succ]
      refine regL_take (i := 6) (v := ?qav6) rfl (by kernel_rfl) (by kernel_rfl) (by kernel_rfl) rfl (by kernel_rfl) (by kernel_rfl) (by rfl) ?qay6 hS ?qar6
      case qay6 => (rintro wx x1; go_simp; all_goals (with_reducible rfl))
      try simp only [Act.put, List.setIfInBounds_toArray, List.set_cons_zero, List.set_cons_succ]
      refine regL_take (i := 7) (v := ?qav7) rfl (by kernel_rfl) (by kernel_rfl) (by kernel_rfl) rfl (by kernel_rfl) (by kernel_rfl) (by rfl) ?qay7 hS ?qar7
      case qay7 => (rintro wx x1; go_simp; all_goals (with_reducible rfl))
      try simp only [Act.put, List.setIfInBounds_toArray, List.set_cons_zero, List.set_cons_succ]
      refine regL_last (i := 8) (w' := wr.drew.setCell ⟨g, k + j, none⟩ (.int .u8 bk.toNat)) rfl (by kernel_rfl) (by kernel_rfl) (by rfl) (by go_simp) ?_
      try simp only [Act.put, List.setIfInBounds_toArray, List.set_cons_zero, List.set_cons_succ]
      refine wpAnyL_done (by kernel_rfl) ?_ _
      refine NoPanic.normal ?_
      clear hS hK hbk hcl
      obtain ⟨o1, o2⟩ := ho.out.stored (k + j) bk
      rw [EB.out, splice_step _ _ _ _ (by rw [le4_len]; exact hlt) (by rw [le4_len]; exact HKL.out), ← EB.out] at o1
      have o1' : OwB (wr.drew.setCell ⟨g, k + j, none⟩ (.int .u8 bk.toNat)) base (.slice (some ⟨g, 0, none⟩) n c) (splice l k ((le4 x).take (j + 1))) := o1.carry (Below.refl _ _).drew
      have hG : w.grownBy (wr.drew.setCell ⟨g, k + j, none⟩ (.int .u8 bk.toNat)) (some g) := grown_trans (grown_trans hgr o2) (grown_none (grown_of_below (Below.refl _ _).drew) _)
      have hcs := cell_other hG hcell hne
      have hcb := o1'.at (k + j) (by rw [length_splice]; have := HKL.out; omega; have := HKL.out; simp [le4_len]; omega)
      obtain ⟨bz, hbz⟩ : ∃ bz : Int, bz = (((splice l k ((le4 x).take (j + 1)))[k + j]'(by rw [length_splice]; have := HKL.out; omega; have := HKL.out; simp [le4_len]; omega)).toNat : Int) := ⟨_, rfl⟩
      rw [← hbz] at hcb
      clear hbz
      have HO1 := hide o1'
      clear o1 o1' o2 hfz hc ho
      generalize wr.drew.setCell ⟨g, k + j, none⟩ (.int .u8 bk.toNat) = ws at *
      go_wp2
      go_roundw
      case rel => exact ⟨j + 1, _, by omega, by go_num, rfl, HO1, hG⟩
      case measure => simp [intOf] <;> omega
    · have hlt' : decide ((j : Int) < 4) = false := by simpa using (by omega : ¬ (j : Int) < 4)
      obtain rfl : j = 4 := by omega
      go_wp2
      go_ret
      refine ⟨⟨_, rfl⟩, hgr, ?_⟩
      have := ho.out
      rwa [List.take_of_length_le (by rw [le4_len]; omega)] at this

theorem get_or (j m u : Nat) (b : UInt8) (hm : m = 8 * j) (hj : j < 4) (hu : u < 256 ^ j) : bits .or .u32 (u : Int) ((b.toNat : Int) % 4294967296 * 2 ^ m % 4294967296) = ((u + b.toNat * 256 ^ j : Nat) : Int) := by
  have hb := b.toNat_lt
  have hp : (256 : Nat) ^ j = 2 ^ m := by rw [hm, Nat.pow_mul]
  rw [hp] at hu ⊢
  have hle : (2 : Nat) ^ m ≤ 2 ^ 24 := Nat.pow_le_pow_right (by decide) (by omega)
  have hlt : b.toNat * 2 ^ m < 4294967296 := by
    have : b.toNat * 2 ^ m ≤ 255 * 2 ^ m := Nat.mul_le_mul_right _ (by omega)
    omega
  have e : ((b.toNat : Int) * 2 ^ m) = ((b.toNat * 2 ^ m : Nat) : Int) := by rw [Int.natCast_mul, Int.natCast_pow]; rfl
  rw [show (b.toNat : Int) % 4294967296 = b.toNat by omega, e]
  have e2 : ((b.toNat * 2 ^ m : Nat) : Int) % 4294967296 = ((b.toNat * 2 ^ m : Nat) : Int) := by omega
  rw [e2, u32_or_nat _ _ (by omega) hlt, Nat.or_comm, nat_join m _ _ (by simp) hu, Nat.add_comm]

set_option maxHeartbeats 1000000 in
set_option maxRecDepth 100000 in
theorem get_any (g off kp cp : Nat) (b : List UInt8) (w : World) (hb : b.length = 4) (hrd : Rd w (.slice (some ⟨g, off, none⟩) 4 cp) b) (hcell : w.cell? ⟨kp, 0, none⟩ = some (.slice (some ⟨g, off, none⟩) 4 cp)) :
    Calls Tryz.prog 217 #[.bool false, .int .u32 0, .pointer (some ⟨kp, 0, none⟩)] w fun e w' => e = .returned (.int .u32 (un4 b)) ∧ w' = w := by
  have HB := hide hb
  have hcs : ∀ j, (h : j < b.length) → w.cell? ⟨g, off + j, none⟩ = some (.int .u8 (b[j]).toNat) := by
    rcases hrd with ⟨rfl, _⟩ | ⟨b', off', c', e, _, _, hc⟩
    · exact absurd hb (by decide)
    · simp only [Value.slice.injEq, Option.some.injEq, Addr.mk.injEq] at e
      obtain ⟨⟨rfl, rfl, _⟩, _, rfl⟩ := e
      exact hc
  have HC := hide hcs
  clear hb hrd hcs
  go_enter Tryz.func217, Tryz.ntmps217
  go_wp2
  go_loop [6, 10] (fun t i => ∃ j : Nat, j ≤ 4 ∧ i = .int .i64 j ∧ t = .int .u32 (un4 (b.take j))) (fun _ i => 4 - (intOf i).toNat)
  case atStart => exact ⟨0, Nat.zero_le _, rfl, rfl⟩
  case round =>
    obtain ⟨j, hj, rfl, rfl⟩ := hrel
    by_cases hlt : j < 4
    · have hlt' : (j : Int) < 4 := by omega
      obtain ⟨m, em, a1, a2, a3⟩ := put_arith hlt
      have EM := hide em
      clear em
      have hjb : j < b.length := by rw [HB.out]; exact hlt
      have hc := HC.out j hjb
      obtain ⟨u, hu⟩ : ∃ u : Nat, u = un4 (b.take j) := ⟨_, rfl⟩
      have HU := hide (show un4 (b.take (j + 1)) = u + (b[j]).toNat * 256 ^ j by rw [hu]; exact un4_take b j hjb)
      have HL := hide (show u < 256 ^ j by
        rw [hu]; have := un4_lt (b.take j); rwa [List.length_take, Nat.min_eq_left (by omega)] at this)
      rw [← hu]
      obtain ⟨y, hy⟩ : ∃ y : UInt8, y = b[j] := ⟨_, rfl⟩
      rw [← hy] at hc
      have HY := hide hy
      clear hu hy
      go_wp2
      go_round
      case rel => exact ⟨j + 1, by omega, by go_num, by rw [HU.out, ← get_or j m u _ EM.out hlt HL.out, ← HY.out]⟩
      case measure => simp [intOf] <;> omega
    · obtain rfl : j = 4 := by omega
      go_wp2
      go_ret
      refine ⟨?_, rfl⟩
      rw [List.take_of_length_le (by rw [HB.out]; omega)]
      rfl

end Go.Proofs.YtabaomacfijppaaGreat
namespace Go.Proofs.YtabaomacfijppaaGreat
open Go.RowKit
set_option linter.unusedVariables false
set_option linter.unusedSimpArgs false

set_option maxHeartbeats 1000000 in
set_option maxRecDepth 100000 in
theorem swhere_any (gen : Nat) (w : World) (hg : gen < 4294967296) :
    Calls Tryz.prog 124 #[.int .u32 gen] w fun e w' => e = .returned (.tuple #[.int .i64 (gen % 2 : Nat), .int .i64 (2 + gen % 2 * 16 : Nat)]) ∧ w' = w := by
  have h1 : bits .and .u32 (gen : Int) 1 = ((gen % 2 : Nat) : Int) := by
    rw [show (1 : Int) = ((1 : Nat) : Int) from rfl, u32_and_nat _ _ hg (by decide), nat_mask1]
  obtain ⟨m, em⟩ : ∃ m, m = gen % 2 := ⟨_, rfl⟩
  have hm : m < 2 := by omega
  rw [← em] at h1 ⊢
  clear em
  have h2 : IntKind.i64.wrap (m : Int) = m := by rw [IntKind.wrap_i64]; omega
  have h3 : wrap64 ((m : Int) * 16) = ((m * 16 : Nat) : Int) := by unfold wrap64; omega
  have h4 : wrap64 (2 + ((m * 16 : Nat) : Int)) = ((2 + m * 16 : Nat) : Int) := by unfold wrap64; omega
  go_enter Tryz.func124, Tryz.ntmps124
  go_wp2
  go_ret2
  refine ⟨?_, rfl⟩
  rw [show ((2 + m * 16 : Nat) : Int) = 2 + (m : Int) * 16 by omega]
  rfl

set_option maxHeartbeats 1000000 in
set_option maxRecDepth 100000 in
theorem sblock_any (gen : Nat) (size : Int) (w : World) (hg : gen < 4294967296) :
    Calls Tryz.prog 176 #[.int .u32 gen, .int .i64 size] w fun e w' => ∃ bv, e = .returned (.tuple #[bv, .int .i64 (blockS gen size).2]) ∧ OwB w' w.heap.size bv (blockS gen size).1 ∧ Below w.heap.size w w' := by
  by_cases h0 : gen = 0
  · have HE := hide (show blockS gen size = ([], 2) by unfold blockS; rw [if_pos (.inl h0)])
    have h0' : (gen : Int) = 0 := by omega
    go_enter Tryz.func176, Tryz.ntmps176
    go_wp2
    go_ret2
    rw [HE.out]
    exact ⟨_, rfl, World.ownsRow_nil _ _ _ _, Below.refl _ _⟩
  · have h0' : ¬ (gen : Int) = 0 := by omega
    by_cases h1 : size < 0
    · have HE := hide (show blockS gen size = ([], 2) by unfold blockS; rw [if_pos (.inr (.inl h1))])
      go_enter Tryz.func176, Tryz.ntmps176
      go_wp2
      go_ret2
      rw [HE.out]
      exact ⟨_, rfl, World.ownsRow_nil _ _ _ _, Below.refl _ _⟩
    · have h1' : decide (size < 0) = false := by simpa using h1
      by_cases h2 : 2048 < size
      · have HE := hide (show blockS gen size = ([], 2) by unfold blockS; rw [if_pos (.inr (.inr h2))])
        go_enter Tryz.func176, Tryz.ntmps176
        go_wp2
        go_ret2
        rw [HE.out]
        exact ⟨_, rfl, World.ownsRow_nil _ _ _ _, Below.refl _ _⟩
      · have h2' : decide (2048 < size) = false := by simpa using h2
        obtain ⟨s, rfl⟩ : ∃ s : Nat, size = s := ⟨size.toNat, by omega⟩
        have hs : s ≤ 2048 := by omega
        have HE := hide (show blockS gen s = (le4 gen ++ (le4 s ++ List.replicate 120 0), 0) by rw [blockS_of h0 (by omega) (by omega)]; rfl)
        have hws : IntKind.u32.wrap (s : Int) = s := by rw [IntKind.wrap_u32']; omega
        have hws' : (s : Int) % 4294967296 = s := by omega
        obtain ⟨i0, hi, hz0, hz1, hz2⟩ := info_parts Tryz.infoB
        obtain ⟨w2, hmake, hown2, hg2⟩ := run_make_full (P := Tryz.prog) w w.heap.size 22 5 i0 _ 1 Tryz.underlying22 hi hz0 hz1 .i64 .i64 128 (by rw [hz2]; omega) (by unfold maxLen; omega) (Nat.le_refl _)
        have hmake' : (Instr.makeSlice 22 (.int .i64 128) (.int .i64 128)).run Tryz.prog w = .ok (.slice (some ⟨w.heap.size, 0, none⟩) 128 128) w2 := hmake
        have hb2 : Below w.heap.size w w2 := (Below.refl _ _).grown hg2 (Nat.le_refl _) (fun k hk => by cases hk)
        have hO2 : OwB w2 w.heap.size (.slice (some ⟨w.heap.size, 0, none⟩) 128 128) (List.replicate 128 0) := by
          show w2.ownsRow _ _ _ _ _ _
          rw [List.length_replicate]
          have e : (madeCells (Value.int IntKind.u8 0).cells (128 * 1)).toList = u8v (List.replicate 128 0) := by
            show (madeCells #[Value.int .u8 0] (128 * 1)).toList = _
            rw [toList_madeCells_one]
            simp [u8v]
          rw [← e]
          exact hown2
        have hs2 : w.heap.size < w2.heap.size := (hO2.lt _ rfl).2
        have HO2 := hide hO2
        clear hown2 hg2 hz0 hz1 hz2 hi hO2 hmake
        go_enter Tryz.func176, Tryz.ntmps176
        go_wp2_with fail
        refine (number_any w.heap.size 0 128 128 0 _ (by omega) (by omega) (by unfold maxLen; omega)).mono ?_
        clear hmake'
        rintro e w3 ⟨rfl, hb3, hc3, hs3⟩
        have hB3 : Below w.heap.size w w3 := hb2.trans (hb3.mono hb2.size)
        go_wp2_with fail
        refine (put_any w.heap.size w.heap.size 128 128 0 w2.heap.size 128 (List.replicate 128 0) gen _ (HO2.out.carry hb3) hc3 (by omega) (by simp) hg).mono ?_
        rintro e w4 ⟨⟨v4, rfl⟩, hg4, hO4⟩
        have hB4 : Below w.heap.size w w4 := hB3.grown hg4 hB3.size (fun k hk => by cases hk; exact Nat.le_refl _)
        have hs4 := hg4.size
        have HO4 := hide hO4
        clear hO4 hg4 hc3 hb3
        go_wp2_with fail
        refine (number_any w.heap.size 0 128 128 4 _ (by omega) (by omega) (by unfold maxLen; omega)).mono ?_
        rintro e w5 ⟨rfl, hb5, hc5, hs5⟩
        have hB5 : Below w.heap.size w w5 := hB4.trans (hb5.mono hB4.size)
        go_wp2_with fail
        refine (put_any w.heap.size w.heap.size 128 128 4 w4.heap.size 124 _ s _ (HO4.out.carry hb5) hc5 (by omega) (by rw [length_splice]; simp; simp [le4_len]) (by omega)).mono ?_
        rintro e w6 ⟨⟨v6, rfl⟩, hg6, hO6⟩
        have hB6 : Below w.heap.size w w6 := hB5.grown hg6 hB5.size (fun k hk => by cases hk; exact Nat.le_refl _)
        have HO6 := hide hO6
        clear hO6 hg6 hc5 hb5
        go_wp2
        go_ret2
        rw [HE.out]
        refine ⟨_, rfl, ?_, hB6⟩
        have e : splice (splice (List.replicate 128 0) 0 (le4 gen)) 4 (le4 s) = le4 gen ++ (le4 s ++ List.replicate 120 0) := by rfl
        rw [← e]
        exact HO6.out

set_option maxHeartbeats 1000000 in
set_option maxRecDepth 100000 in
theorem sof_any (b : List UInt8) (v : Value) (w : World) (hrd : Rd w v b) :
    Calls Tryz.prog 192 #[v] w fun e w' => e = .returned (.tuple #[.int .u32 (ofS b).1, .int .i64 (ofS b).2.1, .int .i64 (ofS b).2.2]) ∧ Below w.heap.size w w' := by
  obtain ⟨a, c, rfl⟩ := hrd.form
  by_cases hl : b.length = 128
  · have HL := hide hl
    rw [hl] at hrd ⊢
    obtain ⟨g, off, rfl, -, hnc, hr1⟩ := rd_sub hrd 0 4 (by omega) (by omega)
    obtain ⟨g', off', e', -, -, hr2⟩ := rd_sub hrd 4 8 (by omega) (by omega)
    cases e'
    have hcm : c ≤ maxLen := by
      rcases hrd with ⟨rfl, _⟩ | ⟨b', off', c', e, h1, h2, hc⟩
      · exact absurd hl (by decide)
      · simp only [Value.slice.injEq] at e
        rw [e.2.2]; exact h2
    have e1 : (b.drop 0).take (4 - 0) = b.take 4 := rfl
    have e2 : (b.drop 4).take (8 - 4) = (b.drop 4).take 4 := rfl
    rw [e1] at hr1
    rw [e2] at hr2
    have l1 : (b.take 4).length = 4 := by rw [List.length_take]; omega
    have l2 : ((b.drop 4).take 4).length = 4 := by rw [List.length_take, List.length_drop]; omega
    obtain ⟨G, eG⟩ : ∃ G, G = un4 (b.take 4) := ⟨_, rfl⟩
    obtain ⟨Z, eZ⟩ : ∃ Z, Z = un4 ((b.drop 4).take 4) := ⟨_, rfl⟩
    have hG : G < 4294967296 := by rw [eG]; have := un4_lt (b.take 4); rw [l1] at this; omega
    have hZ : Z < 4294967296 := by rw [eZ]; have := un4_lt ((b.drop 4).take 4); rw [l2] at this; omega
    have HOF := hide (show ofS b = if (blockS G Z).2 ≠ 0 ∨ b ≠ (blockS G Z).1 then (0, 0, 8) else (G, Z, 0) by unfold ofS; rw [if_neg (by omega), ← eG, ← eZ])
    have HR := hide hrd
    have HR1 := hide hr1
    have HR2 := hide hr2
    have HL1 := hide l1
    have HL2 := hide l2
    have EG := hide eG
    have EZ := hide eZ
    have hwz : IntKind.i64.wrap (Z : Int) = Z := by rw [IntKind.wrap_i64]; omega
    clear hl hrd hr1 hr2 e1 e2 l1 l2 eG eZ
    go_enter Tryz.func192, Tryz.ntmps192
    go_wp2_with fail
    refine (number_any g off 128 c 0 _ (by omega) hnc hcm).mono ?_
    rintro e w1 ⟨rfl, hb1, hc1, -⟩
    go_wp2_with fail
    refine (get_any g (off + 0) w.heap.size (c - 0) _ _ HL1.out (HR1.out.carry hb1) hc1).mono ?_
    rintro e w1' ⟨rfl, rfl⟩
    rw [← EG.out]
    go_wp2_with fail
    refine (number_any g off 128 c 4 _ (by omega) hnc hcm).mono ?_
    rintro e w2 ⟨rfl, hb2, hc2, -⟩
    have hB2 : Below w.heap.size w w2 := hb1.trans (hb2.mono hb1.size)
    go_wp2_with fail
    refine (get_any g (off + 4) w1'.heap.size (c - 4) _ _ HL2.out (HR2.out.carry hB2) hc2).mono ?_
    rintro e w2' ⟨rfl, rfl⟩
    rw [← EZ.out]
    clear hc1 hc2 hb2
    go_wp2_with fail
    refine (sblock_any G Z _ hG).mono ?_
    rintro e w3 ⟨bv, rfl, hO3, hb3⟩
    have hB3 : Below w.heap.size w w3 := hB2.trans (hb3.mono hB2.size)
    have HO3 := hide hO3
    clear hO3 hb3
    by_cases hok : (blockS G Z).2 = 0
    · rw [hok]
      go_wp2_with fail
      refine (equal_any _ _ b (blockS G Z).1 _ (HR.out.carry hB3) HO3.out.rd).mono ?_
      rintro e w3' ⟨rfl, rfl⟩
      by_cases heq : b = (blockS G Z).1
      · have HE := hide (show ofS b = (G, Z, 0) by rw [HOF.out, if_neg (by rw [hok]; simp [← heq])])
        rw [decide_eq_true heq]
        clear heq
        go_wp2
        go_ret3
        rw [HE.out]
        exact ⟨rfl, hB3⟩
      · have HE := hide (show ofS b = (0, 0, 8) by rw [HOF.out, if_pos (.inr heq)])
        rw [decide_eq_false heq]
        clear heq
        go_wp2
        go_ret3
        rw [HE.out]
        exact ⟨rfl, hB3⟩
    · have HE := hide (show ofS b = (0, 0, 8) by rw [HOF.out, if_pos (.inl hok)])
      rw [show (blockS G Z).2 = 2 by rw [blockS_err hok]]
      go_wp2
      go_ret3
      rw [HE.out]
      exact ⟨rfl, hB3⟩
  · have HE := hide (show ofS b = (0, 0, 3) by unfold ofS; rw [if_pos hl])
    have hl' : ¬ (b.length : Int) = 128 := by omega
    go_enter Tryz.func192, Tryz.ntmps192
    go_wp2
    go_ret3
    rw [HE.out]
    exact ⟨rfl, Below.refl _ _⟩

end Go.Proofs.YtabaomacfijppaaGreat
namespace Go.Proofs.YtabaomacfijppaaGreat
open Go.RowKit
set_option linter.unusedVariables false
set_option linter.unusedSimpArgs false

def accS (d : Dk) : Nat → Nat × Nat
  | 0 => (0, 0)
  | k + 1 => laterS (accS d k) (lastS d k)
set_option maxHeartbeats 1000000 in
set_option maxRecDepth 100000 in
theorem lasting_any {d : Dk} {v : Value} (k : Nat) (w : World) (hD : RdD w v d) (hok : okD d = true) (hm : 34 < mny d) (hk : k < 2) :
    Calls Tryz.prog 148 #[v, .int .i64 k] w fun e w' => e = .returned (.tuple #[.int .u32 (lastS d k).1, .int .i64 (lastS d k).2]) ∧ Below w.heap.size w w' := by
  obtain ⟨a1, c1, a2, c2, a3, c3, rfl, h1, h2, _⟩ := hD.form
  obtain ⟨hlen, -, hm2, -⟩ := (okD_iff d).1 hok
  have hl1 : d.1.length = 128 * mny d := by unfold mny; omega
  have hkl : (k + 1) * 128 ≤ d.1.length := by omega
  obtain ⟨b9, o9, rfl, -, hnc, hrd⟩ := rd_sub h1 (k * 128) ((k + 1) * 128) (by omega) hkl
  have eb : (d.1.drop (k * 128)).take ((k + 1) * 128 - k * 128) = blk d.1 k := by
    unfold blk; rw [show (k + 1) * 128 - k * 128 = 128 by omega, Nat.mul_comm]
  rw [eb] at hrd
  have hx : (k + 1) * 128 - k * 128 = 128 := by omega
  rw [hx] at hrd
  have HRD := hide hrd
  generalize e1 : d.1.length = n1 at *
  generalize e2 : d.2.1.length = n2 at *
  generalize e3 : d.2.2.length = n3 at *
  have hh3 : (k + 1) * 128 ≤ c1 := by omega
  have hh2 : ¬ k * 128 = c1 := by omega
  clear hD h1 h2 hrd eb hlen hl1 hm hm2 e1 e2 e3
  obtain ⟨hw1, hw2, hw3⟩ := wrapk k (by omega)
  obtain ⟨w1, ew⟩ : ∃ w1, w.alloc (.cells #[.slice (some ⟨b9, o9, none⟩) n1 c1, .slice a2 n2 c2, .slice a3 n3 c3] 26) = w1 := ⟨_, rfl⟩
  have hb1 : Below w.heap.size w w1 := by rw [← ew]; exact (Below.refl _ _).alloc (Nat.le_refl _) _
  have k0 : w1.cell? ⟨w.heap.size, 0, none⟩ = some (.slice (some ⟨b9, o9, none⟩) n1 c1) := by rw [← ew]; simp
  obtain ⟨r, er⟩ : ∃ r, r = ofS (blk d.1 k) := ⟨_, rfl⟩
  have HER := hide er
  have hr1 : r.1 < 4294967296 := by rw [er]; exact (ofS_lt _).1
  clear er
  go_enter Tryz.func148, Tryz.ntmps148
  go_wp2_with fail
  refine (sof_any (blk d.1 k) _ _ (HRD.out.carry hb1)).mono ?_
  rintro e w2 ⟨rfl, hb2⟩
  have hB2 : Below w.heap.size w w2 := hb1.trans (hb2.mono hb1.size)
  rw [← HER.out]
  clear ew k0 hb1 hb2 hw1 hw2 hw3 hh2 hh3 hx hnc hkl
  go_wp2_with fail
  refine (swhere_any r.1 _ hr1).mono ?_
  rintro e w3 ⟨rfl, rfl⟩
  by_cases hp : r.1 % 2 = k
  · have HE := hide (show lastS d k = (r.1, r.2.1) by unfold lastS; rw [← HER.out, if_pos hp])
    have hp' : ((r.1 % 2 : Nat) : Int) = k := by omega
    clear hp
    go_wp2
    go_ret2
    rw [HE.out]
    exact ⟨rfl, hB2⟩
  · have HE := hide (show lastS d k = (0, 0) by unfold lastS; rw [← HER.out, if_neg hp])
    have hp' : ¬ ((r.1 % 2 : Nat) : Int) = k := by omega
    clear hp
    go_wp2
    go_ret2
    rw [HE.out]
    exact ⟨rfl, hB2⟩

set_option maxHeartbeats 1000000 in
set_option maxRecDepth 100000 in
theorem slatest_any {d : Dk} {v : Value} (w : World) (hD : RdD w v d) :
    Calls Tryz.prog 76 #[v] w fun e w' => e = .returned (.tuple #[.int .u32 (latestS d).1, .int .i64 (latestS d).2.1, .int .i64 (latestS d).2.2]) ∧ Below w.heap.size w w' := by
  obtain ⟨a1, c1, a2, c2, a3, c3, rfl, _, _, _⟩ := hD.form
  have HD := hide hD
  clear hD
  generalize e1 : d.1.length = n1 at *
  generalize e2 : d.2.1.length = n2 at *
  generalize e3 : d.2.2.length = n3 at *
  clear e1 e2 e3
  obtain ⟨w1, ew⟩ : ∃ w1, w.alloc (.cells #[.slice a1 n1 c1, .slice a2 n2 c2, .slice a3 n3 c3] 26) = w1 := ⟨_, rfl⟩
  have hb1 : Below w.heap.size w w1 := by rw [← ew]; exact (Below.refl _ _).alloc (Nat.le_refl _) _
  have k0 : w1.cell? ⟨w.heap.size, 0, none⟩ = some (.slice a1 n1 c1) := by rw [← ew]; simp
  have k1 : w1.cell? ⟨w.heap.size, 1, none⟩ = some (.slice a2 n2 c2) := by rw [← ew]; simp
  have k2 : w1.cell? ⟨w.heap.size, 2, none⟩ = some (.slice a3 n3 c3) := by rw [← ew]; simp
  go_enter Tryz.func76, Tryz.ntmps76
  go_wp2_with fail
  refine (many_any (d := d) _ (HD.out.carry hb1)).mono ?_
  rintro e w2 ⟨rfl, hb2⟩
  have hB2 : Below w.heap.size w w2 := hb1.trans (hb2.mono hb1.size)
  have k0' := keeps_cell _ _ _ _ k0 hb2
  have k1' := keeps_cell _ _ _ _ k1 hb2
  have k2' := keeps_cell _ _ _ _ k2 hb2
  clear ew k0 k1 k2 hb1 hb2
  rcases chk_cases d with ⟨hok, hck⟩ | ⟨hok, hck⟩
  · have hmd : manyD d = ((mny d : Int), 0) := by unfold manyD; rw [if_neg (by rw [hck]; decide)]
    rw [hmd]
    obtain ⟨q, eq⟩ : ∃ q, q = mny d := ⟨_, rfl⟩
    rw [← eq]
    have HQ := hide eq
    have HCK := hide hck
    have HOK := hide hok
    clear hmd eq hck hok
    by_cases hq : q ≤ 34
    · have HE := hide (show latestS d = (0, 0, 70) by unfold latestS; rw [if_neg (by rw [HCK.out]; decide), if_pos (by rw [← HQ.out]; exact hq)])
      have hq' : (q : Int) ≤ 34 := by omega
      go_wp2
      go_ret3
      rw [HE.out]
      exact ⟨rfl, hB2⟩
    · have HE := hide (show latestS d = if (accS d 2).1 = 0 then (0, 0, 70) else ((accS d 2).1, (accS d 2).2, 0) by unfold latestS; rw [if_neg (by rw [HCK.out]; decide), if_neg (by rw [← HQ.out]; exact hq)]; rfl)
      have hq' : decide ((q : Int) ≤ 34) = false := by simpa using (by omega : ¬ (q : Int) ≤ 34)
      have HM := hide (show 34 < mny d by rw [← HQ.out]; omega)
      clear hq
      go_wp2
      clear hq'
      go_loopw [2, 3, 19] (fun g s i wr => ∃ k : Nat, k ≤ 2 ∧ i = .int .i64 k ∧ g = .int .u32 (accS d k).1 ∧ s = .int .i64 (accS d k).2 ∧ Below w2.heap.size w2 wr) (fun _ _ i _ => 2 - (intOf i).toNat)
      case atStart => exact ⟨0, Nat.zero_le _, rfl, rfl, rfl, Below.refl _ _⟩
      case round =>
        obtain ⟨k, hk, rfl, rfl, rfl, hbr⟩ := hrel
        have hBr : Below w.heap.size w wr := hB2.trans (hbr.mono hB2.size)
        obtain ⟨r, er⟩ : ∃ r, r = accS d k := ⟨_, rfl⟩
        rw [← er]
        have HR := hide er
        clear er
        by_cases hlt : k < 2
        · have hlt' : (k : Int) < 2 := by omega
          have l0 := keeps_cell _ _ _ _ k0' hbr
          have l1 := keeps_cell _ _ _ _ k1' hbr
          have l2 := keeps_cell _ _ _ _ k2' hbr
          go_wp2_with fail
          refine (lasting_any (d := d) k _ (HD.out.carry hBr) HOK.out HM.out hlt).mono ?_
          rintro e w3 ⟨rfl, hb3⟩
          obtain ⟨s, es⟩ : ∃ s, s = lastS d k := ⟨_, rfl⟩
          rw [← es]
          have HS := hide es
          have hb3' : Below w2.heap.size w2 w3 := hbr.trans (hb3.mono hbr.size)
          clear es hb3 l0 l1 l2
          by_cases hgt : r.1 < s.1
          · have hgt' : (r.1 : Int) < s.1 := by omega
            have HA := hide (show accS d (k + 1) = s by show laterS (accS d k) (lastS d k) = s; rw [← HR.out, ← HS.out]; unfold laterS; rw [if_pos hgt])
            go_wp2
            go_roundw
            case rel => exact ⟨k + 1, by omega, by go_num, by rw [HA.out], by rw [HA.out], hb3'⟩
            case measure => simp [intOf] <;> omega
          · have hgt' : decide ((r.1 : Int) < s.1) = false := by simpa using (by omega : ¬ (r.1 : Int) < s.1)
            have HA := hide (show accS d (k + 1) = r by show laterS (accS d k) (lastS d k) = r; rw [← HR.out, ← HS.out]; unfold laterS; rw [if_neg hgt])
            go_wp2
            go_roundw
            case rel => exact ⟨k + 1, by omega, by go_num, by rw [HA.out], by rw [HA.out], hb3'⟩
            case measure => simp [intOf] <;> omega
        · have hlt' : decide ((k : Int) < 2) = false := by simpa using (by omega : ¬ (k : Int) < 2)
          obtain rfl : k = 2 := by omega
          rw [← HR.out] at HE
          by_cases hz : r.1 = 0
          · have HE' := hide (HE.out.trans (if_pos hz))
            have hz' : (r.1 : Int) = 0 := by omega
            go_wp2
            go_ret3
            rw [HE'.out]
            exact ⟨rfl, hBr⟩
          · have HE' := hide (HE.out.trans (if_neg hz))
            have hz' : ¬ (r.1 : Int) = 0 := by omega
            clear hz
            go_wp2
            go_ret3
            rw [HE'.out]
            exact ⟨rfl, hBr⟩
  · have hmd : manyD d = (0, 20) := by unfold manyD; rw [if_pos (by rw [hck]; decide), hck]
    rw [hmd]
    have HE := hide (show latestS d = (0, 0, 20) by unfold latestS; rw [if_pos (by rw [hck]; decide), hck])
    clear hck hok hmd
    go_wp2
    go_ret3
    rw [HE.out]
    exact ⟨rfl, hB2⟩

end Go.Proofs.YtabaomacfijppaaGreat

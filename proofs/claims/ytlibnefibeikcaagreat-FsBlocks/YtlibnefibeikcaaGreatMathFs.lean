/-
  Plain mathematics of files on a disk: the words.
-/
import Derived.Test.YtlibnefibeikcaaGreatL2d
import Derived.Test.YtlibnefibeikcaaGreatFiRef8
import Derived.Test.YtlibnefibeikcaaGreatROne2
import Derived.Test.YtlibnefibeikcaaGreatMathDk
import Derived.Test.YtlibnefibeikcaaGreatL2c
import Derived.Test.YtlibnefibeikcaaGreatRmChk
import Derived.Test.YtlibnefibeikcaaGreatMathFi3
namespace Go.Proofs.YtlibnefibeikcaaGreat
open Go.RowKit
set_option linter.unusedVariables false
set_option linter.unusedSimpArgs false


/-- Where a disk's cells in another block are written, a disk of one's own stays. -/
theorem OwD.keptT3 {w w' : World} {base g : Nat} {v : Value} {d : Dk} {cs : Array Value} (h : OwD w base v d) (hg : w.grownBy w' (some g)) (hh : w.heap[g]? = some (.cells cs 26 (0, 0))) : OwD w' base v d := by
  obtain ⟨⟨t1, t2, t3⟩, t4, t5, t6⟩ := ne_types
  obtain ⟨a, b, c, rfl, h1, h2, h3⟩ := h
  exact ⟨a, b, c, rfl, h1.keptT hg (fun k hk => by cases hk; exact ⟨_, _, _, hh, t3⟩), h2.keptT hg (fun k hk => by cases hk; exact ⟨_, _, _, hh, t3, t5⟩), h3.keptT hg (fun k hk => by cases hk; exact ⟨_, _, _, hh, t3, t6⟩)⟩

end Go.Proofs.YtlibnefibeikcaaGreat
namespace Go.Proofs.YtlibnefibeikcaaGreat
open Go.RowKit
set_option linter.unusedVariables false
set_option linter.unusedSimpArgs false

/-- The first thing that is wrong with a disk and acts. -/
def errD (d : Dk) (l : List Ac) : Int := if chk d ≠ 0 then chk d else firstE (mny d) l
theorem doD_err' (d : Dk) (l : List Ac) (many : Int) (h : errD d l ≠ 0) : doD d l many = (dz, errD d l) := by
  unfold doD
  unfold errD at h ⊢
  by_cases hc : chk d = 0
  · have hx : ¬ (chk d ≠ 0) := by simpa using hc
    simp only [if_neg hx] at h ⊢
    rw [if_pos h]
  · rw [if_pos hc, if_pos hc]
theorem errD_zero (d : Dk) (l : List Ac) (h : errD d l = 0) : chk d = 0 ∧ firstE (mny d) l = 0 := by
  unfold errD at h
  by_cases hc : chk d = 0
  · rw [if_neg (by simpa using hc)] at h
    exact ⟨hc, h⟩
  · rw [if_pos hc] at h; exact absurd h hc
theorem doD_go (d : Dk) (l : List Ac) (mn : Nat) (h : errD d l = 0) (hm : mn ≤ l.length) : doD d l mn = (match onesD d (l.take mn) with | none => (dz, 9) | some x => (x, 0)) := by
  obtain ⟨h1, h2⟩ := errD_zero d l h
  unfold doD
  rw [if_neg (by rw [h1]; decide), if_neg (by rw [h2]; decide), if_neg (by omega)]
  rfl
end Go.Proofs.YtlibnefibeikcaaGreat
namespace Go.Proofs.YtlibnefibeikcaaGreat
open Go.RowKit
set_option linter.unusedVariables false
set_option linter.unusedSimpArgs false

/-- Nothing has turned but bytes in rows of bytes. -/
def Turned (w w' : World) : Prop := w.heap.size ≤ w'.heap.size ∧ (∀ (i : Nat) cs t fr, w.heap[i]? = some (.cells cs t fr) → t ≠ 5 → w'.heap[i]? = some (.cells cs t fr)) ∧
  ∀ (base g n c : Nat) (l : List UInt8), OwB w base (.slice (some ⟨g, 0, none⟩) n c) l → ∃ l', OwB w' base (.slice (some ⟨g, 0, none⟩) n c) l'
theorem Turned.refl (w : World) : Turned w w := ⟨Nat.le_refl _, fun _ _ _ _ h _ => h, fun _ _ _ _ l h => ⟨l, h⟩⟩
theorem Turned.trans {a b c : World} (h : Turned a b) (k : Turned b c) : Turned a c :=
  ⟨Nat.le_trans h.1 k.1, fun i cs t fr hi ht => k.2.1 i cs t fr (h.2.1 i cs t fr hi ht) ht, fun base g n cc l hO => by
    obtain ⟨l', h'⟩ := h.2.2 base g n cc l hO
    exact k.2.2 base g n cc l' h'⟩
theorem Turned.of_below {a b : World} (h : Below a.heap.size a b) : Turned a b :=
  ⟨h.size, fun i cs t fr hi _ => keeps_block _ _ _ _ hi h, fun base g n c l hO => ⟨l, hO.carry h⟩⟩
theorem Turned.set {w : World} {base g n c : Nat} {l : List UInt8} (h : OwB w base (.slice (some ⟨g, 0, none⟩) n c) l) (j : Nat) (b : UInt8) : Turned w (w.setCell ⟨g, j, none⟩ (.int .u8 b.toNat)) := by
  have hg := (h.stored j b).2
  refine ⟨hg.size, fun i cs t fr hi ht => ?_, fun base' g' n' c' l' hO => ?_⟩
  · refine (hg.block i (Array.getElem?_eq_some_iff.1 hi).1 fun e => ?_).trans hi
    cases e
    obtain ⟨cs', hc⟩ := row_block h g rfl
    rw [hi] at hc
    cases hc
    exact ht rfl
  · by_cases e : g' = g
    · subst e
      exact ⟨_, (hO.stored j b).1⟩
    · exact ⟨l', World.ownsRow.kept hO hg (.inr (by simp [Value.ownBlock]; omega))⟩
theorem OwB.turned {w w' : World} {base : Nat} {v : Value} {l : List UInt8} (h : OwB w base v l) (hT : Turned w w') : ∃ l', OwB w' base v l' := by
  rcases id h with ⟨_, ⟨rfl, hn⟩ | ⟨g, cap, cur, rfl, _⟩⟩
  · exact ⟨[], World.ownsRow_nil _ _ _ _⟩
  · exact hT.2.2 _ _ _ _ _ h
theorem OwB.len' {w : World} {base n c : Nat} {a : Option Addr} {l : List UInt8} (h : OwB w base (.slice a n c) l) : n = l.length := by
  obtain ⟨a, c', e⟩ := h.form
  cases e; rfl
theorem own_keptU {w w' : World} {base : Nat} {e : TypeId} {s : Nat} {v : Value} {n : Nat} {xs : List Value} (h : w.ownsRow base e s v n xs) (hT : Turned w w') (he : e ≠ 5) : w'.ownsRow base e s v n xs := by
  refine ⟨h.1, ?_⟩
  rcases h.2 with h | ⟨g, cap, cur, rfl, h1, h2, h3⟩
  · exact .inl h
  · exact .inr ⟨g, cap, cur, rfl, h1, hT.2.1 _ _ _ _ h2 he, h3⟩
theorem turned_z {w w' : World} {base : Nat} (hT : Turned w w') : ∀ z : List (Pu × Value), (∀ p ∈ z, OwB w base p.2 p.1.2) → ∃ z' : List (Pu × Value), cellsW z' = cellsW z ∧ z'.length = z.length ∧ ∀ p ∈ z', OwB w' base p.2 p.1.2
  | [], _ => ⟨[], rfl, rfl, by simp⟩
  | p :: z, h => by
    obtain ⟨z', h1, h2, h3⟩ := turned_z hT z (fun q hq => h q (List.mem_cons_of_mem _ hq))
    obtain ⟨l', hl⟩ := (h p List.mem_cons_self).turned hT
    refine ⟨((p.1.1, l'), p.2) :: z', ?_, by simp [h2], fun q hq => ?_⟩
    · show [Value.int .i64 p.1.1, p.2] ++ cellsW z' = [Value.int .i64 p.1.1, p.2] ++ cellsW z
      rw [h1]
    · rcases List.mem_cons.1 hq with rfl | hq
      · exact hl
      · exact h3 q hq
theorem turned_za {w w' : World} {base : Nat} (hT : Turned w w') : ∀ z : List (Ac × Value), (∀ p ∈ z, OwB w base p.2 p.1.2.2) → ∃ z' : List (Ac × Value), cellsA z' = cellsA z ∧ z'.length = z.length ∧ ∀ p ∈ z', OwB w' base p.2 p.1.2.2
  | [], _ => ⟨[], rfl, rfl, by simp⟩
  | p :: z, h => by
    obtain ⟨z', h1, h2, h3⟩ := turned_za hT z (fun q hq => h q (List.mem_cons_of_mem _ hq))
    obtain ⟨l', hl⟩ := (h p List.mem_cons_self).turned hT
    refine ⟨((p.1.1, p.1.2.1, l'), p.2) :: z', ?_, by simp [h2], fun q hq => ?_⟩
    · show [Value.bool p.1.1, .int .i64 p.1.2.1, p.2] ++ cellsA z' = [Value.bool p.1.1, .int .i64 p.1.2.1, p.2] ++ cellsA z
      rw [h1]
    · rcases List.mem_cons.1 hq with rfl | hq
      · exact hl
      · exact h3 q hq
/-- A disk of one's own is still one. -/
theorem OwD.turned {w w' : World} {base : Nat} {v : Value} {d : Dk} (h : OwD w base v d) (hT : Turned w w') : ∃ d', OwD w' base v d' := by
  obtain ⟨x, y, z, rfl, h1, ⟨zy, e1, hy, hy2⟩, ⟨zz, e2, hz, hz2⟩⟩ := h
  obtain ⟨l1, g1⟩ := h1.turned hT
  obtain ⟨zy', q1, q2, q3⟩ := turned_z hT zy hy2
  obtain ⟨zz', r1, r2, r3⟩ := turned_za hT zz hz2
  refine ⟨(l1, zy'.map (·.1), zz'.map (·.1)), x, y, z, rfl, g1, ⟨zy', rfl, ?_, q3⟩, ⟨zz', rfl, ?_, r3⟩⟩
  · rw [q1, List.length_map, q2]; rw [← e1, List.length_map] at hy; exact own_keptU hy hT (by decide)
  · rw [r1, List.length_map, r2]; rw [← e2, List.length_map] at hz; exact own_keptU hz hT (by decide)

theorem wrap8 (b : UInt8) : IntKind.u8.wrap ((b.toNat : Int) + 1) = ((b + 1).toNat : Int) := by
  rw [IntKind.wrap_u8, UInt8.toNat_add]
  have : (1 : UInt8).toNat = 1 := rfl
  rw [this]; omega
/-- One byte is turned. -/
theorem turn_step {w1 wr : World} {base n c : Nat} {a : Option Addr} {l : List UInt8} (hO : OwB w1 base (.slice a n c) l) (hT : Turned w1 wr) (hB : Below base w1 wr) (k : Nat) (hk : k < n) :
    ∃ (g : Nat) (bk bj : Int), a = some ⟨g, 0, none⟩ ∧ wr.cell? ⟨g, k, none⟩ = some (.int .u8 bk) ∧ wr.frozen? ⟨g, k, none⟩ = false ∧ IntKind.u8.wrap (bk + 1) = bj ∧
      Hid (Turned w1 (wr.drew.setCell ⟨g, k, none⟩ (.int .u8 bj)) ∧ Below base w1 (wr.drew.setCell ⟨g, k, none⟩ (.int .u8 bj))) := by
  have hn := hO.len'
  rcases id hO with ⟨_, ⟨_, h0⟩ | ⟨g, cap, cur, e, hg, _⟩⟩
  · omega
  cases e
  obtain ⟨l', hO'⟩ := hO.turned hT
  have hn' := hO'.len'
  have hk' : k < l'.length := by omega
  refine ⟨g, (l'[k]).toNat, _, rfl, hO'.at k hk', hO'.fz k, wrap8 _, ?_, ?_⟩
  · have := (hO'.carry (Below.refl wr.heap.size wr).drew).stored k (l'[k] + 1)
    exact (hT.trans (Turned.of_below (Below.refl wr.heap.size wr).drew)).trans (Turned.set (hO'.carry (Below.refl wr.heap.size wr).drew) k _)
  · exact hB.drew.setCell hg _

end Go.Proofs.YtlibnefibeikcaaGreat
namespace Go.Proofs.YtlibnefibeikcaaGreat
open Go.RowKit
set_option linter.unusedVariables false
set_option linter.unusedSimpArgs false

/-- A number's four bytes, the least first; and the number that four bytes are. -/
def le4 (n : Nat) : List UInt8 := [UInt8.ofNat (n % 256), UInt8.ofNat (n / 256 % 256), UInt8.ofNat (n / 65536 % 256), UInt8.ofNat (n / 16777216 % 256)]
def un4 : List UInt8 → Nat
  | [] => 0
  | b :: l => b.toNat + 256 * un4 l
theorem le4_len (n : Nat) : (le4 n).length = 4 := rfl
theorem un4_lt : ∀ l : List UInt8, un4 l < 256 ^ l.length
  | [] => by simp [un4]
  | b :: l => by
    have := un4_lt l
    have hb := b.toNat_lt
    rw [un4, List.length_cons, Nat.pow_succ]
    omega
theorem un4_snoc (b : UInt8) : ∀ l : List UInt8, un4 (l ++ [b]) = un4 l + b.toNat * 256 ^ l.length
  | [] => by simp [un4]
  | c :: l => by
    have e : un4 (c :: l ++ [b]) = c.toNat + 256 * un4 (l ++ [b]) := rfl
    rw [e, un4_snoc b l, un4, List.length_cons, Nat.pow_succ, Nat.mul_add, Nat.add_assoc]
    congr 2
    rw [Nat.mul_comm (256 ^ l.length) 256, ← Nat.mul_assoc, ← Nat.mul_assoc, Nat.mul_comm 256 b.toNat]
theorem u8_ofNat_mod (m : Nat) : UInt8.ofNat (m % 256) = UInt8.ofNat m := UInt8.toNat_inj.1 (by simp [UInt8.toNat_ofNat'])
theorem le4_get (n k : Nat) (hk : k < 4) : (le4 n)[k]'(by rw [le4_len]; exact hk) = UInt8.ofNat (n / 2 ^ (8 * k)) := by
  match k, hk with
  | 0, _ => simp [le4, u8_ofNat_mod]
  | 1, _ => simp [le4, u8_ofNat_mod]
  | 2, _ => simp [le4, u8_ofNat_mod]
  | 3, _ => simp [le4, u8_ofNat_mod]
theorem un4_take (l : List UInt8) (k : Nat) (hk : k < l.length) : un4 (l.take (k + 1)) = un4 (l.take k) + (l[k]).toNat * 256 ^ k := by
  rw [List.take_succ_eq_append_getElem hk, un4_snoc]
  congr 2
  rw [List.length_take, Nat.min_eq_left (by omega)]

/-- A superblock; what bytes are as one; a gen's slot; the latest one on a disk. -/
def blockS (gen : Nat) (size : Int) : List UInt8 × Int := if gen = 0 ∨ size < 0 ∨ 2048 < size then ([], 2) else (le4 gen ++ (le4 size.toNat ++ List.replicate 120 0), 0)
def ofS (b : List UInt8) : Nat × Nat × Int :=
  if b.length ≠ 128 then (0, 0, 3)
  else if (blockS (un4 (b.take 4)) (un4 ((b.drop 4).take 4))).2 ≠ 0 ∨ b ≠ (blockS (un4 (b.take 4)) (un4 ((b.drop 4).take 4))).1 then (0, 0, 8)
  else (un4 (b.take 4), un4 ((b.drop 4).take 4), 0)
def lastS (d : Dk) (n : Nat) : Nat × Nat := if (ofS (blk d.1 n)).1 % 2 = n then ((ofS (blk d.1 n)).1, (ofS (blk d.1 n)).2.1) else (0, 0)
def laterS (a b : Nat × Nat) : Nat × Nat := if a.1 < b.1 then b else a
def bestS (d : Dk) : Nat × Nat := laterS (laterS (0, 0) (lastS d 0)) (lastS d 1)
def latestS (d : Dk) : Nat × Nat × Int :=
  if chk d ≠ 0 then (0, 0, chk d) else if mny d ≤ 34 then (0, 0, 70)
  else if (bestS d).1 = 0 then (0, 0, 70) else ((bestS d).1, (bestS d).2, 0)

theorem blockS_ok {gen : Nat} {size : Int} (h : (blockS gen size).2 = 0) : gen ≠ 0 ∧ 0 ≤ size ∧ size ≤ 2048 ∧ (blockS gen size).1 = le4 gen ++ (le4 size.toNat ++ List.replicate 120 0) := by
  unfold blockS at *
  split at h
  · cases h
  · rename_i c
    rw [if_neg c]
    exact ⟨by omega, by omega, by omega, rfl⟩
theorem blockS_of {gen : Nat} {size : Int} (h1 : gen ≠ 0) (h2 : 0 ≤ size) (h3 : size ≤ 2048) : blockS gen size = (le4 gen ++ (le4 size.toNat ++ List.replicate 120 0), 0) := by
  unfold blockS; rw [if_neg (by omega)]
theorem blockS_err {gen : Nat} {size : Int} (h : (blockS gen size).2 ≠ 0) : blockS gen size = ([], 2) := by
  unfold blockS at *
  split
  · rfl
  · rename_i c; rw [if_neg c] at h; exact absurd rfl h
theorem ofS_ok {b : List UInt8} (h : (ofS b).2.2 = 0) : blockS (ofS b).1 ((ofS b).2.1 : Nat) = (b, 0) := by
  unfold ofS at *
  split at h
  · cases h
  · rename_i c1
    split at h
    · cases h
    · rename_i c2
      rw [if_neg c1, if_neg c2]
      have h1 : (blockS (un4 (b.take 4)) (un4 ((b.drop 4).take 4))).2 = 0 := by
        by_cases hx : (blockS (un4 (b.take 4)) (un4 ((b.drop 4).take 4))).2 = 0
        · exact hx
        · exact absurd (.inl hx) c2
      have h2 : b = (blockS (un4 (b.take 4)) (un4 ((b.drop 4).take 4))).1 := by
        by_cases hx : b = (blockS (un4 (b.take 4)) (un4 ((b.drop 4).take 4))).1
        · exact hx
        · exact absurd (.inr hx) c2
      show blockS (un4 (b.take 4)) (un4 ((b.drop 4).take 4)) = (b, 0)
      exact Prod.ext h2.symm h1
theorem ofS_err {b : List UInt8} (h : (ofS b).2.2 ≠ 0) : (ofS b).1 = 0 ∧ (ofS b).2.1 = 0 := by
  unfold ofS at *
  split
  · exact ⟨rfl, rfl⟩
  · rename_i c1
    rw [if_neg c1] at h
    split
    · exact ⟨rfl, rfl⟩
    · rename_i c2; rw [if_neg c2] at h; exact absurd rfl h
theorem ofS_lt (b : List UInt8) : (ofS b).1 < 4294967296 ∧ (ofS b).2.1 ≤ 2048 := by
  by_cases h : (ofS b).2.2 = 0
  · have := ofS_ok h
    obtain ⟨h1, h2, h3, _⟩ := blockS_ok (by rw [this] : (blockS (ofS b).1 ((ofS b).2.1 : Nat)).2 = 0)
    refine ⟨?_, by omega⟩
    unfold ofS
    split
    · show (0 : Nat) < _; omega
    · split
      · show (0 : Nat) < _; omega
      · have := un4_lt (b.take 4)
        have hle : 256 ^ (b.take 4).length ≤ 256 ^ 4 := Nat.pow_le_pow_right (by decide) (by rw [List.length_take]; omega)
        exact Nat.lt_of_lt_of_le this hle
  · obtain ⟨h1, h2⟩ := ofS_err h
    rw [h1, h2]; exact ⟨by omega, by omega⟩

end Go.Proofs.YtlibnefibeikcaaGreat
namespace Go.Proofs.YtlibnefibeikcaaGreat
open Go.RowKit
set_option linter.unusedVariables false
set_option linter.unusedSimpArgs false

theorem latestS_ok {d : Dk} {gen was : Nat} (h : latestS d = (gen, was, 0)) : okD d = true ∧ 34 < mny d ∧ gen ≠ 0 ∧ bestS d = (gen, was) := by
  unfold latestS at h
  split at h
  · rename_i c
    have := congrArg (fun x => x.2.2) h
    exact absurd this c
  · rename_i c1
    split at h
    · cases h
    · split at h
      · cases h
      · rename_i c2 c3
        injection h with h1 h2
        injection h2 with h2 h3
        refine ⟨ok_of_chk (by omega), by omega, by rw [← h1]; exact c3, ?_⟩
        exact Prod.ext h1 h2
theorem lastS_par (d : Dk) (n : Nat) : (lastS d n).1 = 0 ∨ (lastS d n).1 % 2 = n := by
  unfold lastS
  split
  · rename_i h; exact .inr h
  · exact .inl rfl
theorem laterS_or (a b : Nat × Nat) : laterS a b = a ∨ laterS a b = b := by
  unfold laterS
  split
  · exact .inr rfl
  · exact .inl rfl
/-- The latest one stands in its own slot. -/
theorem bestS_slot {d : Dk} {gen was : Nat} (h : bestS d = (gen, was)) (hg : gen ≠ 0) : lastS d (gen % 2) = (gen, was) := by
  have p0 := lastS_par d 0
  have p1 := lastS_par d 1
  unfold bestS at h
  rcases laterS_or (laterS (0, 0) (lastS d 0)) (lastS d 1) with e | e
  · rw [e] at h
    rcases laterS_or (0, 0) (lastS d 0) with e | e
    · rw [e] at h
      exact absurd (congrArg Prod.fst h).symm hg
    · rw [e] at h
      rw [h] at p0
      have : gen % 2 = 0 := by
        rcases p0 with p0 | p0
        · exact absurd p0 hg
        · exact p0
      rw [this]; exact h
  · rw [e] at h
    rw [h] at p1
    have : gen % 2 = 1 := by
      rcases p1 with p1 | p1
      · exact absurd p1 hg
      · exact p1
    rw [this]; exact h
end Go.Proofs.YtlibnefibeikcaaGreat
namespace Go.Proofs.YtlibnefibeikcaaGreat
open Go.RowKit
set_option linter.unusedVariables false
set_option linter.unusedSimpArgs false

/-- Files on a disk: the disk, the gen, the directory, the committed one. -/
abbrev Fsd := Dk × Nat × List Fl × List Fl
def fz : Fsd := (dz, 0, [], [])
/-- The bytes of a gen's directory that last. -/
def genB (d : Dk) (gen size : Nat) : List UInt8 := (d.1.drop (128 * (2 + gen % 2 * 16))).take size
def okFs (f : Fsd) : Prop := (latestS f.1).2.2 = 0 ∧ (latestS f.1).1 = f.2.1 ∧ (∀ p ∈ f.1.2.1, 34 ≤ p.1) ∧ readE (genB f.1 f.2.1 (latestS f.1).2.1) (mny f.1) = 0 ∧ readL (genB f.1 f.2.1 (latestS f.1).2.1) (mny f.1) = f.2.2.2 ∧ chkF f.2.2.1 (mny f.1) = 0
instance (f : Fsd) : Decidable (okFs f) := inferInstanceAs (Decidable (_ ∧ _ ∧ _ ∧ _ ∧ _ ∧ _))
def fsE (f : Fsd) : Int := if okFs f then 0 else 8
def usedFs (f : Fsd) : List Ex := usedL f.2.2.1 ++ usedL f.2.2.2
def mnyFs (f : Fsd) : Int := (manyD f.1).1
/-- A file's blocks; its i-th block. -/
def bloE (f : Fsd) (s : List UInt8) : Int := if thereE f.2.2.1 s ≠ 0 then thereE f.2.2.1 s else chkX (getF f.2.2.1 s)
def bloL (f : Fsd) (s : List UInt8) : List Int := if thereE f.2.2.1 s ≠ 0 then [] else blocksR (getF f.2.2.1 s)
def atE (f : Fsd) (s : List UInt8) (i : Int) : Int := if bloE f s ≠ 0 then bloE f s else if i < 0 ∨ ((bloL f s).length : Int) ≤ i then 2 else 0
def atN (f : Fsd) (s : List UInt8) (i : Int) : Int := if atE f s i ≠ 0 then 0 else (bloL f s).getD i.toNat 0
def sizeE (f : Fsd) (s : List UInt8) : Int := if fsE f ≠ 0 then fsE f else bloE f s
def sizeN (f : Fsd) (s : List UInt8) : Int := if fsE f ≠ 0 then 0 else (bloL f s).length
def getE (f : Fsd) (s : List UInt8) (i : Int) : Int := if fsE f ≠ 0 then fsE f else if atE f s i ≠ 0 then atE f s i else (readD f.1 (atN f s i)).2
def getL (f : Fsd) (s : List UInt8) (i : Int) : List UInt8 := if fsE f ≠ 0 then [] else if atE f s i ≠ 0 then [] else (readD f.1 (atN f s i)).1
def namesL (f : Fsd) : List (List UInt8) := if fsE f ≠ 0 then [] else f.2.2.1.map (·.1)
def roomE (f : Fsd) : Int := if fsE f ≠ 0 then fsE f else if freeE 34 (mnyFs f) (usedFs f) ≠ 0 then freeE 34 (mnyFs f) (usedFs f) else chkX (freeL 34 (mnyFs f) (usedFs f))
def roomN (f : Fsd) : Int := if fsE f ≠ 0 then 0 else if freeE 34 (mnyFs f) (usedFs f) ≠ 0 then 0 else manyR (freeL 34 (mnyFs f) (usedFs f))

/-! ### on the way -/
/-- Files on the way; the error; the directory's bytes. -/
abbrev Wy := Fsd × Int × List UInt8
abbrev Stp := Wy → Wy × Int
def thenW (s : Stp) (x : Wy) : Wy := if x.2.1 = 0 then ((s x).1.1, (s x).2, (s x).1.2.2) else x
def beginW (f : Fsd) : Wy := (f, fsE f, [])
def endW (x : Wy) : Fsd × Int := if x.2.1 ≠ 0 then (fz, x.2.1) else (x.1, 0)
def diskW (x : Wy) (d : Dk) : Wy := ((d, x.1.2), x.2)
def writeW (n : Int) (b : List UInt8) : Stp := fun x => (diskW x (doD x.1.1 [(false, n, b)] 1).1, (doD x.1.1 [(false, n, b)] 1).2)
def putW (s : List UInt8) (i : Int) (b : List UInt8) : Stp := fun x => if atE x.1 s i ≠ 0 then (x, atE x.1 s i) else writeW (atN x.1 s i) b x
/-- Bytes as whole blocks. -/
def padB (l : List UInt8) : List UInt8 := l.take 128 ++ List.replicate (128 - l.length) 0
def wholeB (l : List UInt8) : List (List UInt8) := (List.range ((l.length + 127) / 128)).map fun k => padB (l.drop (128 * k))
def writesW : Int → List (List UInt8) → Stp
  | _, [], x => (x, 0)
  | n, b :: l, x => if (writeW n b x).2 ≠ 0 then writeW n b x else writesW (n + 1) l (writeW n b x).1
def wdirW : Stp := fun x => writesW ((2 + x.1.2.1 % 2 * 16 : Nat) : Int) (wholeB x.2.2) x
def putFs (f : Fsd) (s : List UInt8) (i : Int) (b : List UInt8) : Fsd × Int := endW (thenW (putW s i b) (beginW f))
theorem fsE_cases (f : Fsd) : (okFs f ∧ fsE f = 0) ∨ (¬ okFs f ∧ fsE f = 8) := by
  unfold fsE; by_cases h : okFs f
  · exact .inl ⟨h, if_pos h⟩
  · exact .inr ⟨h, if_neg h⟩
theorem fsE_ok {f : Fsd} (h : fsE f = 0) : okFs f := by rcases fsE_cases f with h1 | h1; exact h1.1; rw [h1.2] at h; cases h
theorem fsE_of {f : Fsd} (h : okFs f) : fsE f = 0 := by unfold fsE; exact if_pos h
/-- What follows for the disk of files that may be. -/
theorem okFs_disk {f : Fsd} (h : okFs f) : okD f.1 = true ∧ 34 < mny f.1 ∧ f.2.1 ≠ 0 ∧ latestS f.1 = (f.2.1, (latestS f.1).2.1, 0) := by
  obtain ⟨h1, h2, _⟩ := h
  have e : latestS f.1 = (f.2.1, (latestS f.1).2.1, 0) := by rw [← h2, ← h1]
  obtain ⟨a, b, c, _⟩ := latestS_ok e
  exact ⟨a, b, c, e⟩
theorem chk_ok6 {d : Dk} (h : okD d = true) : chk d = 0 := by unfold chk; rw [if_pos h]
theorem mnyFs_ok {f : Fsd} (h : okD f.1 = true) : mnyFs f = mny f.1 := by unfold mnyFs manyD; rw [chk_ok6 h]; rfl
end Go.Proofs.YtlibnefibeikcaaGreat

/-
  Small laws of our own over the model: a row of bytes that a call owns and appends to, and a slice of bytes that is read. No program is named here.
-/
import Derived.Test.YtmeaiocohalphaaDoorMath
import Derived.WalkKit
import Derived.WalkSmall
import Derived.Lib.AppendStr
import Derived.Laws.AppendOwnNone
import Derived.Laws.OwnMore
import Derived.Laws.BytesArg
import Derived.OpenShut
namespace Go.Proofs.YtmeaiocohalphaaDoor
open Go.RowKit

theorem u8v_oneCell (l : List UInt8) : ∀ u ∈ u8v l, u.oneCell' = true := by
  intro u hu
  simp only [u8v, List.mem_map] at hu
  obtain ⟨b, _, rfl⟩ := hu
  rfl

theorem u8v_getElem? (l : List UInt8) (j : Nat) (u : Value) (h : (u8v l)[j]? = some u) : ∃ hj : j < l.length, u = .int .u8 (l[j]).toNat := by
  simp only [u8v, List.getElem?_map, Option.map_eq_some_iff] at h
  obtain ⟨b, hb, rfl⟩ := h
  obtain ⟨hj, rfl⟩ := List.getElem?_eq_some_iff.1 hb
  exact ⟨hj, rfl⟩

def Rd (w : World) (v : Value) (l : List UInt8) : Prop :=
  (l = [] ∧ (v = .slice none 0 0 ∨ ∃ a c, v = .slice (some a) 0 c)) ∨
  ∃ b off c, v = .slice (some ⟨b, off, none⟩) l.length c ∧ l.length ≤ c ∧ c ≤ maxLen ∧ ∀ j, (h : j < l.length) → w.cell? ⟨b, off + j, none⟩ = some (.int .u8 (l[j]).toNat)

theorem Rd.carry {w w' : World} {v : Value} {l : List UInt8} (h : Rd w v l) (hb : Below w.heap.size w w') : Rd w' v l := by
  rcases h with h | ⟨b, off, c, rfl, hc, hm, hcell⟩
  · exact .inl h
  · refine .inr ⟨b, off, c, rfl, hc, hm, fun j hj => ?_⟩
    rw [hb.cell (World.block_lt_of_cell? w _ (hcell j hj))]
    exact hcell j hj

theorem own_rd {w : World} {base : Nat} {e : TypeId} {v : Value} {l : List UInt8} (h : w.ownsRow base e 1 v l.length (u8v l)) : Rd w v l := by
  rcases h.2 with ⟨rfl, hn⟩ | ⟨g, cap, cur, rfl, _, hg, hn, hm, hsz, htake⟩
  · exact .inl ⟨List.length_eq_zero_iff.1 hn, .inl rfl⟩
  · refine .inr ⟨g, 0, cap, rfl, hn, hm, fun j hj => ?_⟩
    have := h.cells (g := g) rfl j (.int .u8 (l[j]).toNat) (by simp [u8v, List.getElem?_eq_getElem hj])
    simpa [Addr.add_lit] using this

section
variable {P : Program}

theorem wpList_app1 {ops : Array Oper} {rest : List Oper} {o : Oper} {a : Act} {Q : Exit → Act → World → Prop} (W wr : World) (hgd : o.guard = none) (s x : Operand) (t : TypeId)
    (ho : o.op = .call { callee := .builtin .append, args := #[s, x], argTypes := #[t, t] })
    (base : Nat) (e : TypeId) (ht : P.underlying t = some (.slice e)) (hi : (P.info? e).map (fun i => (i.zero, i.size, i.bytes)) = some (some (.int .u8 0), 1, 1))
    (v : Value) (l : List UInt8) (hown : wr.ownsRow base e 1 v l.length (u8v l)) (hs : a.eval s = v) (hbel : Below base W wr) (hb : base ≤ W.heap.size)
    (z : Int) (c : UInt8) (hz : z = c.toNat) (hx : a.eval x = .slice (some ⟨wr.heap.size, 0, none⟩) 1 1) (hlen : l.length + 1 ≤ 1000000000000)
    (h : ∀ v' w', w'.ownsRow base e 1 v' (l ++ [c]).length (u8v (l ++ [c])) → Below base W w' → wpList P ops Q rest (a.put o.dst v') w') :
    wpList P ops Q (o :: rest) a (wr.alloc (.cells #[.int .u8 z] e)) := by
  obtain ⟨i0, hi, hz0, hz1, hz2⟩ := info_parts hi
  subst hz
  have hbw : base ≤ wr.heap.size := by have := hbel.size; omega
  refine wpList_append_own _ hgd s x t ho base e i0 (.int .u8 0) 1 1 ht hi hz0 hz1 hz2 rfl (by decide) v l.length (u8v l) hs (hown.alloc _) ⟨wr.heap.size, 0, none⟩ 1 1 [.int .u8 c.toNat] hx rfl ?_ ?_ ?_ ?_ ?_ ?_
  · intro j u hj
    match j, hj with
    | 0, hj => simp at hj; subst hj; simp [Addr.add]
  · intro u hu; simp at hu; subst hu; rfl
  · unfold maxLen; omega
  · omega
  · simp; omega
  · intro v' w' hown' hg _
    refine h v' w' (by simpa [u8v] using hown') ((hbel.alloc hbw _).grown hg (by simp; omega) fun k hk => (hown.lt k hk).1)

theorem wpList_apps {ops : Array Oper} {rest : List Oper} {o : Oper} {a : Act} {Q : Exit → Act → World → Prop} (W wr : World) (hgd : o.guard = none) (s x : Operand) (t : TypeId)
    (ho : o.op = .call { callee := .builtin .append, args := #[s, x], argTypes := #[t, t] })
    (base : Nat) (e : TypeId) (ht : P.underlying t = some (.slice e)) (hi : (P.info? e).map (fun i => (i.zero, i.size, i.bytes)) = some (some (.int .u8 0), 1, 1))
    (v : Value) (l : List UInt8) (hown : wr.ownsRow base e 1 v l.length (u8v l)) (hs : a.eval s = v) (hbel : Below base W wr) (hb : base ≤ W.heap.size)
    (b off c m : Nat) (l2 : List UInt8) (hm : l2.length = m) (hx : a.eval x = .slice (some ⟨b, off, none⟩) m c) (hcell : ∀ j, (h : j < l2.length) → wr.cell? ⟨b, off + j, none⟩ = some (.int .u8 (l2[j]).toNat)) (hlen : l.length + l2.length ≤ 1000000000000)
    (h : ∀ v' w', w'.ownsRow base e 1 v' (l ++ l2).length (u8v (l ++ l2)) → Below base W w' → (v' = .slice none 0 0 ↔ v = .slice none 0 0 ∧ l2.length = 0) → wpList P ops Q rest (a.put o.dst v') w') :
    wpList P ops Q (o :: rest) a wr := by
  obtain ⟨i0, hi, hz0, hz1, hz2⟩ := info_parts hi
  subst hm
  have hbw : base ≤ wr.heap.size := by have := hbel.size; omega
  refine wpList_append_own _ hgd s x t ho base e i0 (.int .u8 0) 1 1 ht hi hz0 hz1 hz2 rfl (by decide) v l.length (u8v l) hs hown ⟨b, off, none⟩ l2.length c (u8v l2) hx (by simp) ?_ (u8v_oneCell l2) ?_ ?_ ?_ ?_
  · intro j u hj
    obtain ⟨hj', rfl⟩ := u8v_getElem? l2 j u hj
    simpa [Addr.add_lit] using hcell j hj'
  · unfold maxLen; omega
  · omega
  · omega
  · intro v' w' hown' hg hnil
    refine h v' w' (by simpa [u8v_append] using hown') (hbel.grown hg (by omega) fun k hk => (hown.lt k hk).1) hnil

theorem wpList_appstr {ops : Array Oper} {rest : List Oper} {o : Oper} {a : Act} {Q : Exit → Act → World → Prop} (W wr : World) (hgd : o.guard = none) (s x : Operand) (t u : TypeId)
    (ho : o.op = .call { callee := .builtin .append, args := #[s, x], argTypes := #[t, u] })
    (base : Nat) (e : TypeId) (ht : P.underlying t = some (.slice e)) (hu : P.underlying u = some .string) (hi : (P.info? e).map (fun i => (i.zero, i.size, i.bytes)) = some (some (.int .u8 0), 1, 1))
    (v : Value) (l : List UInt8) (hown : wr.ownsRow base e 1 v l.length (u8v l)) (hs : a.eval s = v) (hbel : Below base W wr) (hb : base ≤ W.heap.size)
    (st : ByteArray) (hx : a.eval x = .string st) (hlen : l.length + st.size ≤ 1000000000000)
    (h : ∀ v' w', w'.ownsRow base e 1 v' (l ++ st.data.toList).length (u8v (l ++ st.data.toList)) → Below base W w' → wpList P ops Q rest (a.put o.dst v') w') :
    wpList P ops Q (o :: rest) a wr := by
  obtain ⟨i0, hi, hz0, hz1, hz2⟩ := info_parts hi
  have hbw : base ≤ wr.heap.size := by have := hbel.size; omega
  have hsz : st.data.toList.length = st.size := by rw [Array.length_toList]; rfl
  refine Lib.wpList_append_own_string _ hgd s x t u ho base e i0 ht hu hi hz0 hz1 hz2 v l.length (u8v l) hs hown st hx ?_ ?_ ?_ ?_
  · unfold maxLen; omega
  · omega
  · omega
  · intro v' w' hown' hg _
    refine h v' w' ?_ (hbel.grown hg (by omega) fun k hk => (hown.lt k hk).1)
    rw [List.length_append, hsz, u8v_append]
    exact hown'

def bs (l : List UInt8) : ByteArray := ⟨l.toArray⟩
@[simp] theorem bs_toList (l : List UInt8) : (bs l).data.toList = l := by simp [bs]
theorem bs_size (l : List UInt8) : (bs l).size = l.length := by show l.toArray.size = l.length; exact List.size_toArray
theorem bs_of (s : ByteArray) : bs s.data.toList = s := by cases s; simp [bs]
theorem strOfNums_u8 (l : List UInt8) : strOfNums (l.map fun x => (x.toNat : Int)) = bs l := by
  have h := strOfNums_data (l.map fun x => (x.toNat : Int))
  rw [← bs_of (strOfNums _), h]
  congr 1
  rw [List.map_map]
  have : ((fun n : Int => UInt8.ofNat n.toNat) ∘ fun x : UInt8 => (x.toNat : Int)) = id := by
    funext x; simp
  rw [this, List.map_id]

theorem conv_rd {w : World} {v : Value} {l : List UInt8} (t e d : TypeId) (ht : P.underlying t = some (.slice e)) (he : P.underlying e = some (.int .u8)) (hd : P.underlying d = some .string) (h : Rd w v l) :
    (convert t d v).run P w = .ok (.string (bs l)) w := by
  rcases h with ⟨rfl, rfl | ⟨a, c, rfl⟩⟩ | ⟨b, off, c, rfl, hc, hm, hcell⟩
  · rw [run_convert_bytes_string w t d e none 0 0 ht he hd]
    simp [Conv.bytesToString]; rfl
  · rw [run_convert_bytes_string w t d e (some a) 0 c ht he hd, run_bytesToString w a 0 c [] (by simp [loadCells]; rfl)]
    rfl
  · rw [run_convert_bytes_arg w t e ht he b off l.length c (l.map fun x => (x.toNat : Int)) (by simp) (fun i hi => by
      rw [hcell i hi]; simp [List.getD, List.getElem?_eq_getElem hi]) d hd, strOfNums_u8]

end
end Go.Proofs.YtmeaiocohalphaaDoor

/- Where a part stands in a text, by the places at which it ends; what a body of a loop over these places must keep. No program stands here. -/
import Derived.Test.YtohjcimkpcpgbaaDoorRefE
import Derived.Test.YtohjcimkpcpgbaaDoorBord
namespace Go.Proofs.YtohjcimkpcpgbaaDoor
open Go Go.RowKit Go.WideShapes

theorem stands_suf {s p : ByteArray} {i : Nat} (h : i + p.size ≤ s.size) : stands s i p = true ↔ Kmp.Suf (num s) (num p) (i + p.size) p.size := by
  unfold stands Lib.hasPrefix
  rw [List.isPrefixOf_iff_prefix, List.prefix_iff_eq_take]
  have h1 : p.data.toList.length = p.size := by rw [Array.length_toList]; rfl
  have h3 : s.data.toList.length = s.size := by rw [Array.length_toList]; rfl
  have gs : ∀ k (hk : k < s.size), num s k = (s.data.toList[k]'(by rw [h3]; exact hk)).toNat := fun k hk => num_at s k hk
  have gp : ∀ k (hk : k < p.size), num p k = (p.data.toList[k]'(by rw [h1]; exact hk)).toNat := fun k hk => num_at p k hk
  constructor
  · intro he
    refine ⟨by omega, fun t ht => ?_⟩
    rw [show i + p.size - p.size + t = i + t from by omega, gs (i + t) (by omega), gp t ht]
    have e2 := congrArg (fun l : List UInt8 => l[t]?) he
    rw [List.getElem?_take_of_lt (by omega), List.getElem?_drop, List.getElem?_eq_getElem (by omega), List.getElem?_eq_getElem (by omega)] at e2
    injection e2 with e2
    rw [e2]
  · rintro ⟨_, hf⟩
    apply List.ext_getElem
    · rw [List.length_take, List.length_drop]; omega
    · intro t ht1 ht2
      rw [List.getElem_take, List.getElem_drop]
      have := hf t (by omega)
      rw [show i + p.size - p.size + t = i + t from by omega, gs (i + t) (by omega), gp t (by omega)] at this
      exact (UInt8.toNat_inj.1 this).symm
/-- The places at which a part stands and ends up to a place. -/
def occE (s p : ByteArray) (i : Nat) : List Nat := (List.range (i + 1 - p.size)).filter fun k => stands s k p
theorem occE_zero {s p : ByteArray} (hp : 0 < p.size) : occE s p 0 = [] := by unfold occE; rw [show 0 + 1 - p.size = 0 from by omega]; rfl
theorem occE_yes {s p : ByteArray} {i : Nat} (hp : p.size ≤ i + 1) (h : stands s (i + 1 - p.size) p = true) : occE s p (i + 1) = occE s p i ++ [i + 1 - p.size] := by
  unfold occE
  rw [show i + 1 + 1 - p.size = (i + 1 - p.size) + 1 from by omega, List.range_succ, List.filter_append]
  simp [h]
theorem occE_no {s p : ByteArray} {i : Nat} (hp : p.size ≤ i + 1) (h : stands s (i + 1 - p.size) p = false) : occE s p (i + 1) = occE s p i := by
  unfold occE
  rw [show i + 1 + 1 - p.size = (i + 1 - p.size) + 1 from by omega, List.range_succ, List.filter_append]
  simp [h]
theorem occE_far {s p : ByteArray} {i : Nat} (hp : ¬ p.size ≤ i + 1) : occE s p (i + 1) = occE s p i := by
  unfold occE
  rw [show i + 1 + 1 - p.size = 0 from by omega, show i + 1 - p.size = 0 from by omega]
theorem occE_len (s p : ByteArray) (i : Nat) : (occE s p i).length ≤ i + 1 - p.size := by
  unfold occE
  refine Nat.le_trans (List.length_filter_le _ _) ?_
  rw [List.length_range]
  exact Nat.le_refl _
/-- Behind one byte more: by what the search has found. -/
theorem occE_lst {s p : ByteArray} {i k : Nat} (_h0 : 0 < p.size) (hi : i < s.size) (h : Kmp.Lst (num s) (num p) (i + 1) p.size k) :
    (k = p.size → p.size ≤ i + 1 ∧ occE s p (i + 1) = occE s p i ++ [i + 1 - p.size]) ∧ (k ≠ p.size → occE s p (i + 1) = occE s p i) := by
  have hw := h.whole
  constructor
  · intro hk
    have hs := hw.2 hk
    have hle := hs.1
    refine ⟨hle, occE_yes hle ?_⟩
    rw [stands_suf (by omega), show i + 1 - p.size + p.size = i + 1 from by omega]
    exact hs
  · intro hk
    by_cases hle : p.size ≤ i + 1
    · refine occE_no hle ?_
      cases hst : stands s (i + 1 - p.size) p
      · rfl
      · rw [stands_suf (by omega), show i + 1 - p.size + p.size = i + 1 from by omega] at hst
        exact absurd (hw.1 hst) hk
    · exact occE_far hle

/-- What the cell at Bo holds does not own block k. -/
def NotOut (Bo : Nat) (W : World) (k : Nat) : Prop := ∀ v, W.cell? ⟨Bo, 0, none⟩ = some v → v.ownBlock ≠ some k
/-- What a body keeps that writes the boxes of X, and the row that the box Bo owns: all other rows of cells; and that row becomes no older one. -/
structure KpF (X : Nat → Prop) (Bo : Nat) (W W' : World) : Prop where
  size : W.heap.size ≤ W'.heap.size
  kept : ∀ k c t fz, W.heap[k]? = some (.cells c t fz) → ¬ X k → NotOut Bo W k → W'.heap[k]? = some (.cells c t fz)
  out : ∀ k, k < W.heap.size → NotOut Bo W k → NotOut Bo W' k
theorem KpF.refl (X : Nat → Prop) (Bo : Nat) (W : World) : KpF X Bo W W := ⟨Nat.le_refl _, fun _ _ _ _ h _ _ => h, fun _ _ h => h⟩
theorem lt_of_heap {W : World} {k : Nat} {o : Obj} (h : W.heap[k]? = some o) : k < W.heap.size := by
  rcases Nat.lt_or_ge k W.heap.size with h' | h'
  · exact h'
  · rw [Array.getElem?_eq_none h'] at h; cases h
theorem KpF.trans {X : Nat → Prop} {Bo : Nat} {A B C : World} (h : KpF X Bo A B) (k : KpF X Bo B C) : KpF X Bo A C :=
  ⟨Nat.le_trans h.size k.size, fun j c t fz hj hx hn => k.kept j c t fz (h.kept j c t fz hj hx hn) hx (h.out j (lt_of_heap hj) hn), fun j hj hn => k.out j (Nat.lt_of_lt_of_le hj h.size) (h.out j hj hn)⟩
theorem cell_box (w : World) (u : Value) (e : TypeId) : (w.alloc (.cells #[u] e)).cell? ⟨w.heap.size, 0, none⟩ = some u := by rw [cell_of_row _ _ _ _ _ _ (heap_alloc_new w _)]; rfl
theorem cell_old {w : World} {a : Addr} {v : Value} (o : Obj) (h : w.cell? a = some v) : (w.alloc o).cell? a = some v := by
  rw [World.cell?_alloc_lt w o a (World.block_lt_of_cell? w a h)]
  exact h
theorem heap_old {w : World} {k : Nat} {x : Obj} (o : Obj) (h : w.heap[k]? = some x) : (w.alloc o).heap[k]? = some x := (Below.heap_alloc w o k (lt_of_heap h)).trans h
end Go.Proofs.YtohjcimkpcpgbaaDoor

/- What a loop's body leaves that appends onto the row of a box and writes other boxes. No program stands here. -/
import Derived.Test.YtohjcimkpcpgbaaDoorOcc
import Derived.RangeFuncWrites
import Derived.RangeFuncCalls
import Derived.RangeFuncBox
namespace Go.Proofs.YtohjcimkpcpgbaaDoor
open Go Go.RowKit Go.WideShapes

theorem heap_set_same {W : World} {b : Nat} {u u' : Value} {t : TypeId} (h : W.heap[b]? = some (.cells #[u] t (0, 0))) : (W.setCell ⟨b, 0, none⟩ u').heap[b]? = some (.cells #[u'] t (0, 0)) := by
  simp [World.setCell, Array.getElem?_modify, h]
theorem KpF.setCell {X : Nat → Prop} {Bo b : Nat} (W : World) (hX : X b) (hb : b ≠ Bo) (u : Value) : KpF X Bo W (W.setCell ⟨b, 0, none⟩ u) := by
  refine ⟨by simp [World.setCell], fun k c t fz hk hx _ => ?_, fun k _ hn v hv => hn v ?_⟩
  · rw [Below.heap_setCell W _ u k (by rintro rfl; exact hx hX)]; exact hk
  · rw [← World.cell?_of_block (w := W) (w' := W.setCell ⟨b, 0, none⟩ u) (a := ⟨Bo, 0, none⟩) (Below.heap_setCell W _ u Bo (fun e => hb e.symm))]
    exact hv
structure Appended (X : Nat → Prop) (bo base : Nat) (e t : TypeId) (v' : Value) (n : Nat) (xs : List Value) (V W1 : World) : Prop where
  others : KeepsOthers V W1
  kpf : KpF X bo V W1
  box : W1.heap[bo]? = some (.cells #[v'] t (0, 0))
  row : W1.ownsRow base e 1 v' n xs
  same : ∀ k, k < base → k ≠ bo → W1.heap[k]? = V.heap[k]?
  size : V.heap.size ≤ W1.heap.size
  os : W1.os = V.os
  tape : W1.tape = V.tape
  output : W1.output = V.output
theorem appended_of {X : Nat → Prop} {bo base n : Nat} {e t : TypeId} {v v' u : Value} {xs : List Value} {V w' : World} (hX : X bo) (hbo : bo < base) (hbV : base ≤ V.heap.size)
    (hbox : V.heap[bo]? = some (.cells #[v] t (0, 0))) (hrow : V.ownsRow base e 1 v n xs) (hg : ((V.alloc (.cells #[u] e)).drew).grownBy w' v.ownBlock) (hown : w'.ownsRow base e 1 v' (n + 1) (xs ++ [u]))
    (hat : v'.ownBlock = v.ownBlock ∨ v'.ownBlock = some V.heap.size ∨ v'.ownBlock = some (V.heap.size + 1)) :
    Appended X bo base e t v' (n + 1) (xs ++ [u]) V (w'.setCell ⟨bo, 0, none⟩ v') := by
  have hvn : ∀ k, k < base → some k ≠ v.ownBlock := fun k hk e => by have := (hrow.lt _ e.symm).1; omega
  have hal : ∀ k, k < V.heap.size → some k ≠ v.ownBlock → w'.heap[k]? = V.heap[k]? := fun k hk hne =>
    (hg.block k (show k < (V.alloc (.cells #[u] e)).heap.size by simp; omega) hne).trans (Below.heap_alloc V _ k hk)
  have hcell : V.cell? ⟨bo, 0, none⟩ = some v := by rw [cell_of_row _ _ _ _ _ _ hbox]; rfl
  have hbox' : w'.heap[bo]? = some (.cells #[v] t (0, 0)) := (hal bo (by omega) (hvn bo hbo)).trans hbox
  have hs : V.heap.size ≤ w'.heap.size := Nat.le_trans (by show _ ≤ (V.alloc (.cells #[u] e)).heap.size; simp) hg.size
  have hkc : ∀ j o, v.ownBlock = some j → ((V.alloc (.cells #[u] e)).drew).heap[j]? = some o → o.isCells = true := by
    intro j o hj ho
    rcases hrow.2 with ⟨rfl, _⟩ | ⟨g, cap, cur, rfl, _, hh, _⟩
    · simp [Value.ownBlock] at hj
    · have : g = j := by simpa [Value.ownBlock] using hj
      subst this
      have h2 : ((V.alloc (.cells #[u] e)).drew).heap[g]? = some (.cells cur e (0, 0)) := heap_old _ hh
      rw [h2] at ho
      injection ho with ho
      subst ho
      rfl
  refine ⟨((KeepsOthers.alloc V _).trans (KeepsOthers.drew _)).trans ((KeepsOthers.of_grownBy hg hkc).trans (KeepsOthers.setCell _ _ _)), ⟨by simpa [World.setCell] using hs, ?_, ?_⟩, heap_set_same hbox', ownsRow_setCell_below hown (a := ⟨bo, 0, none⟩) hbo v', ?_, by simpa [World.setCell] using hs, hg.os, hg.tape, hg.output⟩
  · intro k c t' fz hk hx hn
    rw [Below.heap_setCell w' _ v' k (by rintro rfl; exact hx hX), hal k (lt_of_heap hk) (fun e => hn v hcell e.symm)]
    exact hk
  · intro k hk hn x hx
    have hx2 : x = v' := by
      rw [cell_of_row _ _ _ _ _ _ (heap_set_same (u' := v') hbox')] at hx
      simpa using hx.symm
    subst hx2
    have := hn v hcell
    rcases hat with h | h | h <;> rw [h]
    · exact this
    · intro e; injection e with e; omega
    · intro e; injection e with e; omega
  · intro k hk hne
    rw [Below.heap_setCell w' _ v' k hne]
    exact hal k (by omega) (hvn k hk)
end Go.Proofs.YtohjcimkpcpgbaaDoor

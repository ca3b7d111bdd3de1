/- A row of bytes that a conversion has made: what it holds, behind a store, turned back. No program stands here. -/
import Derived.Test.YtohjcimkpcpgbaaDoorRow
import Derived.Lib.ConvBytes
import Derived.Lib.SlBytesRow
namespace Go.Proofs.YtohjcimkpcpgbaaDoor
open Go Go.RowKit

/-- Block b is a conversion's row whose first cells are these bytes. -/
def BRow (w : World) (e : TypeId) (b : Nat) (l : List UInt8) : Prop :=
  ∃ cur, w.heap[b]? = some (.cells cur e (cur.size, cur.size + 1)) ∧ l.length ≤ cur.size ∧ ∀ j (h : j < l.length), cur[j]? = some (.int .u8 (l[j].toNat : Int))

theorem BRow.made (w : World) (e : TypeId) (s : ByteArray) : BRow (Lib.bytesWorld w e s) e w.heap.size s.data.toList := by
  refine ⟨_, Lib.bytesWorld_at_new w e s, ?_, fun j h => ?_⟩
  · unfold Lib.bytesCells; simp
  · unfold Lib.bytesCells
    have h' : j < s.data.size := by simpa using h
    rw [Array.getElem?_append_left (by simpa using h')]
    simp only [Array.getElem?_map, Array.getElem?_eq_getElem h', Option.map_some, Array.getElem_toList]
theorem BRow.cell {w : World} {e : TypeId} {b : Nat} {l : List UInt8} (h : BRow w e b l) (j : Nat) (hj : j < l.length) : w.cell? ⟨b, j, none⟩ = some (.int .u8 (l[j].toNat : Int)) := by
  obtain ⟨cur, hb, _, hc⟩ := h
  rw [Lib.cell_of_heap hb]
  exact hc j hj
theorem BRow.frozen {w : World} {e : TypeId} {b : Nat} {l : List UInt8} (h : BRow w e b l) (j : Nat) (hj : j < l.length) : w.frozen? ⟨b, j, none⟩ = false := by
  obtain ⟨cur, hb, hl, _⟩ := h
  simp [World.frozen?, hb]
  omega
theorem BRow.lt {w : World} {e : TypeId} {b : Nat} {l : List UInt8} (h : BRow w e b l) : b < w.heap.size := by
  obtain ⟨cur, hb, _⟩ := h
  rcases Nat.lt_or_ge b w.heap.size with h' | h'
  · exact h'
  · rw [Array.getElem?_eq_none h'] at hb; cases hb
theorem BRow.stored {w : World} {e : TypeId} {b : Nat} {l : List UInt8} (h : BRow w e b l) (j : Nat) (hj : j < l.length) (c : UInt8) : BRow (w.setCell ⟨b, j, none⟩ (.int .u8 (c.toNat : Int))) e b (l.set j c) := by
  obtain ⟨cur, hb, hl, hc⟩ := h
  refine ⟨cur.setIfInBounds j (.int .u8 (c.toNat : Int)), ?_, by simpa using hl, fun i hi => ?_⟩
  · simp [World.setCell, Array.getElem?_modify, hb]
  · have hi' : i < l.length := by simpa using hi
    rw [Array.getElem?_setIfInBounds]
    by_cases hij : j = i
    · subst hij
      rw [if_pos rfl, if_pos (by omega)]
      simp
    · rw [if_neg hij, hc i hi']
      simp [hij]
theorem BRow.drew {w : World} {e : TypeId} {b : Nat} {l : List UInt8} (h : BRow w e b l) : BRow w.drew e b l := h
theorem BRow.bytes {w : World} {e : TypeId} {b : Nat} {l : List UInt8} (h : BRow w e b l) : Lib.Bytes w b 0 ⟨l.toArray⟩ := by
  intro i hi
  have hi' : i < l.length := by simpa [ByteArray.size] using hi
  rw [Nat.zero_add, h.cell i hi']
  rfl
end Go.Proofs.YtohjcimkpcpgbaaDoor

/- A row of bytes that is written on, beside a buffer that is read: what an append gives. No program stands here. -/
import Derived.WalkKit
import Derived.Below
import Derived.Laws.OwnMore
import Derived.Maps.AppendAt
import Derived.Deep.AppendLies
import Derived.Deep.Draws
import Derived.Lib.UnsafeStr
namespace Go.Proofs.YtamgdmmijlbjjaaGreatDoor
open Go Go.RowKit

theorem bc_len (l : List UInt8) : (Lib.byteCells l).length = l.length := by unfold Lib.byteCells; rw [List.length_map]
theorem bc_app (l m : List UInt8) : Lib.byteCells (l ++ m) = Lib.byteCells l ++ Lib.byteCells m := by unfold Lib.byteCells; rw [List.map_append]
theorem bc_one (l : List UInt8) : ∀ u ∈ Lib.byteCells l, u.oneCell' = true := by
  intro u hu
  obtain ⟨_, _, rfl⟩ := List.mem_map.1 hu
  rfl
theorem cell_kept {w w' : World} {r : Option Nat} {b : Nat} (hg : w.grownBy w' r) (hb : b < w.heap.size) (hr : r ≠ some b) (j : Nat) : w'.cell? ⟨b, j, none⟩ = w.cell? ⟨b, j, none⟩ :=
  World.cell?_of_block (w := w) (w' := w') (a := ⟨b, j, none⟩) (hg.block b hb (Ne.symm hr))

/-- v is a row of the call's own (from block h on) that holds acc; block b, another one, holds l. -/
structure Wr (w0 w : World) (e : TypeId) (h b : Nat) (l : List UInt8) (v : Value) (acc : List UInt8) : Prop where
  own : w.ownsRow h e 1 v acc.length (Lib.byteCells acc)
  apart : v.ownBlock ≠ some b
  cells : ∀ j (hj : j < l.length), w.cell? ⟨b, j, none⟩ = some (.int .u8 (l[j].toNat : Int))
  lt : b < w.heap.size
  base : h ≤ w.heap.size
  bel : Below h w0 w

theorem Wr.drewN {w0 w : World} {e : TypeId} {h b : Nat} {l : List UInt8} {v : Value} {acc : List UInt8} (k : Wr w0 w e h b l v acc) (n : Nat) : Wr w0 (w.drewN n) e h b l v acc :=
  ⟨k.own, k.apart, k.cells, k.lt, k.base, ⟨k.bel.os, k.bel.tape, k.bel.output, k.bel.size, k.bel.block⟩⟩

section
variable {P : Program} {w0 w : World} {e : TypeId} {h b : Nat} {l : List UInt8} {v : Value} {acc : List UInt8}
theorem wr_lit {ops : Array Oper} {rest : List Oper} {o : Oper} {a : Act} {Q : Exit → Act → World → Prop} (hgd : o.guard = none) (s x : Operand) (t : TypeId)
    (ho : o.op = .call { callee := .builtin .append, args := #[s, x], argTypes := #[t, t] })
    (ht : P.underlying t = some (.slice e)) (hi : (P.info? e).map (fun i => (i.zero, i.size, i.bytes)) = some (some (.int .u8 0), 1, 1))
    {us : Array Value} (news : List UInt8) (m : Nat) (k : Wr w0 w e h b l v acc) (hs : a.eval s = v) (hx : a.eval x = .slice (some ⟨w.heap.size, 0, none⟩) m m)
    (hus : us.toList = Lib.byteCells news) (hm : news.length = m) (hlen : acc.length + m ≤ 100000)
    (cont : ∀ v' w', Wr w0 w' e h b l v' (acc ++ news) → wpList P ops Q rest (a.put o.dst v') w') :
    wpList P ops Q (o :: rest) a (w.alloc (.cells us e)) := by
  obtain ⟨i0, hi0, hz0, hz1, hz2⟩ := info_parts hi
  refine wpList_append_own_at (w := w.alloc (.cells us e)) hgd s x t ho h e i0 (.int .u8 0) 1 1 ht hi0 hz0 hz1 hz2 rfl (by omega) v acc.length (Lib.byteCells acc) hs (k.own.alloc _) ⟨w.heap.size, 0, none⟩ m m (Lib.byteCells news) hx (by rw [bc_len]; omega) ?_ (bc_one _) (by unfold maxLen; omega) (by omega) (by simp only [World.size_alloc]; have := k.base; omega) ?_
  · intro j u hj
    have hb : (w.alloc (.cells us e)).heap[w.heap.size]? = some (.cells us e (0, 0)) := heap_alloc_new w _
    have : ((⟨w.heap.size, 0, none⟩ : Addr).add j) = ⟨w.heap.size, j, none⟩ := by unfold Addr.add; split <;> simp_all
    rw [this, cell_of_row _ _ j us e (0, 0) hb, ← Array.getElem?_toList, hus]
    exact hj
  · intro v' w' h2 h3 _ h5
    refine cont v' w' ⟨?_, ?_, ?_, ?_, ?_, ?_⟩
    · rw [bc_app, List.length_append, hm]; exact h2
    · rcases h5 with h5 | h5
      · rw [h5]; exact k.apart
      · rw [h5]
        intro hc
        injection hc with hc
        have := k.lt
        simp only [World.size_alloc] at hc
        omega
    · intro j hj
      rw [cell_kept h3 (by simp only [World.size_alloc]; have := k.lt; omega) k.apart j, World.cell?_alloc_lt _ _ _ k.lt]
      exact k.cells j hj
    · have := k.lt; have h9 := h3.size; simp only [World.size_alloc] at h9; omega
    · have := k.base; have h9 := h3.size; simp only [World.size_alloc] at h9; omega
    · exact (k.bel.alloc k.base _).grown h3 (by simp only [World.size_alloc]; have := k.base; omega) (fun g hg => (k.own.lt g hg).1)
theorem wr_src {ops : Array Oper} {rest : List Oper} {o : Oper} {a : Act} {Q : Exit → Act → World → Prop} (hgd : o.guard = none) (s x : Operand) (t : TypeId)
    (ho : o.op = .call { callee := .builtin .append, args := #[s, x], argTypes := #[t, t] })
    (ht : P.underlying t = some (.slice e)) (hi : (P.info? e).map (fun i => (i.zero, i.size, i.bytes)) = some (some (.int .u8 0), 1, 1))
    (i m c : Nat) (k : Wr w0 w e h b l v acc) (hs : a.eval s = v) (hx : a.eval x = .slice (some ⟨b, i, none⟩) m c)
    (hm : i + m ≤ l.length) (hlen : acc.length + m ≤ 100000)
    (cont : ∀ v' w', Wr w0 w' e h b l v' (acc ++ (l.drop i).take m) → wpList P ops Q rest (a.put o.dst v') w') :
    wpList P ops Q (o :: rest) a w := by
  obtain ⟨i0, hi0, hz0, hz1, hz2⟩ := info_parts hi
  have hml : ((l.drop i).take m).length = m := by rw [List.length_take, List.length_drop]; omega
  refine wpList_append_own_at (w := w) hgd s x t ho h e i0 (.int .u8 0) 1 1 ht hi0 hz0 hz1 hz2 rfl (by omega) v acc.length (Lib.byteCells acc) hs k.own ⟨b, i, none⟩ m c (Lib.byteCells ((l.drop i).take m)) hx (by rw [bc_len, hml]; omega) ?_ (bc_one _) (by unfold maxLen; omega) (by omega) k.base ?_
  · intro j u hj
    have hjm : j < m := by
      have := (List.getElem?_eq_some_iff.1 hj).1
      rw [bc_len, hml] at this
      exact this
    have hij : i + j < l.length := by omega
    have : ((⟨b, i, none⟩ : Addr).add j) = ⟨b, i + j, none⟩ := by unfold Addr.add; split <;> simp_all
    rw [this, k.cells (i + j) hij, ← hj]
    unfold Lib.byteCells
    rw [List.getElem?_map, List.getElem?_take, if_pos hjm, List.getElem?_drop, List.getElem?_eq_getElem hij]
    rfl
  · intro v' w' h2 h3 _ h5
    refine cont v' w' ⟨?_, ?_, ?_, ?_, ?_, ?_⟩
    · rw [bc_app, List.length_append, hml]; exact h2
    · rcases h5 with h5 | h5
      · rw [h5]; exact k.apart
      · rw [h5]
        intro hc
        injection hc with hc
        have := k.lt
        omega
    · intro j hj
      rw [cell_kept h3 k.lt k.apart j]
      exact k.cells j hj
    · have := h3.size; have := k.lt; omega
    · have := k.base; have h9 := h3.size; omega
    · exact k.bel.grown h3 k.base (fun g hg => (k.own.lt g hg).1)
end
end Go.Proofs.YtamgdmmijlbjjaaGreatDoor

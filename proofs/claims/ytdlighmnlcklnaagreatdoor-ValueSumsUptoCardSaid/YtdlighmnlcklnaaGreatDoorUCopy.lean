/- The document's copy of a value: its walk. -/
import Derived.Test.YtdlighmnlcklnaaGreatDoorUBase
import Derived.Deep.RegionLaw
import Derived.Deep.AppendLies
import Derived.LoopTactic
namespace Go.Proofs.YtdlighmnlcklnaaGreatDoor
open Go Go.RowKit

theorem infoVal : (Tryz.prog.info? 27).map (fun i => (i.zero, i.size, i.bytes)) = some (some (.agg #[.int .i64 0, .float .f64 0, .string ⟨#[]⟩, .slice none 0 0, .slice none 0 0]), 5, 80) := by kernel_rfl
theorem row5 {w : World} {b : Nat} {u0 u1 u2 u3 u4 : Value} {t : TypeId} (hb : w.heap[b]? = some (.cells #[u0, u1, u2, u3, u4] t (0, 0))) :
    w.cell? ⟨b, 0, none⟩ = some u0 ∧ w.cell? ⟨b, 1, none⟩ = some u1 ∧ w.cell? ⟨b, 2, none⟩ = some u2 ∧ w.cell? ⟨b, 3, none⟩ = some u3 ∧ w.cell? ⟨b, 4, none⟩ = some u4 ∧
      w.frozen? ⟨b, 0, none⟩ = false ∧ w.frozen? ⟨b, 1, none⟩ = false ∧ w.frozen? ⟨b, 2, none⟩ = false ∧ w.frozen? ⟨b, 3, none⟩ = false ∧ w.frozen? ⟨b, 4, none⟩ = false := by
  simp [World.cell?, World.frozen?, hb]
theorem copy_mid {w : World} {v : V} {m : Nat} {box : Array Value} {j : Nat} {lvv kvv : Value} {ps : List (Value × Value)} {W w2 w4 : World} {o : Obj} (hI : CopyInv w v m box j lvv kvv ps W) (h2 : Below W.heap.size W w2) (hgrow : (w2.alloc o).grownBy w4 lvv.ownBlock) :
    w4.cell? ⟨w.heap.size + 1 + 1, 3, none⟩ = some lvv ∧ w4.frozen? ⟨w.heap.size + 1 + 1, 3, none⟩ = false := by
  have l2 := (Array.getElem?_eq_some_iff.1 hI.b2).1
  have hsz := h2.size
  have e : w4.heap[w.heap.size + 1 + 1]? = some (.cells (cellsV v lvv kvv) 27 (0, 0)) := by
    rw [hgrow.block _ (by simp; omega) (fun e => by have := (hI.own.lt _ e.symm).1; omega)]
    refine row_alloc3 ?_ _
    rw [h2.block _ l2]
    exact hI.b2
  obtain ⟨_, _, _, c3, _, _, _, _, z3, _⟩ := row5 e
  exact ⟨c3, z3⟩
theorem copy_low {w : World} {v : V} {m : Nat} {box : Array Value} {j : Nat} {lvv kvv : Value} {ps : List (Value × Value)} {W w2 w4 : World} {o : Obj} (hI : CopyInv w v m box j lvv kvv ps W) (h2 : Below W.heap.size W w2) (hgrow : (w2.alloc o).grownBy w4 lvv.ownBlock)
    (p : Addr) (hp : p.block < w.heap.size + 3) : w4.cell? p = W.cell? p := by
  have l2 := (Array.getElem?_eq_some_iff.1 hI.b2).1
  have hsz := h2.size
  have e : w4.heap[p.block]? = W.heap[p.block]? := by
    rw [hgrow.block _ (by simp; omega) (fun e => by have := (hI.own.lt _ e.symm).1; omega), ← h2.block _ (by omega)]
    exact ((Below.refl w2.heap.size w2).alloc (Nat.le_refl _) o).block p.block (by omega)
  unfold World.cell?
  rw [e]
theorem own_slice {w : World} {base : Nat} {e : TypeId} {size : Nat} {v : Value} {n : Nat} {xs : List Value} (h : w.ownsRow base e size v n xs) : ∃ A n c, v = .slice A n c := by
  rcases h.2 with ⟨rfl, _⟩ | ⟨g, cap, cur, rfl, _⟩
  · exact ⟨_, _, _, rfl⟩
  · exact ⟨_, _, _, rfl⟩
theorem AtP.slices {w : World} {p : Nat → Prop} : ∀ {n : Nat} {v : V} {lv kv : Value}, AtP w p n v lv kv → ∃ a1 n1 c1 a2 n2 c2, lv = .slice a1 n1 c1 ∧ kv = .slice a2 n2 c2
  | 0, _, _, _, h => h.elim
  | n + 1, v, lv, kv, h => by
    obtain ⟨_, ⟨⟨a2, c2, e2, _⟩, _⟩, _, a, c, _, _, e, _⟩ := h
    exact ⟨a, _, c, a2, _, c2, e, e2⟩
theorem own_carry {W w2 : World} {base : Nat} {e : TypeId} {size : Nat} {v : Value} {n : Nat} {xs : List Value} (h : W.ownsRow base e size v n xs) (h2 : Below W.heap.size W w2) (o : Obj) : (w2.alloc o).ownsRow base e size v n xs :=
  (h.kept (row := none) ⟨h2.os, h2.tape, h2.output, h2.size, fun k hk _ => h2.block k hk⟩ (by cases v.ownBlock <;> simp)).alloc o
theorem copy_e2 {w : World} {o0 o1 o2 o3 : Obj} {w1 : World} (hgrow : ((((w.alloc o0).alloc o1).alloc o2).alloc o3).grownBy w1 (some (w.heap.size + 1 + 1 + 1))) : w1.heap[w.heap.size + 1 + 1]? = some o2 := by
  rw [hgrow.block _ (by simp) (fun e => by simp at e)]
  have := heap_alloc_new ((w.alloc o0).alloc o1) o2
  rw [World.size_alloc, World.size_alloc] at this
  exact row_alloc3 this _
theorem carry_call {wr w2 : World} {s B q : Nat} {u1 u2 u3 u4 u5 u6 : Value} (hh : Below wr.heap.size wr w2) (hs : s + 1 + 1 < wr.heap.size) (hB : B < wr.heap.size)
    (x : wr.cell? ⟨s, 3, none⟩ = some u1) (f0 : wr.cell? ⟨B, q, none⟩ = some u2) (f1 : wr.cell? ⟨B, q + 1, none⟩ = some u3) (f2 : wr.cell? ⟨B, q + 2, none⟩ = some u4)
    (f3 : wr.cell? ⟨B, q + 3, none⟩ = some u5) (f4 : wr.cell? ⟨B, q + 4, none⟩ = some u6) :
    w2.cell? ⟨s, 3, none⟩ = some u1 ∧ w2.cell? ⟨B, q, none⟩ = some u2 ∧ w2.cell? ⟨B, q + 1, none⟩ = some u3 ∧ w2.cell? ⟨B, q + 2, none⟩ = some u4 ∧
      w2.cell? ⟨B, q + 3, none⟩ = some u5 ∧ w2.cell? ⟨B, q + 4, none⟩ = some u6 := by
  exact ⟨(hh.cell (p := ⟨s, 3, none⟩) (by show s < _; omega)).trans x, (hh.cell (p := ⟨B, q, none⟩) hB).trans f0, (hh.cell (p := ⟨B, q + 1, none⟩) hB).trans f1,
    (hh.cell (p := ⟨B, q + 2, none⟩) hB).trans f2, (hh.cell (p := ⟨B, q + 3, none⟩) hB).trans f3, (hh.cell (p := ⟨B, q + 4, none⟩) hB).trans f4⟩
def set5 (w : World) (R : Nat) (x0 x1 x2 x3 x4 : Value) : World :=
  ((((w.setCell ⟨R, 0, none⟩ x0).setCell ⟨R, 1, none⟩ x1).setCell ⟨R, 2, none⟩ x2).setCell ⟨R, 3, none⟩ x3).setCell ⟨R, 4, none⟩ x4
theorem row_setAt {w : World} {R : Nat} {cs : Array Value} {t : TypeId} {fr : Nat × Nat} (h : w.heap[R]? = some (.cells cs t fr)) (i : Nat) (x : Value) : (w.setCell ⟨R, i, none⟩ x).heap[R]? = some (.cells (cs.setIfInBounds i x) t fr) := by
  simp [World.setCell, Array.getElem?_modify, h]
theorem set5_row {w : World} {R : Nat} {u0 u1 u2 u3 u4 : Value} {t : TypeId} (h : w.heap[R]? = some (.cells #[u0, u1, u2, u3, u4] t (0, 0))) (x0 x1 x2 x3 x4 : Value) : (set5 w R x0 x1 x2 x3 x4).heap[R]? = some (.cells #[x0, x1, x2, x3, x4] t (0, 0)) := by
  exact row_setAt (row_setAt (row_setAt (row_setAt (row_setAt h 0 x0) 1 x1) 2 x2) 3 x3) 4 x4
theorem set5_other {w : World} {R k : Nat} (h : k ≠ R) (x0 x1 x2 x3 x4 : Value) : (set5 w R x0 x1 x2 x3 x4).heap[k]? = w.heap[k]? := by
  unfold set5
  rw [setCell_other_block _ h, setCell_other_block _ h, setCell_other_block _ h, setCell_other_block _ h, setCell_other_block _ h]
theorem set5_size (w : World) (R : Nat) (x0 x1 x2 x3 x4 : Value) : (set5 w R x0 x1 x2 x3 x4).heap.size = w.heap.size := by
  simp only [set5, World.setCell, Array.size_modify]
theorem copy_end {w : World} {v : V} {m : Nat} {box : Array Value} {lvv kvv : Value} {ps : List (Value × Value)} {W : World} (hs : Small v) (hI : CopyInv w v m box v.l.length lvv kvv ps W) (x0 x1 x2 x3 x4 : Value) :
    AtP (set5 W (w.heap.size + 1) x0 x1 x2 x3 x4) (fun b => w.heap.size ≤ b ∧ b < (set5 W (w.heap.size + 1) x0 x1 x2 x3 x4).heap.size) (m + 1) v lvv kvv ∧ Below w.heap.size w (set5 W (w.heap.size + 1) x0 x1 x2 x3 x4) := by
  have hb := hI.bel
  refine ⟨AtP.more (fun b hb => ⟨by have := hb.1; omega, by rw [set5_size]; exact hb.2.1⟩) _ _ _ _ (AtP.keep (fun a ha => cell_of_block (set5_other (by have := ha.1; omega) ..)) _ _ _ _ (copy_done hs hI)), ?_⟩
  have q : w.heap.size ≤ w.heap.size + 1 := by omega
  unfold set5
  exact ((((hb.setCell (p := ⟨w.heap.size + 1, 0, none⟩) q x0).setCell (p := ⟨w.heap.size + 1, 1, none⟩) q x1).setCell (p := ⟨w.heap.size + 1, 2, none⟩) q x2).setCell (p := ⟨w.heap.size + 1, 3, none⟩) q x3).setCell (p := ⟨w.heap.size + 1, 4, none⟩) q x4
end Go.Proofs.YtdlighmnlcklnaaGreatDoor

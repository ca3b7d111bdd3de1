/- A time's eight cells in memory. -/
import Derived.Test.YtimipkbingbifaaProg
import Derived.WalkKit
import Derived.ProofKit
import Derived.OpenShut
import Derived.WalkLawsBesides
import Derived.Lib.Hide
namespace Go.Proofs.Ytimipkbingbifaa
open Go Go.RowKit

/-- A store of a number: a law that the library lacks. -/
theorem run_store_float (P : Program) (a : Addr) (x : Nat) (W : World) (m : Mode) : (store a (.float .f64 x) m).run P W = stored P W a (.float .f64 x) m := run_store P W a _ m rfl
theorem row8 {w : World} {b : Nat} {u0 u1 u2 u3 u4 u5 u6 u7 : Value} {t : TypeId} (hb : w.heap[b]? = some (.cells #[u0, u1, u2, u3, u4, u5, u6, u7] t (0, 0))) :
    w.cell? ⟨b, 0, none⟩ = some u0 ∧ w.cell? ⟨b, 1, none⟩ = some u1 ∧ w.cell? ⟨b, 2, none⟩ = some u2 ∧ w.cell? ⟨b, 3, none⟩ = some u3 ∧ w.cell? ⟨b, 4, none⟩ = some u4 ∧ w.cell? ⟨b, 5, none⟩ = some u5 ∧ w.cell? ⟨b, 6, none⟩ = some u6 ∧ w.cell? ⟨b, 7, none⟩ = some u7 := by
  simp [World.cell?, hb]
theorem ice8 {w : World} {b : Nat} {u0 u1 u2 u3 u4 u5 u6 u7 : Value} {t : TypeId} (hb : w.heap[b]? = some (.cells #[u0, u1, u2, u3, u4, u5, u6, u7] t (0, 0))) :
    w.frozen? ⟨b, 0, none⟩ = false ∧ w.frozen? ⟨b, 1, none⟩ = false ∧ w.frozen? ⟨b, 2, none⟩ = false ∧ w.frozen? ⟨b, 3, none⟩ = false ∧ w.frozen? ⟨b, 4, none⟩ = false ∧ w.frozen? ⟨b, 5, none⟩ = false ∧ w.frozen? ⟨b, 6, none⟩ = false ∧ w.frozen? ⟨b, 7, none⟩ = false := by
  simp [World.frozen?, hb]
theorem row_setAt {w : World} {R : Nat} {cs : Array Value} {t : TypeId} {fr : Nat × Nat} (h : w.heap[R]? = some (.cells cs t fr)) (i : Nat) (x : Value) : (w.setCell ⟨R, i, none⟩ x).heap[R]? = some (.cells (cs.setIfInBounds i x) t fr) := by
  simp [World.setCell, Array.getElem?_modify, h]
theorem setCell_other_block {w : World} {R i k : Nat} (x : Value) (h : k ≠ R) : (w.setCell ⟨R, i, none⟩ x).heap[k]? = w.heap[k]? := by
  simp [World.setCell, Array.getElem?_modify]
  intro e; omega
theorem row_alloc3 {w : World} {R : Nat} {x : Obj} (h : w.heap[R]? = some x) (o : Obj) : (w.alloc o).heap[R]? = some x := by
  have := (Array.getElem?_eq_some_iff.1 h).1
  show (w.heap.push o)[R]? = _
  rw [Array.getElem?_push, if_neg (by omega)]
  exact h
def set8 (w : World) (R : Nat) (x0 x1 x2 x3 x4 x5 x6 x7 : Value) : World :=
  (((((((w.setCell ⟨R, 0, none⟩ x0).setCell ⟨R, 1, none⟩ x1).setCell ⟨R, 2, none⟩ x2).setCell ⟨R, 3, none⟩ x3).setCell ⟨R, 4, none⟩ x4).setCell ⟨R, 5, none⟩ x5).setCell ⟨R, 6, none⟩ x6).setCell ⟨R, 7, none⟩ x7
theorem set8_row {w : World} {R : Nat} {u0 u1 u2 u3 u4 u5 u6 u7 : Value} {t : TypeId} (h : w.heap[R]? = some (.cells #[u0, u1, u2, u3, u4, u5, u6, u7] t (0, 0))) (x0 x1 x2 x3 x4 x5 x6 x7 : Value) : (set8 w R x0 x1 x2 x3 x4 x5 x6 x7).heap[R]? = some (.cells #[x0, x1, x2, x3, x4, x5, x6, x7] t (0, 0)) := by
  have h0 : (w.setCell ⟨R, 0, none⟩ x0).heap[R]? = some (.cells #[x0, u1, u2, u3, u4, u5, u6, u7] t (0, 0)) := row_setAt h 0 x0
  have h1 : ((w.setCell ⟨R, 0, none⟩ x0).setCell ⟨R, 1, none⟩ x1).heap[R]? = some (.cells #[x0, x1, u2, u3, u4, u5, u6, u7] t (0, 0)) := row_setAt h0 1 x1
  have h2 : (((w.setCell ⟨R, 0, none⟩ x0).setCell ⟨R, 1, none⟩ x1).setCell ⟨R, 2, none⟩ x2).heap[R]? = some (.cells #[x0, x1, x2, u3, u4, u5, u6, u7] t (0, 0)) := row_setAt h1 2 x2
  have h3 : ((((w.setCell ⟨R, 0, none⟩ x0).setCell ⟨R, 1, none⟩ x1).setCell ⟨R, 2, none⟩ x2).setCell ⟨R, 3, none⟩ x3).heap[R]? = some (.cells #[x0, x1, x2, x3, u4, u5, u6, u7] t (0, 0)) := row_setAt h2 3 x3
  have h4 : (((((w.setCell ⟨R, 0, none⟩ x0).setCell ⟨R, 1, none⟩ x1).setCell ⟨R, 2, none⟩ x2).setCell ⟨R, 3, none⟩ x3).setCell ⟨R, 4, none⟩ x4).heap[R]? = some (.cells #[x0, x1, x2, x3, x4, u5, u6, u7] t (0, 0)) := row_setAt h3 4 x4
  have h5 : ((((((w.setCell ⟨R, 0, none⟩ x0).setCell ⟨R, 1, none⟩ x1).setCell ⟨R, 2, none⟩ x2).setCell ⟨R, 3, none⟩ x3).setCell ⟨R, 4, none⟩ x4).setCell ⟨R, 5, none⟩ x5).heap[R]? = some (.cells #[x0, x1, x2, x3, x4, x5, u6, u7] t (0, 0)) := row_setAt h4 5 x5
  have h6 : (((((((w.setCell ⟨R, 0, none⟩ x0).setCell ⟨R, 1, none⟩ x1).setCell ⟨R, 2, none⟩ x2).setCell ⟨R, 3, none⟩ x3).setCell ⟨R, 4, none⟩ x4).setCell ⟨R, 5, none⟩ x5).setCell ⟨R, 6, none⟩ x6).heap[R]? = some (.cells #[x0, x1, x2, x3, x4, x5, x6, u7] t (0, 0)) := row_setAt h5 6 x6
  have h7 : ((((((((w.setCell ⟨R, 0, none⟩ x0).setCell ⟨R, 1, none⟩ x1).setCell ⟨R, 2, none⟩ x2).setCell ⟨R, 3, none⟩ x3).setCell ⟨R, 4, none⟩ x4).setCell ⟨R, 5, none⟩ x5).setCell ⟨R, 6, none⟩ x6).setCell ⟨R, 7, none⟩ x7).heap[R]? = some (.cells #[x0, x1, x2, x3, x4, x5, x6, x7] t (0, 0)) := row_setAt h6 7 x7
  exact h7
theorem set8_other {w : World} {R k : Nat} (h : k ≠ R) (x0 x1 x2 x3 x4 x5 x6 x7 : Value) : (set8 w R x0 x1 x2 x3 x4 x5 x6 x7).heap[k]? = w.heap[k]? := by
  unfold set8
  rw [setCell_other_block _ h, setCell_other_block _ h, setCell_other_block _ h, setCell_other_block _ h, setCell_other_block _ h, setCell_other_block _ h, setCell_other_block _ h, setCell_other_block _ h]
theorem set8_size (w : World) (R : Nat) (x0 x1 x2 x3 x4 x5 x6 x7 : Value) : (set8 w R x0 x1 x2 x3 x4 x5 x6 x7).heap.size = w.heap.size := by
  simp only [set8, World.setCell, Array.size_modify]
theorem set8_below {B R : Nat} {w w' : World} (h : Below B w w') (q : B ≤ R) (x0 x1 x2 x3 x4 x5 x6 x7 : Value) : Below B w (set8 w' R x0 x1 x2 x3 x4 x5 x6 x7) := by
  unfold set8
  exact (((((((h.setCell (p := ⟨R, 0, none⟩) q x0).setCell (p := ⟨R, 1, none⟩) q x1).setCell (p := ⟨R, 2, none⟩) q x2).setCell (p := ⟨R, 3, none⟩) q x3).setCell (p := ⟨R, 4, none⟩) q x4).setCell (p := ⟨R, 5, none⟩) q x5).setCell (p := ⟨R, 6, none⟩) q x6).setCell (p := ⟨R, 7, none⟩) q x7
theorem results_row_tmp {P : Program} {fn : Func} {p q : Tmp} {ty : TypeId} (h : fn.results = #[.cell p ty, .tmp q]) (tmps : Array Value) (w : World) (g1 : Nat) (t1 : TypeId) (cs1 : Array Value) (fr1 : Nat × Nat) (d1 : TypeDesc) (x : Value)
    (hp : tmps.getD p undef = .pointer (some ⟨g1, 0, none⟩)) (hq : tmps.getD q undef = x) (hg1 : w.heap[g1]? = some (.cells cs1 t1 fr1))
    (hu1 : P.underlying ty = some d1) (hd1 : (match d1 with | .struct _ | .array _ _ => true | _ => false) = true) (hi1 : (P.info? ty).map (·.size) = some cs1.size) :
    (results fn tmps).run P w = .ok (.tuple #[.agg cs1, x]) w := by
  have hp' : tmps[p]?.getD undef = .pointer (some ⟨g1, 0, none⟩) := by simpa using hp
  have hq' : tmps[q]?.getD undef = x := by simpa using hq
  simp [results, h, hp', hq', asAddr, run_loadVar_row w g1 t1 ty cs1 fr1 d1 hg1 hu1 hd1 hi1]
theorem sizeTime : (Try.prog.info? 37).map (·.size) = some 8 := by kernel_rfl
/-- Two doubles that are compared within a struct: a law that the library lacks. -/
theorem eqF (d x y : Nat) (w : World) : (Op.equalIn (d + 1) 35 (.float .f64 x) (.float .f64 y)).run Try.prog w = .ok (Op.floatEq .f64 x y) w := by
  have h2 : Try.prog.underlying 35 = some (.float .f64) := by kernel_rfl
  unfold Op.equalIn
  simp [run_underlying h2]
theorem eqF_true (x y : Nat) (h : Ieee.double.order x y = some .eq) (w : World) : (Op.equalIn 9999 35 (.float .f64 x) (.float .f64 y)).run Try.prog w = .ok true w := by
  have e := eqF 9998 x y w
  have h' : Op.floatEq .f64 x y = true := by
    have h2 : FloatKind.f64.format.order x y = some .eq := h
    unfold Op.floatEq
    rw [h2]
    rfl
  rw [h'] at e
  exact e
def timeV (y m d h i : Int) (s : Nat) (wd yd : Int) : Array Value := #[.int .i64 y, .int .i64 m, .int .i64 d, .int .i64 h, .int .i64 i, .float .f64 s, .int .i64 wd, .int .i64 yd]
theorem below_drewN {B : Nat} {w w' : World} (h : Below B w w') (n : Nat) : Below B w (w'.drewN n) := by
  induction n with
  | zero => exact h
  | succ n ih => exact ih.drew
theorem drewN_heap (w : World) (n : Nat) : (w.drewN n).heap = w.heap := by
  induction n with
  | zero => rfl
  | succ n ih => exact ih
theorem drewN_row {w : World} {g : Nat} {o : Obj} (h : w.heap[g]? = some o) (n : Nat) : (w.drewN n).heap[g]? = some o := by
  rw [drewN_heap]
  exact h
end Go.Proofs.Ytimipkbingbifaa

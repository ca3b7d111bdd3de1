/- The program's Print, joined. -/
import Derived.Test.YtjhghhjnccjhmaaGreatDoorRPrint
namespace Go.Proofs.YtjhghhjnccjhmaaGreatDoor
open Go Go.RowKit

/-- What Print writes. -/
def prT (y : Sty) (m : Nat) (v : V) : Option (List UInt8) := putS (some []) (printV y (stepT y) m v 0)
theorem step_size (y : Sty) (h7 : y.ind ≤ 7) : (stepT y).size ≤ 7 := by
  unfold stepT
  split
  · decide
  · rw [size_arr, Lib.repeatL_length]
    simp
    omega
set_option maxRecDepth 100000 in
set_option maxHeartbeats 2000000 in
theorem Print_any (y : Sty) (hO : OrderC y) (h0 : 0 ≤ y.ind) (h7 : y.ind ≤ 7) (m : Nat) (hm : m ≤ 1000000) (v : V) (d : Nat) (lv kv : Value) (w : World) (hN : NumW w) (h : At w w.heap.size m v lv kv) (hr : rightV d v = true) :
    Calls Tryz.prog 10 #[.agg (cellsV v lv kv), .agg (styC y)] w fun e w' => e = .returned (.tuple #[.string (outS (prT y m v)).1, .int .i64 (outS (prT y m v)).2]) ∧ Below w.heap.size w w' := by
  obtain ⟨m, rfl⟩ : ∃ m', m = m' + 1 := by cases m with | zero => exact h.elim | succ m => exact ⟨m, rfl⟩
  have hne : ∀ l, prT y (m + 1) v = some l → l ≠ [] := by
    intro l hl
    unfold prT at hl
    by_cases hf : ([] : List UInt8).length + (printV y (stepT y) (m + 1) v 0).length ≤ 16777216
    · rw [putS_fit hf] at hl
      injection hl with hl
      rw [← hl, List.nil_append]
      exact printV_ne y _ m v 0 h.opened.1.2.2.1
    · rw [putS_not hf] at hl; cases hl
  have hns := fun W => newSheet_any y h0 h7 W
  have hval := fun b (hb : w.heap.size ≤ b) W hB hW => value_P w hN b hb y hO (stepT y) (step_size y h7) (m + 1) v lv kv d 0 (some []) W hr h hB hW (by omega)
  have hwr := fun b W hW => written_S b y (stepT y) ((0 : Nat) : Int) (prT y (m + 1) v) hne W hW
  have HNS := Lib.hid hns
  have HVAL := Lib.hid hval
  have HWR := Lib.hid hwr
  obtain ⟨a1, n1, k1, a2, n2, k2, rfl, rfl⟩ := h.slices
  clear hns hval hwr hN h hr hne hO
  have hsf := run_store_float Tryz.prog
  have d0 : decide (y.ind < 0) = false := by simp; omega
  have d7 : decide (7 < y.ind) = false := by simp; omega
  unfold cellsV at HVAL ⊢
  unfold styC at HNS ⊢
  go_enter Tryz.func10, Tryz.ntmps10
  go_wp2_with fail
  have hrow : ((w.alloc (.cells #[.int .i64 v.k, .float .f64 v.f, .string v.s, .slice a1 n1 k1, .slice a2 n2 k2] 27)).alloc (.cells #[.int .i64 y.ind, .bool y.tab, .bool y.srt, .bool y.asc, .bool y.col] 29)).heap[w.heap.size]? = some (.cells #[.int .i64 v.k, .float .f64 v.f, .string v.s, .slice a1 n1 k1, .slice a2 n2 k2] 27 (0, 0)) := row_alloc3 (heap_alloc_new w _) _
  have hbl : Below w.heap.size w ((w.alloc (.cells #[.int .i64 v.k, .float .f64 v.f, .string v.s, .slice a1 n1 k1, .slice a2 n2 k2] 27)).alloc (.cells #[.int .i64 y.ind, .bool y.tab, .bool y.srt, .bool y.asc, .bool y.col] 29)) := ((Below.refl w.heap.size w).alloc (Nat.le_refl _) _).alloc (by simp) _
  have hz1 : w.heap.size < ((w.alloc (.cells #[.int .i64 v.k, .float .f64 v.f, .string v.s, .slice a1 n1 k1, .slice a2 n2 k2] 27)).alloc (.cells #[.int .i64 y.ind, .bool y.tab, .bool y.srt, .bool y.asc, .bool y.col] 29)).heap.size := by simp; omega
  generalize ((w.alloc (.cells #[.int .i64 v.k, .float .f64 v.f, .string v.s, .slice a1 n1 k1, .slice a2 n2 k2] 27)).alloc (.cells #[.int .i64 y.ind, .bool y.tab, .bool y.srt, .bool y.asc, .bool y.col] 29)) = w1 at hrow hbl hz1 ⊢
  refine (HNS.out w1).mono ?_
  rintro e w2 ⟨b, rfl, hb, hsh, hb2⟩
  have hr2 := (hb2.block _ hz1).trans hrow
  obtain ⟨e0, e1, e2, e3, e4, _⟩ := row5' hr2
  have HB2 := Lib.hid (hbl.trans (hb2.mono hbl.size))
  have hwb : w.heap.size ≤ b := by omega
  have HSH := Lib.hid hsh
  clear hsh hb2 hbl hrow hr2
  go_wp2_with fail
  refine (HVAL.out b hwb w2 HB2.out HSH.out).mono ?_
  rintro e w3 ⟨rfl, hw3, hs3⟩
  have HW3 := Lib.hid hw3
  have HB3 := Lib.hid (HB2.out.trans (hs3.1.mono hwb))
  clear hw3 hs3
  go_wp2_with fail
  refine (HWR.out b w3 HW3.out).mono ?_
  rintro e w4 ⟨rfl, hb4⟩
  have HB4 := Lib.hid (HB3.out.trans (hb4.mono hwb))
  clear hb4
  go_wp2_with fail
  go_ret2
  exact ⟨rfl, HB4.out⟩
set_option maxRecDepth 100000 in
set_option maxHeartbeats 2000000 in
theorem Print_bad (y : Sty) (hy : -9223372036854775808 ≤ y.ind ∧ y.ind ≤ 9223372036854775807) (hbad : y.ind < 0 ∨ 7 < y.ind) (k : Int) (f : Nat) (s : ByteArray) (lv kv : Value) (w : World) :
    Calls Tryz.prog 10 #[.agg #[.int .i64 k, .float .f64 f, .string s, lv, kv], .agg (styC y)] w fun e w' => e = .returned (.tuple #[.string ⟨#[]⟩, .int .i64 2]) ∧ Below w.heap.size w w' := by
  have hsf := run_store_float Tryz.prog
  have hd : decide (y.ind < 0) = true ∨ (decide (y.ind < 0) = false ∧ decide (7 < y.ind) = true) := by
    by_cases h : y.ind < 0
    · exact Or.inl (by simpa using h)
    · exact Or.inr ⟨by simpa using h, by simp; omega⟩
  clear hbad hy
  unfold styC
  rcases hd with d0 | ⟨d0, d7⟩
  all_goals
    go_enter Tryz.func10, Tryz.ntmps10
    go_wp2_with fail
    go_ret2
    exact ⟨rfl, ((Below.refl w.heap.size w).alloc (Nat.le_refl _) _).alloc (by simp) _⟩
end Go.Proofs.YtjhghhjnccjhmaaGreatDoor

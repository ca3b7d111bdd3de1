/- The document's calendar: seconds broken down into a time. -/
import Derived.Test.YtimipkbingbifaaCRefE
namespace Go.Proofs.Ytimipkbingbifaa
open Go Go.RowKit

theorem conv_int (k : Int) (w : World) : (convert 3 35 (.int .i64 k)).run Try.prog w = .ok (.float .f64 (fI k)) w := by
  have h1 : Try.prog.underlying 3 = some (.int .i64) := by kernel_rfl
  have h2 : Try.prog.underlying 35 = some (.float .f64) := by kernel_rfl
  simp [convert, run_underlying h1, run_underlying h2, Conv.intToFloat]
  rfl
theorem ar_sub (x y z : Nat) (h : Ieee.double.sub x y = some z) (w : World) : (binOp .sub 35 (.float .f64 x) (.float .f64 y)).run Try.prog w = .ok (.float .f64 z) w := run_float_arith w .sub _ .f64 x y z h
theorem ar_add (x y z : Nat) (h : Ieee.double.add x y = some z) (w : World) : (binOp .add 35 (.float .f64 x) (.float .f64 y)).run Try.prog w = .ok (.float .f64 z) w := run_float_arith w .add _ .f64 x y z h
set_option maxRecDepth 100000 in
set_option maxHeartbeats 1000000 in
theorem refSplit_of (b : Nat) (hf : szB b < 9218868437227405312) (y m d r : Int) (hD : OkD y m d) (hn : flI b / 86400 = numI y m d) (hr : flI b % 86400 = r) (w : World) : Calls Try.prog 19 #[.float .f64 b] w
    fun e w' => e = .returned (.tuple #[.agg (timeV y m d (r / 3600) (r / 60 % 60) (secB b (r % 60)) ((numI y m d + 4) % 7) (numI y m d - beginI y 0)), .int .i64 0]) ∧ Below w.heap.size w w' := by
  have hsf := run_store_float Try.prog
  have hb : szB b ≤ 9218868437227405312 := by omega
  have hng := num_range y m d hD
  have hin := num_in y m d hD
  have hDt := fun w => refDate_of y m d hD w
  obtain ⟨hy, _, _⟩ := hD
  obtain ⟨hy1, hy2⟩ := hy
  have hbd := begin_bd y (by omega) (by omega)
  have hl := floor_low b hf
  have hh := floor_high b hf
  rw [Int.compare_eq_gt.2 (by omega)] at hl
  rw [Int.compare_eq_lt.2 (by omega)] at hh
  have hcv := fun w => conv_floor b hf (by omega) (by omega) w
  have hr1 : 0 ≤ r := by omega
  have hr2 : r < 86400 := by omega
  have hs1 := ar_sub b (floorB b) (fracB b) (frac_some b hf).1
  have hs2 := ar_add (fI (r % 60)) (fracB b) _ (sec_some b (r % 60) hf (by omega) (by omega)).1
  obtain ⟨n, hN⟩ : ∃ n, numI y m d = n := ⟨_, rfl⟩
  rw [hN] at hn hng hin hDt ⊢
  obtain ⟨B, hB⟩ : ∃ B, beginI y 0 = B := ⟨_, rfl⟩
  have hcB := fun w => refbegin_any y 0 (by omega) (by omega) (by omega) (by omega) w
  rw [hB] at hin hbd hcB ⊢
  obtain ⟨c, hc⟩ : ∃ c, (n + 4) % 7 = c := ⟨_, rfl⟩
  rw [hc]
  have HC := Lib.hid hc
  have HN := Lib.hid hn
  have HR := Lib.hid hr
  have HT := Lib.hid hDt
  have HB := Lib.hid hcB
  have hci := conv_int
  have o1 : FloatKind.f64.format.order (floorB b) 14054727237768577024 = some .gt := hl
  have o2 : FloatKind.f64.format.order (floorB b) 4831355200913801216 = some .lt := hh
  obtain ⟨hn1, hn2⟩ := hng
  obtain ⟨hB1, hB2⟩ := hbd
  obtain ⟨hi1, hi2⟩ := hin
  have hyl := yearI_two y
  have hi3 : n < B + 367 := by omega
  clear hl hh hc hn hr hDt hcB hN hB hf hyl hi2
  unfold timeV
  go_enter Try.func19, Try.ntmps19
  go_wp2_with fail
  refine (Floor_num b hb _).mono ?_
  rintro e w' ⟨rfl, rfl⟩
  have hr0 := heap_alloc_new w (Obj.cells #[.int .i64 0, .int .i64 0, .int .i64 0, .int .i64 0, .int .i64 0, .float .f64 0, .int .i64 0, .int .i64 0] 37)
  have hb0 := (Below.refl w.heap.size w).alloc (Nat.le_refl _) (Obj.cells #[.int .i64 0, .int .i64 0, .int .i64 0, .int .i64 0, .int .i64 0, .float .f64 0, .int .i64 0, .int .i64 0] 37)
  have hz0 : (w.alloc (Obj.cells #[.int .i64 0, .int .i64 0, .int .i64 0, .int .i64 0, .int .i64 0, .float .f64 0, .int .i64 0, .int .i64 0] 37)).heap.size = w.heap.size + 1 := by simp
  generalize w.alloc (Obj.cells #[.int .i64 0, .int .i64 0, .int .i64 0, .int .i64 0, .int .i64 0, .float .f64 0, .int .i64 0, .int .i64 0] 37) = W0 at hr0 hb0 hz0 ⊢
  have R0 := Lib.hid hr0
  have B0 := Lib.hid hb0
  have Y0 := Lib.hid hz0
  clear hr0 hb0 hz0 hb
  go_wp2_with fail
  refine (reffloor_at (flI b) 86400 n r HN.out HR.out (by omega) (by omega) (by have := HN.out; have := HR.out; omega) (by have := HN.out; have := HR.out; omega) _).mono ?_
  rintro e w' ⟨rfl, q1, rfl⟩
  go_wp2_with fail
  refine (HT.out _).mono ?_
  rintro e w' ⟨rfl, q2, rfl⟩
  go_wp2_with fail
  refine (refwday_at n c HC.out (by omega) (by omega) _).mono ?_
  rintro e w' ⟨rfl, q3, rfl⟩
  go_wp2_with fail
  refine (HB.out _).mono ?_
  rintro e w' ⟨rfl, q4, rfl⟩
  have hr1 := drewN_row (drewN_row R0.out (q1 + q2 + q3)) q4
  have hb1 := below_drewN (below_drewN B0.out (q1 + q2 + q3)) q4
  have hz1 : ((W0.drewN (q1 + q2 + q3)).drewN q4).heap.size = w.heap.size + 1 := by rw [drewN_heap, drewN_heap]; exact Y0.out
  generalize (W0.drewN (q1 + q2 + q3)).drewN q4 = W1 at hr1 hb1 hz1 ⊢
  have R1 := Lib.hid hr1
  have B1 := Lib.hid hb1
  have hlt : w.heap.size < W1.heap.size := by omega
  have Y1 := Lib.hid hz1
  clear hr1 hb1 hz1
  obtain ⟨u0, u1, u2, u3, u4, u5, u6, u7⟩ := row8 R1.out
  obtain ⟨v0, v1, v2, v3, v4, v5, v6, v7⟩ := ice8 R1.out
  go_wp2_with fail
  refine bodyPost_ret_by (results_row_tmp rfl _ _ w.heap.size 37 _ (0, 0) _ (.int .i64 0) rfl rfl (row_alloc3 (set8_row R1.out (.int .i64 y) (.int .i64 m) (.int .i64 d) (.int .i64 (r / 3600)) (.int .i64 (r / 60 % 60)) (.float .f64 (secB b (r % 60))) (.int .i64 c) (.int .i64 (n - B))) _) Try.underlying37 rfl sizeTime) rfl ?_
  exact ⟨rfl, (set8_below B1.out (Nat.le_refl _) ..).alloc (by rw [set8_size]; omega) _⟩
end Go.Proofs.Ytimipkbingbifaa

/- The numbers that directives write: the program's closures. -/
import Derived.Test.YtpjncnoejdaplaaGreatDoorLAB
import Derived.Test.YtpjncnoejdaplaaGreatDoorLAD
import Derived.Shelf.Abstract
import Derived.Deep.QuietTactic
import Derived.BigQuiet
import Derived.Test.YtpjncnoejdaplaaGreatDoorShelf
import Derived.Shelf.Strings.Builder1
import Derived.Lib.LaidTab
namespace Go.Proofs.YtpjncnoejdaplaaGreatDoor
open Go Go.RowKit Go.Shelf

theorem ret_intK {k : IntKind} {a b : Int} (h : a = b) : Ending.returned (.int k a) = .returned (.int k b) := by rw [h]
theorem ss_int : ∀ k : Fin 60, (Ieee.double.read (fI k.val)).toInt .zero = some ((k.val : Nat) : Int) := by decide +kernel
theorem conv_ss (k : Int) (h1 : 0 ≤ k) (h2 : k ≤ 59) (w : World) : (convert 22 3 (.float .f64 (fI k))).run Tryz.prog w = .ok (.int .i64 k) w := by
  refine run_convert_float_int w _ _ .f64 .i64 _ _ (by kernel_rfl) (by kernel_rfl) ?_
  have h' : (FloatKind.f64.decode (fI k)).toInt .zero = some k := by
    have h := ss_int ⟨k.toNat, by omega⟩
    have e : ((k.toNat : Nat) : Int) = k := by omega
    simp only [e] at h
    exact h
  unfold floatToIntVal
  rw [h']
  have e1 : IntKind.i64.min = -9223372036854775808 := by decide
  have e2 : IntKind.i64.max = 9223372036854775807 := by decide
  simp only [e1, e2]
  rw [if_pos ⟨by omega, by omega⟩]
theorem hundreds_any (y : Int) (h1 : -100000 ≤ y) (h2 : y ≤ 100000) (w : World) : Calls Tryz.prog 112 #[.int .i64 y] w fun e w' => e = .returned (.int .i64 (y / 100)) ∧ w = w' := by
  by_cases h : y < 0
  · have hq : (y - 99).tdiv 100 = y / 100 := by
      have h3 : y - 99 ≤ 0 := by omega
      obtain ⟨z, hz⟩ : ∃ z : Int, z = -(y - 99) := ⟨_, rfl⟩
      have e : y - 99 = -z := by omega
      rw [e, Int.neg_tdiv, Int.tdiv_eq_ediv_of_nonneg (by omega)]
      omega
    have HQ := Lib.hid hq
    clear hq
    go_enter Tryz.func112, Tryz.ntmps112
    go_wp2_with fail
    go_ret
    exact ⟨ret_intK HQ.out, rfl⟩
  · have h3 : 0 ≤ y := by omega
    clear h
    go_enter Tryz.func112, Tryz.ntmps112
    go_wp2_with fail
    go_ret
    exact ⟨rfl, rfl⟩
theorem hundreds_q (y : Int) (h1 : -100000 ≤ y) (h2 : y ≤ 100000) (w : World) : Calls Tryz.prog 112 #[.int .i64 y] w fun e w' => e = .returned (.int .i64 (y / 100)) ∧ w' = w := (hundreds_any y h1 h2 w).mono fun _ _ ⟨a, b⟩ => ⟨a, b.symm⟩
/-- The code of each. -/
def NF.fn : NF → Nat
  | .day => 106
  | .hour => 107
  | .twelfth => 108
  | .year => 110
  | .hun => 111
  | .yin => 113
  | .month => 114
  | .minute => 115
  | .second => 116
  | .yday => 117
  | .wdayU => 118
  | .wday => 119
  | .sunday => 120
  | .monday => 121
  | .week => 122
  | .iso => 123
  | .isoIn => 124
  | .all => 125
set_option maxRecDepth 100000 in
theorem num_day (m : Mom) (hm : MomOK m) (w : World) : Calls Tryz.prog 106 #[.agg (momV m)] w fun e w' => e = .returned (.int .i64 (NF.val m .day)) ∧ Below w.heap.size w w' := by
  obtain ⟨y, mo, d, h, mi, ss, wd, yd, sec, iy, iw, fs, fm⟩ := m
  obtain ⟨⟨a1, a2⟩, ⟨b1, b2⟩, ⟨c1, c2⟩, ⟨d1, d2⟩, ⟨e1, e2⟩, ⟨f1, f2⟩, ⟨g1, g2⟩, ⟨h1, h2⟩, ⟨i1, i2⟩, ⟨j1, j2⟩, ⟨k1, k2⟩, ⟨l1, l2⟩, ⟨m1, m2⟩⟩ := hm
  simp only at a1 a2 b1 b2 c1 c2 d1 d2 e1 e2 f1 f2 g1 g2 h1 h2 i1 i2 j1 j2 k1 k2 l1 l2 m1 m2
  unfold momV
  go_enter Tryz.func106, Tryz.ntmps106
  go_wp2_with fail
  go_ret
  exact ⟨ret_intK (by simp only [NF.val]), (Below.refl _ _).alloc (Nat.le_refl _) _⟩
set_option maxRecDepth 100000 in
theorem num_hour (m : Mom) (hm : MomOK m) (w : World) : Calls Tryz.prog 107 #[.agg (momV m)] w fun e w' => e = .returned (.int .i64 (NF.val m .hour)) ∧ Below w.heap.size w w' := by
  obtain ⟨y, mo, d, h, mi, ss, wd, yd, sec, iy, iw, fs, fm⟩ := m
  obtain ⟨⟨a1, a2⟩, ⟨b1, b2⟩, ⟨c1, c2⟩, ⟨d1, d2⟩, ⟨e1, e2⟩, ⟨f1, f2⟩, ⟨g1, g2⟩, ⟨h1, h2⟩, ⟨i1, i2⟩, ⟨j1, j2⟩, ⟨k1, k2⟩, ⟨l1, l2⟩, ⟨m1, m2⟩⟩ := hm
  simp only at a1 a2 b1 b2 c1 c2 d1 d2 e1 e2 f1 f2 g1 g2 h1 h2 i1 i2 j1 j2 k1 k2 l1 l2 m1 m2
  unfold momV
  go_enter Tryz.func107, Tryz.ntmps107
  go_wp2_with fail
  go_ret
  exact ⟨ret_intK (by simp only [NF.val]), (Below.refl _ _).alloc (Nat.le_refl _) _⟩
set_option maxRecDepth 100000 in
theorem num_twelfth (m : Mom) (hm : MomOK m) (w : World) : Calls Tryz.prog 108 #[.agg (momV m)] w fun e w' => e = .returned (.int .i64 (NF.val m .twelfth)) ∧ Below w.heap.size w w' := by
  obtain ⟨y, mo, d, h, mi, ss, wd, yd, sec, iy, iw, fs, fm⟩ := m
  obtain ⟨⟨a1, a2⟩, ⟨b1, b2⟩, ⟨c1, c2⟩, ⟨d1, d2⟩, ⟨e1, e2⟩, ⟨f1, f2⟩, ⟨g1, g2⟩, ⟨h1, h2⟩, ⟨i1, i2⟩, ⟨j1, j2⟩, ⟨k1, k2⟩, ⟨l1, l2⟩, ⟨m1, m2⟩⟩ := hm
  simp only at a1 a2 b1 b2 c1 c2 d1 d2 e1 e2 f1 f2 g1 g2 h1 h2 i1 i2 j1 j2 k1 k2 l1 l2 m1 m2
  unfold momV
  go_enter Tryz.func108, Tryz.ntmps108
  go_wp2_with fail
  go_ret
  exact ⟨ret_intK (by simp only [NF.val]), (Below.refl _ _).alloc (Nat.le_refl _) _⟩
set_option maxRecDepth 100000 in
theorem num_year (m : Mom) (hm : MomOK m) (w : World) : Calls Tryz.prog 110 #[.agg (momV m)] w fun e w' => e = .returned (.int .i64 (NF.val m .year)) ∧ Below w.heap.size w w' := by
  obtain ⟨y, mo, d, h, mi, ss, wd, yd, sec, iy, iw, fs, fm⟩ := m
  obtain ⟨⟨a1, a2⟩, ⟨b1, b2⟩, ⟨c1, c2⟩, ⟨d1, d2⟩, ⟨e1, e2⟩, ⟨f1, f2⟩, ⟨g1, g2⟩, ⟨h1, h2⟩, ⟨i1, i2⟩, ⟨j1, j2⟩, ⟨k1, k2⟩, ⟨l1, l2⟩, ⟨m1, m2⟩⟩ := hm
  simp only at a1 a2 b1 b2 c1 c2 d1 d2 e1 e2 f1 f2 g1 g2 h1 h2 i1 i2 j1 j2 k1 k2 l1 l2 m1 m2
  unfold momV
  go_enter Tryz.func110, Tryz.ntmps110
  go_wp2_with fail
  go_ret
  exact ⟨ret_intK (by simp only [NF.val]), (Below.refl _ _).alloc (Nat.le_refl _) _⟩
set_option maxRecDepth 100000 in
theorem num_hun (m : Mom) (hm : MomOK m) (w : World) : Calls Tryz.prog 111 #[.agg (momV m)] w fun e w' => e = .returned (.int .i64 (NF.val m .hun)) ∧ Below w.heap.size w w' := by
  obtain ⟨y, mo, d, h, mi, ss, wd, yd, sec, iy, iw, fs, fm⟩ := m
  obtain ⟨⟨a1, a2⟩, ⟨b1, b2⟩, ⟨c1, c2⟩, ⟨d1, d2⟩, ⟨e1, e2⟩, ⟨f1, f2⟩, ⟨g1, g2⟩, ⟨h1, h2⟩, ⟨i1, i2⟩, ⟨j1, j2⟩, ⟨k1, k2⟩, ⟨l1, l2⟩, ⟨m1, m2⟩⟩ := hm
  simp only at a1 a2 b1 b2 c1 c2 d1 d2 e1 e2 f1 f2 g1 g2 h1 h2 i1 i2 j1 j2 k1 k2 l1 l2 m1 m2
  unfold momV
  go_enter Tryz.func111, Tryz.ntmps111
  go_wp2_with (go_at_call 112; refine (hundreds_any y (by omega) (by omega) _).mono ?_; rintro e w' ⟨rfl, rfl⟩)
  go_ret
  exact ⟨ret_intK (by simp only [NF.val]), (Below.refl _ _).alloc (Nat.le_refl _) _⟩
set_option maxRecDepth 100000 in
theorem num_yin (m : Mom) (hm : MomOK m) (w : World) : Calls Tryz.prog 113 #[.agg (momV m)] w fun e w' => e = .returned (.int .i64 (NF.val m .yin)) ∧ Below w.heap.size w w' := by
  obtain ⟨y, mo, d, h, mi, ss, wd, yd, sec, iy, iw, fs, fm⟩ := m
  obtain ⟨⟨a1, a2⟩, ⟨b1, b2⟩, ⟨c1, c2⟩, ⟨d1, d2⟩, ⟨e1, e2⟩, ⟨f1, f2⟩, ⟨g1, g2⟩, ⟨h1, h2⟩, ⟨i1, i2⟩, ⟨j1, j2⟩, ⟨k1, k2⟩, ⟨l1, l2⟩, ⟨m1, m2⟩⟩ := hm
  simp only at a1 a2 b1 b2 c1 c2 d1 d2 e1 e2 f1 f2 g1 g2 h1 h2 i1 i2 j1 j2 k1 k2 l1 l2 m1 m2
  unfold momV
  have HD : Hid (-10000 ≤ y / 100 ∧ y / 100 ≤ 10000) := Lib.hid (by omega)
  go_enter Tryz.func113, Tryz.ntmps113
  go_wp2_with fail
  obtain ⟨q1, q2⟩ := HD.out
  go_quiet ((go_at_call 112; exact Calls.quiet_of_same (hundreds_q _ (by omega) (by omega) _)))
  go_wp2_with fail
  go_ret
  exact ⟨ret_intK (by simp only [NF.val]), below_drewN ((Below.refl _ _).alloc (Nat.le_refl _) _) _⟩
set_option maxRecDepth 100000 in
theorem num_month (m : Mom) (hm : MomOK m) (w : World) : Calls Tryz.prog 114 #[.agg (momV m)] w fun e w' => e = .returned (.int .i64 (NF.val m .month)) ∧ Below w.heap.size w w' := by
  obtain ⟨y, mo, d, h, mi, ss, wd, yd, sec, iy, iw, fs, fm⟩ := m
  obtain ⟨⟨a1, a2⟩, ⟨b1, b2⟩, ⟨c1, c2⟩, ⟨d1, d2⟩, ⟨e1, e2⟩, ⟨f1, f2⟩, ⟨g1, g2⟩, ⟨h1, h2⟩, ⟨i1, i2⟩, ⟨j1, j2⟩, ⟨k1, k2⟩, ⟨l1, l2⟩, ⟨m1, m2⟩⟩ := hm
  simp only at a1 a2 b1 b2 c1 c2 d1 d2 e1 e2 f1 f2 g1 g2 h1 h2 i1 i2 j1 j2 k1 k2 l1 l2 m1 m2
  unfold momV
  go_enter Tryz.func114, Tryz.ntmps114
  go_wp2_with fail
  go_ret
  exact ⟨ret_intK (by simp only [NF.val]), (Below.refl _ _).alloc (Nat.le_refl _) _⟩
set_option maxRecDepth 100000 in
theorem num_minute (m : Mom) (hm : MomOK m) (w : World) : Calls Tryz.prog 115 #[.agg (momV m)] w fun e w' => e = .returned (.int .i64 (NF.val m .minute)) ∧ Below w.heap.size w w' := by
  obtain ⟨y, mo, d, h, mi, ss, wd, yd, sec, iy, iw, fs, fm⟩ := m
  obtain ⟨⟨a1, a2⟩, ⟨b1, b2⟩, ⟨c1, c2⟩, ⟨d1, d2⟩, ⟨e1, e2⟩, ⟨f1, f2⟩, ⟨g1, g2⟩, ⟨h1, h2⟩, ⟨i1, i2⟩, ⟨j1, j2⟩, ⟨k1, k2⟩, ⟨l1, l2⟩, ⟨m1, m2⟩⟩ := hm
  simp only at a1 a2 b1 b2 c1 c2 d1 d2 e1 e2 f1 f2 g1 g2 h1 h2 i1 i2 j1 j2 k1 k2 l1 l2 m1 m2
  unfold momV
  go_enter Tryz.func115, Tryz.ntmps115
  go_wp2_with fail
  go_ret
  exact ⟨ret_intK (by simp only [NF.val]), (Below.refl _ _).alloc (Nat.le_refl _) _⟩
set_option maxRecDepth 100000 in
theorem num_second (m : Mom) (hm : MomOK m) (w : World) : Calls Tryz.prog 116 #[.agg (momV m)] w fun e w' => e = .returned (.int .i64 (NF.val m .second)) ∧ Below w.heap.size w w' := by
  obtain ⟨y, mo, d, h, mi, ss, wd, yd, sec, iy, iw, fs, fm⟩ := m
  obtain ⟨⟨a1, a2⟩, ⟨b1, b2⟩, ⟨c1, c2⟩, ⟨d1, d2⟩, ⟨e1, e2⟩, ⟨f1, f2⟩, ⟨g1, g2⟩, ⟨h1, h2⟩, ⟨i1, i2⟩, ⟨j1, j2⟩, ⟨k1, k2⟩, ⟨l1, l2⟩, ⟨m1, m2⟩⟩ := hm
  simp only at a1 a2 b1 b2 c1 c2 d1 d2 e1 e2 f1 f2 g1 g2 h1 h2 i1 i2 j1 j2 k1 k2 l1 l2 m1 m2
  unfold momV
  have hcv := conv_ss ss f1 f2
  go_enter Tryz.func116, Tryz.ntmps116
  go_wp2_with fail
  go_ret
  exact ⟨ret_intK (by simp only [NF.val]), (Below.refl _ _).alloc (Nat.le_refl _) _⟩
set_option maxRecDepth 100000 in
theorem num_yday (m : Mom) (hm : MomOK m) (w : World) : Calls Tryz.prog 117 #[.agg (momV m)] w fun e w' => e = .returned (.int .i64 (NF.val m .yday)) ∧ Below w.heap.size w w' := by
  obtain ⟨y, mo, d, h, mi, ss, wd, yd, sec, iy, iw, fs, fm⟩ := m
  obtain ⟨⟨a1, a2⟩, ⟨b1, b2⟩, ⟨c1, c2⟩, ⟨d1, d2⟩, ⟨e1, e2⟩, ⟨f1, f2⟩, ⟨g1, g2⟩, ⟨h1, h2⟩, ⟨i1, i2⟩, ⟨j1, j2⟩, ⟨k1, k2⟩, ⟨l1, l2⟩, ⟨m1, m2⟩⟩ := hm
  simp only at a1 a2 b1 b2 c1 c2 d1 d2 e1 e2 f1 f2 g1 g2 h1 h2 i1 i2 j1 j2 k1 k2 l1 l2 m1 m2
  unfold momV
  go_enter Tryz.func117, Tryz.ntmps117
  go_wp2_with fail
  go_ret
  exact ⟨ret_intK (by simp only [NF.val]), (Below.refl _ _).alloc (Nat.le_refl _) _⟩
set_option maxRecDepth 100000 in
theorem num_wdayU (m : Mom) (hm : MomOK m) (w : World) : Calls Tryz.prog 118 #[.agg (momV m)] w fun e w' => e = .returned (.int .i64 (NF.val m .wdayU)) ∧ Below w.heap.size w w' := by
  obtain ⟨y, mo, d, h, mi, ss, wd, yd, sec, iy, iw, fs, fm⟩ := m
  obtain ⟨⟨a1, a2⟩, ⟨b1, b2⟩, ⟨c1, c2⟩, ⟨d1, d2⟩, ⟨e1, e2⟩, ⟨f1, f2⟩, ⟨g1, g2⟩, ⟨h1, h2⟩, ⟨i1, i2⟩, ⟨j1, j2⟩, ⟨k1, k2⟩, ⟨l1, l2⟩, ⟨m1, m2⟩⟩ := hm
  simp only at a1 a2 b1 b2 c1 c2 d1 d2 e1 e2 f1 f2 g1 g2 h1 h2 i1 i2 j1 j2 k1 k2 l1 l2 m1 m2
  unfold momV
  go_enter Tryz.func118, Tryz.ntmps118
  go_wp2_with fail
  go_ret
  exact ⟨ret_intK (by simp only [NF.val]), (Below.refl _ _).alloc (Nat.le_refl _) _⟩
set_option maxRecDepth 100000 in
theorem num_wday (m : Mom) (hm : MomOK m) (w : World) : Calls Tryz.prog 119 #[.agg (momV m)] w fun e w' => e = .returned (.int .i64 (NF.val m .wday)) ∧ Below w.heap.size w w' := by
  obtain ⟨y, mo, d, h, mi, ss, wd, yd, sec, iy, iw, fs, fm⟩ := m
  obtain ⟨⟨a1, a2⟩, ⟨b1, b2⟩, ⟨c1, c2⟩, ⟨d1, d2⟩, ⟨e1, e2⟩, ⟨f1, f2⟩, ⟨g1, g2⟩, ⟨h1, h2⟩, ⟨i1, i2⟩, ⟨j1, j2⟩, ⟨k1, k2⟩, ⟨l1, l2⟩, ⟨m1, m2⟩⟩ := hm
  simp only at a1 a2 b1 b2 c1 c2 d1 d2 e1 e2 f1 f2 g1 g2 h1 h2 i1 i2 j1 j2 k1 k2 l1 l2 m1 m2
  unfold momV
  go_enter Tryz.func119, Tryz.ntmps119
  go_wp2_with fail
  go_ret
  exact ⟨ret_intK (by simp only [NF.val]), (Below.refl _ _).alloc (Nat.le_refl _) _⟩
set_option maxRecDepth 100000 in
theorem num_sunday (m : Mom) (hm : MomOK m) (w : World) : Calls Tryz.prog 120 #[.agg (momV m)] w fun e w' => e = .returned (.int .i64 (NF.val m .sunday)) ∧ Below w.heap.size w w' := by
  obtain ⟨y, mo, d, h, mi, ss, wd, yd, sec, iy, iw, fs, fm⟩ := m
  obtain ⟨⟨a1, a2⟩, ⟨b1, b2⟩, ⟨c1, c2⟩, ⟨d1, d2⟩, ⟨e1, e2⟩, ⟨f1, f2⟩, ⟨g1, g2⟩, ⟨h1, h2⟩, ⟨i1, i2⟩, ⟨j1, j2⟩, ⟨k1, k2⟩, ⟨l1, l2⟩, ⟨m1, m2⟩⟩ := hm
  simp only at a1 a2 b1 b2 c1 c2 d1 d2 e1 e2 f1 f2 g1 g2 h1 h2 i1 i2 j1 j2 k1 k2 l1 l2 m1 m2
  unfold momV
  go_enter Tryz.func120, Tryz.ntmps120
  go_wp2_with fail
  go_ret
  exact ⟨ret_intK (by simp only [NF.val]), (Below.refl _ _).alloc (Nat.le_refl _) _⟩
set_option maxRecDepth 100000 in
theorem num_monday (m : Mom) (hm : MomOK m) (w : World) : Calls Tryz.prog 121 #[.agg (momV m)] w fun e w' => e = .returned (.int .i64 (NF.val m .monday)) ∧ Below w.heap.size w w' := by
  obtain ⟨y, mo, d, h, mi, ss, wd, yd, sec, iy, iw, fs, fm⟩ := m
  obtain ⟨⟨a1, a2⟩, ⟨b1, b2⟩, ⟨c1, c2⟩, ⟨d1, d2⟩, ⟨e1, e2⟩, ⟨f1, f2⟩, ⟨g1, g2⟩, ⟨h1, h2⟩, ⟨i1, i2⟩, ⟨j1, j2⟩, ⟨k1, k2⟩, ⟨l1, l2⟩, ⟨m1, m2⟩⟩ := hm
  simp only at a1 a2 b1 b2 c1 c2 d1 d2 e1 e2 f1 f2 g1 g2 h1 h2 i1 i2 j1 j2 k1 k2 l1 l2 m1 m2
  unfold momV
  go_enter Tryz.func121, Tryz.ntmps121
  go_wp2_with fail
  go_ret
  exact ⟨ret_intK (by simp only [NF.val]), (Below.refl _ _).alloc (Nat.le_refl _) _⟩
set_option maxRecDepth 100000 in
theorem num_week (m : Mom) (hm : MomOK m) (w : World) : Calls Tryz.prog 122 #[.agg (momV m)] w fun e w' => e = .returned (.int .i64 (NF.val m .week)) ∧ Below w.heap.size w w' := by
  obtain ⟨y, mo, d, h, mi, ss, wd, yd, sec, iy, iw, fs, fm⟩ := m
  obtain ⟨⟨a1, a2⟩, ⟨b1, b2⟩, ⟨c1, c2⟩, ⟨d1, d2⟩, ⟨e1, e2⟩, ⟨f1, f2⟩, ⟨g1, g2⟩, ⟨h1, h2⟩, ⟨i1, i2⟩, ⟨j1, j2⟩, ⟨k1, k2⟩, ⟨l1, l2⟩, ⟨m1, m2⟩⟩ := hm
  simp only at a1 a2 b1 b2 c1 c2 d1 d2 e1 e2 f1 f2 g1 g2 h1 h2 i1 i2 j1 j2 k1 k2 l1 l2 m1 m2
  unfold momV
  go_enter Tryz.func122, Tryz.ntmps122
  go_wp2_with fail
  go_ret
  exact ⟨ret_intK (by simp only [NF.val]), (Below.refl _ _).alloc (Nat.le_refl _) _⟩
set_option maxRecDepth 100000 in
theorem num_iso (m : Mom) (hm : MomOK m) (w : World) : Calls Tryz.prog 123 #[.agg (momV m)] w fun e w' => e = .returned (.int .i64 (NF.val m .iso)) ∧ Below w.heap.size w w' := by
  obtain ⟨y, mo, d, h, mi, ss, wd, yd, sec, iy, iw, fs, fm⟩ := m
  obtain ⟨⟨a1, a2⟩, ⟨b1, b2⟩, ⟨c1, c2⟩, ⟨d1, d2⟩, ⟨e1, e2⟩, ⟨f1, f2⟩, ⟨g1, g2⟩, ⟨h1, h2⟩, ⟨i1, i2⟩, ⟨j1, j2⟩, ⟨k1, k2⟩, ⟨l1, l2⟩, ⟨m1, m2⟩⟩ := hm
  simp only at a1 a2 b1 b2 c1 c2 d1 d2 e1 e2 f1 f2 g1 g2 h1 h2 i1 i2 j1 j2 k1 k2 l1 l2 m1 m2
  unfold momV
  go_enter Tryz.func123, Tryz.ntmps123
  go_wp2_with fail
  go_ret
  exact ⟨ret_intK (by simp only [NF.val]), (Below.refl _ _).alloc (Nat.le_refl _) _⟩
set_option maxRecDepth 100000 in
theorem num_isoIn (m : Mom) (hm : MomOK m) (w : World) : Calls Tryz.prog 124 #[.agg (momV m)] w fun e w' => e = .returned (.int .i64 (NF.val m .isoIn)) ∧ Below w.heap.size w w' := by
  obtain ⟨y, mo, d, h, mi, ss, wd, yd, sec, iy, iw, fs, fm⟩ := m
  obtain ⟨⟨a1, a2⟩, ⟨b1, b2⟩, ⟨c1, c2⟩, ⟨d1, d2⟩, ⟨e1, e2⟩, ⟨f1, f2⟩, ⟨g1, g2⟩, ⟨h1, h2⟩, ⟨i1, i2⟩, ⟨j1, j2⟩, ⟨k1, k2⟩, ⟨l1, l2⟩, ⟨m1, m2⟩⟩ := hm
  simp only at a1 a2 b1 b2 c1 c2 d1 d2 e1 e2 f1 f2 g1 g2 h1 h2 i1 i2 j1 j2 k1 k2 l1 l2 m1 m2
  unfold momV
  have HD : Hid (-10000 ≤ iy / 100 ∧ iy / 100 ≤ 10000) := Lib.hid (by omega)
  go_enter Tryz.func124, Tryz.ntmps124
  go_wp2_with fail
  obtain ⟨q1, q2⟩ := HD.out
  go_quiet ((go_at_call 112; exact Calls.quiet_of_same (hundreds_q _ (by omega) (by omega) _)))
  go_wp2_with fail
  go_ret
  exact ⟨ret_intK (by simp only [NF.val]), below_drewN ((Below.refl _ _).alloc (Nat.le_refl _) _) _⟩
set_option maxRecDepth 100000 in
theorem num_all (m : Mom) (hm : MomOK m) (w : World) : Calls Tryz.prog 125 #[.agg (momV m)] w fun e w' => e = .returned (.int .i64 (NF.val m .all)) ∧ Below w.heap.size w w' := by
  obtain ⟨y, mo, d, h, mi, ss, wd, yd, sec, iy, iw, fs, fm⟩ := m
  obtain ⟨⟨a1, a2⟩, ⟨b1, b2⟩, ⟨c1, c2⟩, ⟨d1, d2⟩, ⟨e1, e2⟩, ⟨f1, f2⟩, ⟨g1, g2⟩, ⟨h1, h2⟩, ⟨i1, i2⟩, ⟨j1, j2⟩, ⟨k1, k2⟩, ⟨l1, l2⟩, ⟨m1, m2⟩⟩ := hm
  simp only at a1 a2 b1 b2 c1 c2 d1 d2 e1 e2 f1 f2 g1 g2 h1 h2 i1 i2 j1 j2 k1 k2 l1 l2 m1 m2
  unfold momV
  go_enter Tryz.func125, Tryz.ntmps125
  go_wp2_with fail
  go_ret
  exact ⟨ret_intK (by simp only [NF.val]), (Below.refl _ _).alloc (Nat.le_refl _) _⟩
theorem num_any (k : NF) (m : Mom) (hm : MomOK m) (w : World) : Calls Tryz.prog k.fn #[.agg (momV m)] w fun e w' => e = .returned (.int .i64 (k.val m)) ∧ Below w.heap.size w w' := by
  cases k
  · exact num_day m hm w
  · exact num_hour m hm w
  · exact num_twelfth m hm w
  · exact num_year m hm w
  · exact num_hun m hm w
  · exact num_yin m hm w
  · exact num_month m hm w
  · exact num_minute m hm w
  · exact num_second m hm w
  · exact num_yday m hm w
  · exact num_wdayU m hm w
  · exact num_wday m hm w
  · exact num_sunday m hm w
  · exact num_monday m hm w
  · exact num_week m hm w
  · exact num_iso m hm w
  · exact num_isoIn m hm w
  · exact num_all m hm w
theorem num_enter (k : NF) (args : Array Value) (w : World) : (callFunc k.fn args).run Tryz.prog w = .ok (.enter k.fn args) w := by
  cases k
  · exact enters_of Tryz.func106 (by kernel_rfl) rfl args w
  · exact enters_of Tryz.func107 (by kernel_rfl) rfl args w
  · exact enters_of Tryz.func108 (by kernel_rfl) rfl args w
  · exact enters_of Tryz.func110 (by kernel_rfl) rfl args w
  · exact enters_of Tryz.func111 (by kernel_rfl) rfl args w
  · exact enters_of Tryz.func113 (by kernel_rfl) rfl args w
  · exact enters_of Tryz.func114 (by kernel_rfl) rfl args w
  · exact enters_of Tryz.func115 (by kernel_rfl) rfl args w
  · exact enters_of Tryz.func116 (by kernel_rfl) rfl args w
  · exact enters_of Tryz.func117 (by kernel_rfl) rfl args w
  · exact enters_of Tryz.func118 (by kernel_rfl) rfl args w
  · exact enters_of Tryz.func119 (by kernel_rfl) rfl args w
  · exact enters_of Tryz.func120 (by kernel_rfl) rfl args w
  · exact enters_of Tryz.func121 (by kernel_rfl) rfl args w
  · exact enters_of Tryz.func122 (by kernel_rfl) rfl args w
  · exact enters_of Tryz.func123 (by kernel_rfl) rfl args w
  · exact enters_of Tryz.func124 (by kernel_rfl) rfl args w
  · exact enters_of Tryz.func125 (by kernel_rfl) rfl args w
end Go.Proofs.YtpjncnoejdaplaaGreatDoor
namespace Go.Proofs.YtpjncnoejdaplaaGreatDoor
open Go Go.Shelf Go.RowKit

theorem laysWS : Go.Proofs.Lays.n166 Tryz.prog Tryz.lays105_ren := { Tryz.lays105 with }
theorem Builder_WriteString (B b : Nat) (bs : List Value) (s : ByteArray) (w : World) (h : Lib.IsBuilder 106 5 B b bs w) (hlen : bs.length + s.size ≤ 140737488355328) (hBw : B ≤ w.heap.size) :
    Calls Tryz.prog 58 #[.pointer (some ⟨b, 0, none⟩), .string s] w fun e w' => e = .returned (.tuple #[.int .i64 s.size, .nilIface]) ∧ (Lib.BuilderAt 106 5 B b (.pointer (some ⟨b, 0, none⟩)) (bs ++ Lib.strCells s) w' ∧ Below B w w') :=
  Any.Builder_WriteString laysWS Tryz.Builder_Extra_105 B b bs s w h hlen hBw
def renWB : Go.Shelf.Ren := ⟨fun | 167 => 59 | n => Tryz.lays105_ren.f n, Tryz.lays105_ren.t, Tryz.lays105_ren.g⟩
theorem laysWB : Go.Proofs.Lays.n167 Tryz.prog renWB := { Tryz.lays105 with
  f167 := Tryz.func59.trans (congrArg some (by kernel_rfl)) }
theorem extraWB : Builder.Extra Tryz.prog renWB := {
  sizeBuilder := by kernel_rfl
  liesBuilder := by kernel_rfl
  t5 := Tryz.underlying5
  a5 := Tryz.isAgg5
  z5 := Tryz.sizeOf5
  v5 := Tryz.zeroValue5
  infoByte := by kernel_rfl
  cellsByte := by kernel_rfl
  sizeByte := by kernel_rfl
  neB5 := by decide }
theorem Builder_WriteByte (B b : Nat) (bs : List Value) (c : Int) (w : World) (h : Lib.IsBuilder 106 5 B b bs w) (hlen : bs.length + 1 ≤ 140737488355328) (hBw : B ≤ w.heap.size) :
    Calls Tryz.prog 59 #[.pointer (some ⟨b, 0, none⟩), .int .u8 c] w fun e w' => e = .returned .nilIface ∧ (Lib.BuilderAt 106 5 B b (.pointer (some ⟨b, 0, none⟩)) (bs ++ [.int .u8 c]) w' ∧ Below B w w') :=
  Any.Builder_WriteByte laysWB extraWB B b bs c w h hlen hBw
end Go.Proofs.YtpjncnoejdaplaaGreatDoor
namespace Go.Proofs.YtpjncnoejdaplaaGreatDoor
open Go Go.RowKit Go.Shelf

/-- What the package-level variables hold that these calls read. -/
structure GlobW (w : World) (eb : Addr) : Prop where
  tab : Lib.TabIs Tryz.prog w "internal/strconv.uint64pow10" .u64 Lib.pow10Tab
  err : w.cell? ⟨0, 0, none⟩ = some (.iface 214 (.pointer (some eb)))
  size : 6 ≤ w.heap.size
theorem tab_below {n : String} {g : Nat} {k : IntKind} {zs : List Int} {w w' : World} (hg : Tryz.prog.globalNamed n = some g) (h : Lib.TabIs Tryz.prog w n k zs) (hb : Below w.heap.size w w') : Lib.TabIs Tryz.prog w' n k zs := by
  unfold Lib.TabIs World.var? at h ⊢
  rw [hg] at h ⊢
  simp only [Option.bind_some] at h ⊢
  rw [hb.block g ?_]
  · exact h
  · rcases Nat.lt_or_ge g w.heap.size with h1 | h1
    · exact h1
    · rw [Array.getElem?_eq_none h1] at h
      cases h
theorem GlobW.below {w w' : World} {eb : Addr} (h : GlobW w eb) (hb : Below w.heap.size w w') : GlobW w' eb :=
  ⟨tab_below (g := 2) (by kernel_rfl) h.tab hb, by rw [hb.cell (p := ⟨0, 0, none⟩) (by have := h.size; show 0 < _; omega)]; exact h.err, Nat.le_trans h.size hb.size⟩
/-- A variable of its own in block b, which is not the map's. -/
def BoxAt (w : World) (mb b : Nat) (x : Value) (t : TypeId) : Prop := b ≠ mb ∧ w.heap[b]? = some (.cells #[x] t (0, 0))
def ptr (b : Nat) : Value := .pointer (some ⟨b, 0, none⟩)
def RowAt (w : World) (mb g : Nat) (l : List ByteArray) : Prop := g ≠ mb ∧ w.heap[g]? = some (.cells (l.map Value.string).toArray 9 (0, 0))
def NamesAt (w : World) (mb b : Nat) (l : List ByteArray) : Prop := ∃ g, BoxAt w mb b (.slice (some ⟨g, 0, none⟩) l.length l.length) 41 ∧ RowAt w mb g l
/-- A writer: its code, and what it has captured. -/
def WrAt (w : World) (mb : Nat) (v : Value) : WS → Prop
  | .plain .dayS => ∃ b, v = .func (.func 63) #[] #[.pointer (some ⟨b, 0, none⟩)] ∧ NamesAt w mb b dayNames
  | .plain .dayL => ∃ b, v = .func (.func 65) #[] #[.pointer (some ⟨b, 0, none⟩)] ∧ NamesAt w mb b dayNames
  | .plain .monS => ∃ b, (v = .func (.func 66) #[] #[.pointer (some ⟨b, 0, none⟩)] ∨ v = .func (.func 67) #[] #[.pointer (some ⟨b, 0, none⟩)]) ∧ NamesAt w mb b monthNames
  | .plain .monL => ∃ b, v = .func (.func 68) #[] #[.pointer (some ⟨b, 0, none⟩)] ∧ NamesAt w mb b monthNames
  | .plain .halfU => v = .func (.func 69) #[] #[]
  | .plain .halfL => v = .func (.func 71) #[] #[]
  | .plain (.text t) => ∃ b, v = .func (.func 105) #[] #[.pointer (some ⟨b, 0, none⟩)] ∧ BoxAt w mb b (.string t) 9
  | .plain (.pad d f n) => ∃ b1 b2 b3, v = .func (.func 159) #[] #[.pointer (some ⟨b1, 0, none⟩), .pointer (some ⟨b2, 0, none⟩), .pointer (some ⟨b3, 0, none⟩)] ∧ BoxAt w mb b1 (.func (.func n.fn) #[] #[]) 153 ∧ BoxAt w mb b2 (.string f) 9 ∧ BoxAt w mb b3 (.int .i64 d) 3
  | .form f => ∃ b1 b2, v = .func (.func 76) #[] #[.pointer (some ⟨b1, 0, none⟩), .pointer (some ⟨b2, 0, none⟩)] ∧ BoxAt w mb b1 (.string f) 9 ∧ BoxAt w mb b2 (.map (some mb)) 64
theorem BoxAt.stay {w w' : World} {mb b : Nat} {x : Value} {t : TypeId} (h : BoxAt w mb b x t) (hk : ∀ k, k < w.heap.size → k ≠ mb → w'.heap[k]? = w.heap[k]?) : BoxAt w' mb b x t :=
  ⟨h.1, (hk b (Array.getElem?_eq_some_iff.1 h.2).1 h.1).trans h.2⟩
theorem NamesAt.stay {w w' : World} {mb b : Nat} {l : List ByteArray} (h : NamesAt w mb b l) (hk : ∀ k, k < w.heap.size → k ≠ mb → w'.heap[k]? = w.heap[k]?) : NamesAt w' mb b l := by
  obtain ⟨g, h1, h2, h3⟩ := h
  exact ⟨g, h1.stay hk, h2, (hk g (Array.getElem?_eq_some_iff.1 h3).1 h2).trans h3⟩
theorem wr_stays : Stays WrAt := by
  intro w w' mb v s h hk
  match s, h with
  | .plain .dayS, ⟨b, e, h⟩ => exact ⟨b, e, h.stay hk⟩
  | .plain .dayL, ⟨b, e, h⟩ => exact ⟨b, e, h.stay hk⟩
  | .plain .monS, ⟨b, e, h⟩ => exact ⟨b, e, h.stay hk⟩
  | .plain .monL, ⟨b, e, h⟩ => exact ⟨b, e, h.stay hk⟩
  | .plain .halfU, h => exact h
  | .plain .halfL, h => exact h
  | .plain (.text t), ⟨b, e, h⟩ => exact ⟨b, e, h.stay hk⟩
  | .plain (.pad d f n), ⟨b1, b2, b3, e, h1, h2, h3⟩ => exact ⟨b1, b2, b3, e, h1.stay hk, h2.stay hk, h3.stay hk⟩
  | .form f, ⟨b1, b2, e, h1, h2⟩ => exact ⟨b1, b2, e, h1.stay hk, h2.stay hk⟩
theorem box_cell {w : World} {mb b : Nat} {x : Value} {t : TypeId} (h : BoxAt w mb b x t) : w.cell? ⟨b, 0, none⟩ = some x := by
  simp [World.cell?, h.2]
theorem box_cell' {w : World} {mb b : Nat} {x : Value} {t : TypeId} (h : BoxAt w mb b x t) (o : Obj) : (w.alloc o).cell? ⟨b, 0, none⟩ = some x := by
  rw [((Below.refl w.heap.size w).alloc (Nat.le_refl _) o).cell (p := ⟨b, 0, none⟩) (Array.getElem?_eq_some_iff.1 h.2).1]
  exact box_cell h
theorem short_any (s : ByteArray) (h : 3 ≤ s.size) (w : World) : Calls Tryz.prog 64 #[.string s] w fun e w' => e = .returned (.string (s.extract 0 3)) ∧ w = w' := by
  go_enter Tryz.func64, Tryz.ntmps64
  go_wp2_with fail
  go_ret
  exact ⟨rfl, rfl⟩
theorem row_cell {w : World} {mb g : Nat} {l : List ByteArray} (h : RowAt w mb g l) (i : Nat) (hi : i < l.length) (o : Obj) : (w.alloc o).cell? ⟨g, i, none⟩ = some (.string (l.getD i ⟨#[]⟩)) := by
  rw [((Below.refl w.heap.size w).alloc (Nat.le_refl _) o).cell (p := ⟨g, i, none⟩) (Array.getElem?_eq_some_iff.1 h.2).1]
  simp [World.cell?, h.2, hi]
theorem ret_str {a b : ByteArray} (h : a = b) : Ending.returned (.string a) = .returned (.string b) := by rw [h]
theorem ba_take (s : ByteArray) (n : Nat) : s.extract 0 n = ⟨(s.data.toList.take n).toArray⟩ := by
  apply ByteArray.ext
  apply Array.ext'
  simp
theorem ba_all (s : ByteArray) : s = ⟨s.data.toList.toArray⟩ := by
  apply ByteArray.ext
  simp
theorem day_size : ∀ k : Fin 7, 3 ≤ (dayNames.getD k.val ⟨#[]⟩).size := by decide
theorem month_size : ∀ k : Fin 12, 3 ≤ (monthNames.getD k.val ⟨#[]⟩).size := by decide
theorem nameAt_nat (l : List ByteArray) (k : Nat) : nameAt l (k : Int) = (l.getD k ⟨#[]⟩).data.toList := by
  unfold nameAt
  rw [Int.toNat_natCast]
set_option maxRecDepth 100000 in
theorem write_dayS (m : Mom) (hm : MomOK m) (mb b : Nat) (w : World) (h : NamesAt w mb b dayNames) :
    Calls Tryz.prog 63 #[.agg (momV m), .pointer (some ⟨b, 0, none⟩)] w fun e w' => e = .returned (.string ⟨(WP.txt m .dayS).toArray⟩) ∧ Below w.heap.size w w' := by
  obtain ⟨y, mo, d, h1, mi, ss, wd, yd, sec, iy, iw, fs, fm⟩ := m
  obtain ⟨g1, g2⟩ : 0 ≤ wd ∧ wd ≤ 6 := hm.2.2.2.2.2.2.1
  obtain ⟨g, hb, hr⟩ := h
  obtain ⟨k, rfl⟩ : ∃ k : Nat, wd = k := ⟨wd.toNat, by omega⟩
  have hk : k < 7 := by omega
  have hc1 := box_cell' hb
  have hc2 := row_cell hr k hk
  have HS := Lib.hid (day_size ⟨k, hk⟩)
  have HL : Hid ((dayNames.length : Nat) = 7) := Lib.hid rfl
  clear hb hr
  rw [HL.out] at hc1
  unfold momV
  go_enter Tryz.func63, Tryz.ntmps63
  go_wp2_with fail
  refine (short_any _ (by exact HS.out) _).mono ?_
  rintro e w' ⟨rfl, rfl⟩
  go_wp2_with fail
  go_ret
  exact ⟨ret_str (by rw [WP.txt, nameAt_nat, ← ba_take, List.getD_eq_getElem?_getD]), (Below.refl _ _).alloc (Nat.le_refl _) _⟩
set_option maxRecDepth 100000 in
theorem write_dayL (m : Mom) (hm : MomOK m) (mb b : Nat) (w : World) (h : NamesAt w mb b dayNames) :
    Calls Tryz.prog 65 #[.agg (momV m), .pointer (some ⟨b, 0, none⟩)] w fun e w' => e = .returned (.string ⟨(WP.txt m .dayL).toArray⟩) ∧ Below w.heap.size w w' := by
  obtain ⟨y, mo, d, h1, mi, ss, wd, yd, sec, iy, iw, fs, fm⟩ := m
  obtain ⟨g1, g2⟩ : 0 ≤ wd ∧ wd ≤ 6 := hm.2.2.2.2.2.2.1
  obtain ⟨g, hb, hr⟩ := h
  obtain ⟨k, rfl⟩ : ∃ k : Nat, wd = k := ⟨wd.toNat, by omega⟩
  have hk : k < 7 := by omega
  have hc1 := box_cell' hb
  have hc2 := row_cell hr k hk
  have HL : Hid ((dayNames.length : Nat) = 7) := Lib.hid rfl
  clear hb hr
  rw [HL.out] at hc1
  unfold momV
  go_enter Tryz.func65, Tryz.ntmps65
  go_wp2_with fail
  go_ret
  exact ⟨ret_str (by rw [WP.txt, nameAt_nat, ← ba_all, List.getD_eq_getElem?_getD]), (Below.refl _ _).alloc (Nat.le_refl _) _⟩
set_option maxRecDepth 100000 in
theorem write_monS (m : Mom) (hm : MomOK m) (mb b : Nat) (w : World) (h : NamesAt w mb b monthNames) :
    Calls Tryz.prog 66 #[.agg (momV m), .pointer (some ⟨b, 0, none⟩)] w fun e w' => e = .returned (.string ⟨(WP.txt m .monS).toArray⟩) ∧ Below w.heap.size w w' := by
  obtain ⟨y, mo, d, h1, mi, ss, wd, yd, sec, iy, iw, fs, fm⟩ := m
  obtain ⟨g1, g2⟩ : 0 ≤ mo ∧ mo ≤ 11 := hm.2.1
  obtain ⟨g, hb, hr⟩ := h
  obtain ⟨k, rfl⟩ : ∃ k : Nat, mo = k := ⟨mo.toNat, by omega⟩
  have hk : k < 12 := by omega
  have hc1 := box_cell' hb
  have hc2 := row_cell hr k hk
  have HS := Lib.hid (month_size ⟨k, hk⟩)
  have HL : Hid ((monthNames.length : Nat) = 12) := Lib.hid rfl
  clear hb hr
  rw [HL.out] at hc1
  unfold momV
  go_enter Tryz.func66, Tryz.ntmps66
  go_wp2_with fail
  refine (short_any _ (by exact HS.out) _).mono ?_
  rintro e w' ⟨rfl, rfl⟩
  go_wp2_with fail
  go_ret
  exact ⟨ret_str (by rw [WP.txt, nameAt_nat, ← ba_take, List.getD_eq_getElem?_getD]), (Below.refl _ _).alloc (Nat.le_refl _) _⟩
set_option maxRecDepth 100000 in
theorem write_monS2 (m : Mom) (hm : MomOK m) (mb b : Nat) (w : World) (h : NamesAt w mb b monthNames) :
    Calls Tryz.prog 67 #[.agg (momV m), .pointer (some ⟨b, 0, none⟩)] w fun e w' => e = .returned (.string ⟨(WP.txt m .monS).toArray⟩) ∧ Below w.heap.size w w' := by
  obtain ⟨y, mo, d, h1, mi, ss, wd, yd, sec, iy, iw, fs, fm⟩ := m
  obtain ⟨g1, g2⟩ : 0 ≤ mo ∧ mo ≤ 11 := hm.2.1
  obtain ⟨g, hb, hr⟩ := h
  obtain ⟨k, rfl⟩ : ∃ k : Nat, mo = k := ⟨mo.toNat, by omega⟩
  have hk : k < 12 := by omega
  have hc1 := box_cell' hb
  have hc2 := row_cell hr k hk
  have HS := Lib.hid (month_size ⟨k, hk⟩)
  have HL : Hid ((monthNames.length : Nat) = 12) := Lib.hid rfl
  clear hb hr
  rw [HL.out] at hc1
  unfold momV
  go_enter Tryz.func67, Tryz.ntmps67
  go_wp2_with fail
  refine (short_any _ (by exact HS.out) _).mono ?_
  rintro e w' ⟨rfl, rfl⟩
  go_wp2_with fail
  go_ret
  exact ⟨ret_str (by rw [WP.txt, nameAt_nat, ← ba_take, List.getD_eq_getElem?_getD]), (Below.refl _ _).alloc (Nat.le_refl _) _⟩
set_option maxRecDepth 100000 in
theorem write_monL (m : Mom) (hm : MomOK m) (mb b : Nat) (w : World) (h : NamesAt w mb b monthNames) :
    Calls Tryz.prog 68 #[.agg (momV m), .pointer (some ⟨b, 0, none⟩)] w fun e w' => e = .returned (.string ⟨(WP.txt m .monL).toArray⟩) ∧ Below w.heap.size w w' := by
  obtain ⟨y, mo, d, h1, mi, ss, wd, yd, sec, iy, iw, fs, fm⟩ := m
  obtain ⟨g1, g2⟩ : 0 ≤ mo ∧ mo ≤ 11 := hm.2.1
  obtain ⟨g, hb, hr⟩ := h
  obtain ⟨k, rfl⟩ : ∃ k : Nat, mo = k := ⟨mo.toNat, by omega⟩
  have hk : k < 12 := by omega
  have hc1 := box_cell' hb
  have hc2 := row_cell hr k hk
  have HL : Hid ((monthNames.length : Nat) = 12) := Lib.hid rfl
  clear hb hr
  rw [HL.out] at hc1
  unfold momV
  go_enter Tryz.func68, Tryz.ntmps68
  go_wp2_with fail
  go_ret
  exact ⟨ret_str (by rw [WP.txt, nameAt_nat, ← ba_all, List.getD_eq_getElem?_getD]), (Below.refl _ _).alloc (Nat.le_refl _) _⟩
def halfB (h : Int) (a p : ByteArray) : ByteArray := if h < 12 then a else p
set_option maxRecDepth 100000 in
theorem half_any (m : Mom) (a p : ByteArray) (w : World) :
    Calls Tryz.prog 70 #[.agg (momV m), .string a, .string p] w fun e w' => e = .returned (.string (halfB m.h a p)) ∧ Below w.heap.size w w' := by
  obtain ⟨y, mo, d, h1, mi, ss, wd, yd, sec, iy, iw, fs, fm⟩ := m
  unfold momV
  by_cases hh : h1 < 12
  · have HI : Hid (halfB h1 a p = a) := Lib.hid (if_pos hh)
    go_enter Tryz.func70, Tryz.ntmps70
    go_wp2_with fail
    go_ret
    exact ⟨ret_str HI.out.symm, (Below.refl _ _).alloc (Nat.le_refl _) _⟩
  · have HI : Hid (halfB h1 a p = p) := Lib.hid (if_neg hh)
    have hd : decide (h1 < 12) = false := decide_eq_false hh
    go_enter Tryz.func70, Tryz.ntmps70
    go_wp2_with fail
    go_ret
    exact ⟨ret_str HI.out.symm, (Below.refl _ _).alloc (Nat.le_refl _) _⟩
set_option maxRecDepth 100000 in
theorem write_halfU (m : Mom) (w : World) :
    Calls Tryz.prog 69 #[.agg (momV m)] w fun e w' => e = .returned (.string ⟨(WP.txt m .halfU).toArray⟩) ∧ Below w.heap.size w w' := by
  have HH := Lib.hid (fun w => half_any m ⟨#[65, 77]⟩ ⟨#[80, 77]⟩ w)
  unfold momV at HH ⊢
  go_enter Tryz.func69, Tryz.ntmps69
  go_wp2_with fail
  refine (HH.out _).mono ?_
  rintro e w' ⟨rfl, hb⟩
  have HB := Lib.hid hb
  clear hb
  go_wp2_with fail
  go_ret
  exact ⟨ret_str (by rw [WP.txt]; unfold halfB; split <;> rfl), ((Below.refl _ _).alloc (Nat.le_refl _) _).trans (HB.out.mono (by simp))⟩
set_option maxRecDepth 100000 in
theorem write_halfL (m : Mom) (w : World) :
    Calls Tryz.prog 71 #[.agg (momV m)] w fun e w' => e = .returned (.string ⟨(WP.txt m .halfL).toArray⟩) ∧ Below w.heap.size w w' := by
  have HH := Lib.hid (fun w => half_any m ⟨#[97, 109]⟩ ⟨#[112, 109]⟩ w)
  unfold momV at HH ⊢
  go_enter Tryz.func71, Tryz.ntmps71
  go_wp2_with fail
  refine (HH.out _).mono ?_
  rintro e w' ⟨rfl, hb⟩
  have HB := Lib.hid hb
  clear hb
  go_wp2_with fail
  go_ret
  exact ⟨ret_str (by rw [WP.txt]; unfold halfB; split <;> rfl), ((Below.refl _ _).alloc (Nat.le_refl _) _).trans (HB.out.mono (by simp))⟩
set_option maxRecDepth 100000 in
theorem write_text (m : Mom) (t : ByteArray) (mb b : Nat) (w : World) (h : BoxAt w mb b (.string t) 9) :
    Calls Tryz.prog 105 #[.agg (momV m), .pointer (some ⟨b, 0, none⟩)] w fun e w' => e = .returned (.string ⟨(WP.txt m (.text t)).toArray⟩) ∧ Below w.heap.size w w' := by
  have hc1 := box_cell' h
  unfold momV
  clear h
  go_enter Tryz.func105, Tryz.ntmps105
  go_wp2_with fail
  go_ret
  exact ⟨ret_str (by rw [WP.txt, ← ba_all]), (Below.refl _ _).alloc (Nat.le_refl _) _⟩
end Go.Proofs.YtpjncnoejdaplaaGreatDoor

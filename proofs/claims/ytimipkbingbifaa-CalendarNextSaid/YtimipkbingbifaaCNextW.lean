/- CalendarNext: its walk, where there is no next day. -/
import Derived.Test.YtimipkbingbifaaCNextP
namespace Go.Proofs.Ytimipkbingbifaa
open Go Go.RowKit

theorem Split_day2 (y m d : Int) (h : OkD y m d) : ∃ (s : Nat) (yd : Int), ∀ w, Calls Try.prog 18 #[.float .f64 (fI (numI y m d * 86400))] w fun e w' => e = .returned (.tuple #[.agg (timeV y m d 0 0 s ((numI y m d + 4) % 7) yd), .int .i64 0]) ∧ Below w.heap.size w w' := by
  have hr := num_range y m d h
  have hf := flI_fI (numI y m d * 86400) (by omega) (by omega)
  have hz := (fI_is (numI y m d * 86400) (by omega) (by omega)).1
  exact ⟨_, _, fun w => Split_of _ hz y m d 0 h (by rw [hf]; omega) (by rw [hf]; omega) w⟩
/-- What Date answers 400 years on. -/
theorem far_date (y m d : Int) (h : OkD y m d) : (∀ w, Calls Try.prog 11 #[.int .i64 (numI y m d + 146097)] w fun e w' => e = .returned (.tuple #[.int .i64 (y + 400), .int .i64 m, .int .i64 d, .int .i64 0]) ∧ Below w.heap.size w w') ∨
    (∀ w, Calls Try.prog 11 #[.int .i64 (numI y m d + 146097)] w fun e w' => e = .returned (.tuple #[.int .i64 0, .int .i64 0, .int .i64 0, .int .i64 110]) ∧ Below w.heap.size w w') := by
  by_cases hn : numI y m d + 146097 ≤ 2932896
  · left
    obtain ⟨a, b⟩ := far_day y m d h hn
    intro w
    have e := Date_of (y + 400) m d a w
    rw [b] at e
    exact e
  · right
    exact fun w => Date_no _ (by omega) w
set_option maxRecDepth 100000 in
set_option maxHeartbeats 2000000 in
theorem next_no (n : Int) (hn : n < -4371587 ∨ 2932896 < n) (w : World) : Calls Try.prog 8 #[.int .i64 n] w fun e w' => e = .returned (.bool true) ∧ Below w.heap.size w w' := by
  have HN := Lib.hid hn
  clear hn
  go_enter Try.func8, Try.ntmps8
  go_wp2_with fail
  refine (Date_no n HN.out _).mono ?_
  rintro e w1 ⟨rfl, b1⟩
  have B1 := Lib.hid b1
  clear b1
  go_wp2_with fail
  refine (heads_true _).mono ?_
  rintro e w2 ⟨rfl, b2⟩
  have B2 := Lib.hid (B1.out.trans (b2.mono B1.out.size))
  clear b2
  go_wp2_with fail
  go_ret
  exact ⟨rfl, B2.out⟩
set_option maxRecDepth 100000 in
set_option maxHeartbeats 8000000 in
theorem next_last (y m d : Int) (hD : OkD y m d) (hl : numI y m d = 2932896) (w : World) : Calls Try.prog 8 #[.int .i64 (numI y m d)] w fun e w' => e = .returned (.bool true) ∧ Below w.heap.size w w' := by
  have hsf := run_store_float Try.prog
  have hci := conv_int
  have hr := num_range y m d hD
  have hin := num_in y m d hD
  have hDt := fun w => Date_of y m d hD w
  obtain ⟨s, yd, hSp⟩ := Split_day2 y m d hD
  unfold timeV at hSp
  have hFa := far_date y m d hD
  obtain ⟨⟨hy1, hy2⟩, ⟨hm1, hm2⟩, hd1, hd2⟩ := hD
  have hlb := lenI_bd y m hm1 hm2
  obtain ⟨hlb1, hlb2⟩ := hlb
  have hNo := fun w => Date_no (numI y m d + 1) (by omega) w
  obtain ⟨N, hN⟩ : ∃ N, numI y m d = N := ⟨_, rfl⟩
  rw [hN] at hr hin hDt hSp hFa hNo hl ⊢
  obtain ⟨wd, hwd⟩ : ∃ wd, (N + 4) % 7 = wd := ⟨_, rfl⟩
  rw [hwd] at hSp
  obtain ⟨hr1, hr2⟩ := hr
  have hl2 : (N == 2932896) = true := by rw [hl]; rfl
  have HDt := Lib.hid hDt
  have HSp := Lib.hid hSp
  have HNo := Lib.hid hNo
  have e1 : (y != y) = false := by simp
  have e2 : (m != m) = false := by simp
  have e3 : (d != d) = false := by simp
  have e4 : (y + 400 != y + 400) = false := by simp
  clear hDt hSp hNo hwd hl hN hin
  rcases hFa with hFa | hFa
  all_goals
    have HFa := Lib.hid hFa
    clear hFa
    go_enter Try.func8, Try.ntmps8
    go_wp2_with fail
    refine (HDt.out _).mono ?_
    rintro e w1 ⟨rfl, b1⟩
    have B1 := Lib.hid b1
    clear b1
    go_wp2_with fail
    refine (HSp.out _).mono ?_
    rintro e w2 ⟨rfl, b2⟩
    have B2 := Lib.hid (B1.out.trans (b2.mono B1.out.size))
    clear b2 B1
    go_wp2_with fail
    have hr5 := heap_alloc_new w2 (Obj.cells #[.int .i64 y, .int .i64 m, .int .i64 d, .int .i64 0, .int .i64 0, .float .f64 s, .int .i64 wd, .int .i64 yd] 37)
    have hb5 := B2.out.alloc B2.out.size (Obj.cells #[.int .i64 y, .int .i64 m, .int .i64 d, .int .i64 0, .int .i64 0, .float .f64 s, .int .i64 wd, .int .i64 yd] 37)
    have hz5 : w2.heap.size < (w2.alloc (Obj.cells #[.int .i64 y, .int .i64 m, .int .i64 d, .int .i64 0, .int .i64 0, .float .f64 s, .int .i64 wd, .int .i64 yd] 37)).heap.size := by simp
    generalize w2.alloc (Obj.cells #[.int .i64 y, .int .i64 m, .int .i64 d, .int .i64 0, .int .i64 0, .float .f64 s, .int .i64 wd, .int .i64 yd] 37) = X5 at hr5 hb5 hz5 ⊢
    have R5 := Lib.hid hr5
    have B5 := Lib.hid hb5
    have Z5 := Lib.hid hz5
    clear hr5 hb5 hz5
    refine (HFa.out _).mono ?_
    rintro e w3 ⟨rfl, b3⟩
    have R6 := Lib.hid ((b3.block w2.heap.size Z5.out).trans R5.out)
    have B6 := Lib.hid (B5.out.trans (b3.mono B5.out.size))
    have Z6 := Lib.hid (Nat.lt_of_lt_of_le Z5.out b3.size)
    clear b3 R5 B5 Z5
    go_wp2_with fail
    refine (HNo.out _).mono ?_
    rintro e w4 ⟨rfl, b4⟩
    have B7 := Lib.hid (B6.out.trans (b4.mono B6.out.size))
    clear b4 B6
    go_wp2_with fail
    refine (heads_true _).mono ?_
    rintro e w5 ⟨rfl, b5⟩
    have B8 := Lib.hid (B7.out.trans (b5.mono B7.out.size))
    clear b5 B7
    go_wp2_with fail
    go_ret
    exact ⟨rfl, B8.out⟩
end Go.Proofs.Ytimipkbingbifaa

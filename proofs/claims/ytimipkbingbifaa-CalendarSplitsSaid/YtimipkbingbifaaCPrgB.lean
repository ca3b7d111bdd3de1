/- The program's calendar: a date's number, a number's date. -/
import Derived.Test.YtimipkbingbifaaCPrgA
namespace Go.Proofs.Ytimipkbingbifaa
open Go Go.RowKit

theorem prgisDay_yes (n : Int) (h1 : -4371587 ≤ n) (h2 : n ≤ 2932896) (w : World) : Calls Try.prog 28 #[.int .i64 n] w fun e w' => e = .returned (.bool true) ∧ w = w' := by
  go_enter Try.func28, Try.ntmps28
  go_wp2_with fail
  go_ret
  exact ⟨rfl, rfl⟩
theorem prgisDay_no (n : Int) (h : n < -4371587 ∨ 2932896 < n) (w : World) : Calls Try.prog 28 #[.int .i64 n] w fun e w' => e = .returned (.bool false) ∧ w = w' := by
  rcases h with h | h
  · go_enter Try.func28, Try.ntmps28
    go_wp2_with fail
    go_ret
    exact ⟨rfl, rfl⟩
  · have h' : -4371587 ≤ n := by omega
    have h2 : decide (n ≤ 2932896) = false := decide_eq_false (by omega)
    clear h
    go_enter Try.func28, Try.ntmps28
    go_wp2_with fail
    go_ret
    exact ⟨rfl, rfl⟩
/-- How many days of its year are ahead of a day. -/
theorem prgyearDay_at (n y B : Int) (hB : beginI y 0 = B) (h1 : -10001 ≤ y) (h2 : y ≤ 10001) (h3 : B ≤ n) (h4 : n < beginI (y + 1) 0) (w : World) : Calls Try.prog 30 #[.int .i64 n] w fun e w' => e = .returned (.int .i64 (n - B)) ∧ ∃ k, w' = w.drewN k := by
  have hY := fun w => prgyearOf_at n y h1 h2 (by omega) h4 w
  have hG := fun w => prgyearBegin_at y B hB (by omega) (by omega) w
  have b1 := begin_wide y (by omega) (by omega)
  have b2 := begin_wide (y + 1) (by omega) (by omega)
  rw [hB] at b1
  obtain ⟨n1, n2⟩ : -10000000 ≤ n ∧ n ≤ 10000000 := by omega
  obtain ⟨b3, b4⟩ := b1
  have HY := Lib.hid hY
  have HG := Lib.hid hG
  clear hY hG hB h4 b2
  go_enter Try.func30, Try.ntmps30
  go_wp2_with fail
  refine (HY.out _).mono ?_
  rintro e w' ⟨rfl, k1, rfl⟩
  go_wp2_with fail
  refine (HG.out _).mono ?_
  rintro e w' ⟨rfl, k2, rfl⟩
  go_wp2_with fail
  go_ret
  exact ⟨rfl, _, rfl⟩
set_option maxHeartbeats 1000000 in
theorem prgDay_yes (y m d : Int) (h : OkD y m d) (w : World) : Calls Try.prog 9 #[.int .i64 y, .int .i64 m, .int .i64 d] w fun e w' => e = .returned (.tuple #[.int .i64 (numI y m d), .int .i64 0]) ∧ ∃ n, w' = w.drewN n := by
  obtain ⟨⟨hy1, hy2⟩, ⟨hm1, hm2⟩, hd1, hd2⟩ := h
  obtain ⟨B, hB⟩ : ∃ B, beginI y 0 = B := ⟨_, rfl⟩
  have hb := begin_wide y (by omega) (by omega)
  rw [hB] at hb
  obtain ⟨b1, b2⟩ := hb
  have hn : numI y m d = B + cumI y m + d - 1 := by
    rw [← hB]
    unfold numI beginI
    rw [cumI_zero]
    omega
  rw [hn]
  have hl := lenI_bd y m hm1 hm2
  obtain ⟨hl1, hl2⟩ := hl
  have hq := cumI_le y m hm1 (by omega)
  obtain ⟨hq1, hq2⟩ := hq
  have HB := Lib.hid hB
  have H0 := Lib.hid (cumI_zero y)
  clear hB hn
  go_enter Try.func9, Try.ntmps9
  go_wp2_with (go_at_call 15; refine (prgLength_any y m (by omega) (by omega) _).mono ?_; rintro e w' ⟨rfl, rfl⟩)
  refine (prgyearBegin_at y B HB.out (by omega) (by omega) _).mono ?_
  rintro e w' ⟨rfl, k1, rfl⟩
  go_wp2_with fail
  go_loop [8, 30] (fun n k => ∃ j : Int, 0 ≤ j ∧ j ≤ m ∧ n = .int .i64 (B + cumI y j) ∧ k = .int .i64 j) (fun _ k => (400 - intOf k).toNat)
  case atStart => exact ⟨0, by omega, by omega, by rw [H0.out]; go_num, rfl⟩
  case round =>
    obtain ⟨j, hj1, hj2, rfl, rfl⟩ := hrel
    have hr := cumI_le y j hj1 (by omega)
    obtain ⟨hr1, hr2⟩ := hr
    by_cases hlt : j < m
    · have hl := lenI_bd y j hj1 (by omega)
      obtain ⟨hl3, hl4⟩ := hl
      have HS := Lib.hid (cumI_succ y j hj1 (by omega))
      go_wp2_with (go_at_call 15; refine (prgLength_any y j (by omega) (by omega) _).mono ?_; rintro e w' ⟨rfl, rfl⟩)
      go_round
      case rel => exact ⟨j + 1, by omega, by omega, by rw [HS.out]; go_num, rfl⟩
      case measure => simp [intOf]; omega
    · have hjm : j = m := by omega
      subst hjm
      go_wp2_with fail
      go_ret2
      exact ⟨rfl, _, rfl⟩
set_option maxHeartbeats 1000000 in
theorem prgDay_no (y m d : Int) (hy1 : -9223372036854775808 ≤ y) (hy2 : y ≤ 9223372036854775807) (h : ¬ OkD y m d) (w : World) : Calls Try.prog 9 #[.int .i64 y, .int .i64 m, .int .i64 d] w fun e w' => e = .returned (.tuple #[.int .i64 0, .int .i64 110]) ∧ w = w' := by
  by_cases hk : y < -9999
  · clear h
    go_enter Try.func9, Try.ntmps9
    go_wp2_with fail
    go_ret2
    exact ⟨rfl, rfl⟩
  · by_cases hk2 : 9999 < y
    · have hk3 : -9999 ≤ y := by omega
      clear h hk
      go_enter Try.func9, Try.ntmps9
      go_wp2_with fail
      go_ret2
      exact ⟨rfl, rfl⟩
    · have hk3 : -9999 ≤ y := by omega
      have hk4 : y ≤ 9999 := by omega
      clear hk hk2
      by_cases hd : d < 1
      · clear h
        go_enter Try.func9, Try.ntmps9
        go_wp2_with fail
        go_ret2
        exact ⟨rfl, rfl⟩
      · have hl : lenI y m < d := by
          by_cases hm : 0 ≤ m ∧ m ≤ 11
          · rcases Int.lt_or_le (lenI y m) d with h1 | h1
            · exact h1
            · exact absurd ⟨⟨hk3, hk4⟩, hm, by omega, h1⟩ h
          · rw [lenI_no y m (by omega)]; omega
        have hd2 : 1 ≤ d := by omega
        clear h hd
        go_enter Try.func9, Try.ntmps9
        go_wp2_with (go_at_call 15; refine (prgLength_any y m hy1 hy2 _).mono ?_; rintro e w' ⟨rfl, rfl⟩)
        go_ret2
        exact ⟨rfl, rfl⟩
set_option maxHeartbeats 1000000 in
theorem prgDate_of (y m d : Int) (h : OkD y m d) (w : World) : Calls Try.prog 11 #[.int .i64 (numI y m d)] w fun e w' => e = .returned (.tuple #[.int .i64 y, .int .i64 m, .int .i64 d, .int .i64 0]) ∧ ∃ n, w' = w.drewN n := by
  have hn := num_range y m d h
  have hin := num_in y m d h
  have hC := begin_succ y
  obtain ⟨⟨hy1, hy2⟩, ⟨hm1, hm2⟩, hd1, hd2⟩ := h
  obtain ⟨B, hB⟩ : ∃ B, beginI y 0 = B := ⟨_, rfl⟩
  have hb := begin_wide y (by omega) (by omega)
  have he : numI y m d = B + cumI y m + (d - 1) := by
    rw [← hB]
    unfold numI beginI
    rw [cumI_zero]
    omega
  obtain ⟨N, hN⟩ : ∃ N, numI y m d = N := ⟨_, rfl⟩
  rw [hN] at hn hin he ⊢
  have hY := fun w => prgyearOf_at N y (by omega) (by omega) (by omega) (by omega) w
  have hD := fun w => prgyearDay_at N y B hB (by omega) (by omega) (by omega) (by omega) w
  rw [hB] at hb hin
  obtain ⟨b1, b2⟩ := hb
  obtain ⟨n1, n2⟩ := hn
  have hq := cumI_le y m hm1 (by omega)
  obtain ⟨hq1, hq2⟩ := hq
  have hl := lenI_bd y m hm1 hm2
  obtain ⟨hl1, hl2⟩ := hl
  have HE := Lib.hid (show N - B = cumI y m + (d - 1) from by omega)
  have HY := Lib.hid hY
  have HD := Lib.hid hD
  have H0 := Lib.hid (cumI_zero y)
  clear hY hD hB hN he hC hin
  go_enter Try.func11, Try.ntmps11
  go_wp2_with fail
  refine (prgisDay_yes N n1 n2 _).mono ?_
  rintro e w' ⟨rfl, rfl⟩
  go_wp2_with fail
  refine (HY.out _).mono ?_
  rintro e w' ⟨rfl, k1, rfl⟩
  go_wp2_with fail
  refine (HD.out _).mono ?_
  rintro e w' ⟨rfl, k2, rfl⟩
  go_wp2_with fail
  go_loop [6, 3] (fun n k => ∃ j : Int, 0 ≤ j ∧ j ≤ m ∧ n = .int .i64 (cumI y m + (d - 1) - cumI y j) ∧ k = .int .i64 j) (fun _ k => (400 - intOf k).toNat)
  case atStart => exact ⟨0, by omega, by omega, by rw [H0.out, HE.out]; go_num, rfl⟩
  case round =>
    obtain ⟨j, hj1, hj2, rfl, rfl⟩ := hrel
    have hr := cumI_le y j hj1 (by omega)
    obtain ⟨hr1, hr2⟩ := hr
    have hll := lenI_bd y j hj1 (by omega)
    obtain ⟨hl3, hl4⟩ := hll
    by_cases hlt2 : j < m
    · have HS2 := Lib.hid (cumI_succ y j hj1 (by omega))
      have hge2 : lenI y j ≤ cumI y m + (d - 1) - cumI y j := by
        have := cumI_mono y j m hj1 hlt2 hm2
        omega
      go_wp2_with (go_at_call 15; refine (prgLength_any y j (by omega) (by omega) _).mono ?_; rintro e w' ⟨rfl, rfl⟩)
      go_round
      case rel => exact ⟨j + 1, by omega, by omega, by rw [HS2.out]; go_num, rfl⟩
      case measure => simp [intOf]; omega
    · have hjm : j = m := by omega
      subst hjm
      have hge2 : cumI y j + (d - 1) - cumI y j < lenI y j := by omega
      have HX := Lib.hid (show cumI y j + (d - 1) - cumI y j + 1 = d from by omega)
      go_wp2_with (go_at_call 15; refine (prgLength_any y j (by omega) (by omega) _).mono ?_; rintro e w' ⟨rfl, rfl⟩)
      refine bodyPost_ret (v := .tuple #[.int .i64 y, .int .i64 j, .int .i64 (cumI y j + (d - 1) - cumI y j + 1), .int .i64 0]) (by simp [results, Try.results11, go_sem]) rfl ⟨?_, _, rfl⟩
      rw [HX.out]
theorem prgDate_no (n : Int) (h : n < -4371587 ∨ 2932896 < n) (w : World) : Calls Try.prog 11 #[.int .i64 n] w fun e w' => e = .returned (.tuple #[.int .i64 0, .int .i64 0, .int .i64 0, .int .i64 110]) ∧ w = w' := by
  have HN := Lib.hid h
  clear h
  go_enter Try.func11, Try.ntmps11
  go_wp2_with fail
  refine (prgisDay_no n HN.out _).mono ?_
  rintro e w' ⟨rfl, rfl⟩
  go_wp2_with fail
  exact bodyPost_ret (v := .tuple #[.int .i64 0, .int .i64 0, .int .i64 0, .int .i64 110]) (by simp [results, Try.results11, go_sem]) rfl ⟨rfl, rfl⟩
end Go.Proofs.Ytimipkbingbifaa

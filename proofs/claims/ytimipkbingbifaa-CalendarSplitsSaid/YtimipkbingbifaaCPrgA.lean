/- The program's calendar: leap years, months' lengths, quotients downwards, years' beginnings, the year of a day. -/
import Derived.Test.YtimipkbingbifaaCRefD
namespace Go.Proofs.Ytimipkbingbifaa
open Go Go.RowKit

set_option maxHeartbeats 400000 in
theorem prgLeap_any (y : Int) (_hy1 : -9223372036854775808 ≤ y) (_hy2 : y ≤ 9223372036854775807) (w : World) : Calls Try.prog 13 #[.int .i64 y] w fun e w' => e = .returned (.bool (leapB y)) ∧ w = w' := by
  rw [leapB_t]
  go_enter Try.func13, Try.ntmps13
  go_wp2_with fail
  all_goals (go_ret; exact ⟨by simp [*], rfl⟩)
/-- One element of a small array of numbers. -/
theorem und12 : Try.prog.underlying 54 = some (.array 12 3) := by kernel_rfl
theorem und5 : Try.prog.underlying 58 = some (.array 5 3) := by kernel_rfl
theorem index_12 (cs : Array Value) (i : Nat) (x : Int) (hi : i < 12) (hx : cs[i]? = some (.int .i64 x)) (w : World) : (Instr.index 54 (.agg cs) (.int .i64 i)).run Try.prog w = .ok (.int .i64 x) w := by
  have h1 : (0 : Int) ≤ (i : Int) ∧ (i : Int) < ((12 : Nat) : Int) := by omega
  simp [Instr.index, run_underlying und12, asIntOf, part, h1, hi, hx, go_sem]
theorem index_5 (cs : Array Value) (i : Nat) (x : Int) (hi : i < 5) (hx : cs[i]? = some (.int .i64 x)) (w : World) : (Instr.index 58 (.agg cs) (.int .i64 i)).run Try.prog w = .ok (.int .i64 x) w := by
  have h1 : (0 : Int) ≤ (i : Int) ∧ (i : Int) < ((5 : Nat) : Int) := by omega
  simp [Instr.index, run_underlying und5, asIntOf, part, h1, hi, hx, go_sem]
set_option maxHeartbeats 2000000 in
theorem prgLength_any (y m : Int) (hy1 : -9223372036854775808 ≤ y) (hy2 : y ≤ 9223372036854775807) (w : World) : Calls Try.prog 15 #[.int .i64 y, .int .i64 m] w fun e w' => e = .returned (.int .i64 (lenI y m)) ∧ w = w' := by
  by_cases hm : 0 ≤ m ∧ m ≤ 11
  · rcases month_cases m hm.1 hm.2 with h | h | h | h | h | h | h | h | h | h | h | h <;> subst h <;> clear hm
    · have hx : ∀ w, (Instr.index 54 (.agg #[.int .i64 31, .int .i64 28, .int .i64 31, .int .i64 30, .int .i64 31, .int .i64 30, .int .i64 31, .int .i64 31, .int .i64 30, .int .i64 31, .int .i64 30, .int .i64 31]) (.int .i64 0)).run Try.prog w = .ok (.int .i64 31) w := index_12 _ 0 31 (by omega) rfl
      go_enter Try.func15, Try.ntmps15
      go_wp2_with (go_at_call 13; refine (prgLeap_any y hy1 hy2 _).mono ?_; rintro e w' ⟨rfl, rfl⟩)
      all_goals (go_ret; exact ⟨by simp [lenI, *], rfl⟩)
    · have hx : ∀ w, (Instr.index 54 (.agg #[.int .i64 31, .int .i64 28, .int .i64 31, .int .i64 30, .int .i64 31, .int .i64 30, .int .i64 31, .int .i64 31, .int .i64 30, .int .i64 31, .int .i64 30, .int .i64 31]) (.int .i64 1)).run Try.prog w = .ok (.int .i64 28) w := index_12 _ 1 28 (by omega) rfl
      go_enter Try.func15, Try.ntmps15
      go_wp2_with (go_at_call 13; refine (prgLeap_any y hy1 hy2 _).mono ?_; rintro e w' ⟨rfl, rfl⟩)
      all_goals (go_ret; exact ⟨by simp [lenI, *], rfl⟩)
    · have hx : ∀ w, (Instr.index 54 (.agg #[.int .i64 31, .int .i64 28, .int .i64 31, .int .i64 30, .int .i64 31, .int .i64 30, .int .i64 31, .int .i64 31, .int .i64 30, .int .i64 31, .int .i64 30, .int .i64 31]) (.int .i64 2)).run Try.prog w = .ok (.int .i64 31) w := index_12 _ 2 31 (by omega) rfl
      go_enter Try.func15, Try.ntmps15
      go_wp2_with (go_at_call 13; refine (prgLeap_any y hy1 hy2 _).mono ?_; rintro e w' ⟨rfl, rfl⟩)
      all_goals (go_ret; exact ⟨by simp [lenI, *], rfl⟩)
    · have hx : ∀ w, (Instr.index 54 (.agg #[.int .i64 31, .int .i64 28, .int .i64 31, .int .i64 30, .int .i64 31, .int .i64 30, .int .i64 31, .int .i64 31, .int .i64 30, .int .i64 31, .int .i64 30, .int .i64 31]) (.int .i64 3)).run Try.prog w = .ok (.int .i64 30) w := index_12 _ 3 30 (by omega) rfl
      go_enter Try.func15, Try.ntmps15
      go_wp2_with (go_at_call 13; refine (prgLeap_any y hy1 hy2 _).mono ?_; rintro e w' ⟨rfl, rfl⟩)
      all_goals (go_ret; exact ⟨by simp [lenI, *], rfl⟩)
    · have hx : ∀ w, (Instr.index 54 (.agg #[.int .i64 31, .int .i64 28, .int .i64 31, .int .i64 30, .int .i64 31, .int .i64 30, .int .i64 31, .int .i64 31, .int .i64 30, .int .i64 31, .int .i64 30, .int .i64 31]) (.int .i64 4)).run Try.prog w = .ok (.int .i64 31) w := index_12 _ 4 31 (by omega) rfl
      go_enter Try.func15, Try.ntmps15
      go_wp2_with (go_at_call 13; refine (prgLeap_any y hy1 hy2 _).mono ?_; rintro e w' ⟨rfl, rfl⟩)
      all_goals (go_ret; exact ⟨by simp [lenI, *], rfl⟩)
    · have hx : ∀ w, (Instr.index 54 (.agg #[.int .i64 31, .int .i64 28, .int .i64 31, .int .i64 30, .int .i64 31, .int .i64 30, .int .i64 31, .int .i64 31, .int .i64 30, .int .i64 31, .int .i64 30, .int .i64 31]) (.int .i64 5)).run Try.prog w = .ok (.int .i64 30) w := index_12 _ 5 30 (by omega) rfl
      go_enter Try.func15, Try.ntmps15
      go_wp2_with (go_at_call 13; refine (prgLeap_any y hy1 hy2 _).mono ?_; rintro e w' ⟨rfl, rfl⟩)
      all_goals (go_ret; exact ⟨by simp [lenI, *], rfl⟩)
    · have hx : ∀ w, (Instr.index 54 (.agg #[.int .i64 31, .int .i64 28, .int .i64 31, .int .i64 30, .int .i64 31, .int .i64 30, .int .i64 31, .int .i64 31, .int .i64 30, .int .i64 31, .int .i64 30, .int .i64 31]) (.int .i64 6)).run Try.prog w = .ok (.int .i64 31) w := index_12 _ 6 31 (by omega) rfl
      go_enter Try.func15, Try.ntmps15
      go_wp2_with (go_at_call 13; refine (prgLeap_any y hy1 hy2 _).mono ?_; rintro e w' ⟨rfl, rfl⟩)
      all_goals (go_ret; exact ⟨by simp [lenI, *], rfl⟩)
    · have hx : ∀ w, (Instr.index 54 (.agg #[.int .i64 31, .int .i64 28, .int .i64 31, .int .i64 30, .int .i64 31, .int .i64 30, .int .i64 31, .int .i64 31, .int .i64 30, .int .i64 31, .int .i64 30, .int .i64 31]) (.int .i64 7)).run Try.prog w = .ok (.int .i64 31) w := index_12 _ 7 31 (by omega) rfl
      go_enter Try.func15, Try.ntmps15
      go_wp2_with (go_at_call 13; refine (prgLeap_any y hy1 hy2 _).mono ?_; rintro e w' ⟨rfl, rfl⟩)
      all_goals (go_ret; exact ⟨by simp [lenI, *], rfl⟩)
    · have hx : ∀ w, (Instr.index 54 (.agg #[.int .i64 31, .int .i64 28, .int .i64 31, .int .i64 30, .int .i64 31, .int .i64 30, .int .i64 31, .int .i64 31, .int .i64 30, .int .i64 31, .int .i64 30, .int .i64 31]) (.int .i64 8)).run Try.prog w = .ok (.int .i64 30) w := index_12 _ 8 30 (by omega) rfl
      go_enter Try.func15, Try.ntmps15
      go_wp2_with (go_at_call 13; refine (prgLeap_any y hy1 hy2 _).mono ?_; rintro e w' ⟨rfl, rfl⟩)
      all_goals (go_ret; exact ⟨by simp [lenI, *], rfl⟩)
    · have hx : ∀ w, (Instr.index 54 (.agg #[.int .i64 31, .int .i64 28, .int .i64 31, .int .i64 30, .int .i64 31, .int .i64 30, .int .i64 31, .int .i64 31, .int .i64 30, .int .i64 31, .int .i64 30, .int .i64 31]) (.int .i64 9)).run Try.prog w = .ok (.int .i64 31) w := index_12 _ 9 31 (by omega) rfl
      go_enter Try.func15, Try.ntmps15
      go_wp2_with (go_at_call 13; refine (prgLeap_any y hy1 hy2 _).mono ?_; rintro e w' ⟨rfl, rfl⟩)
      all_goals (go_ret; exact ⟨by simp [lenI, *], rfl⟩)
    · have hx : ∀ w, (Instr.index 54 (.agg #[.int .i64 31, .int .i64 28, .int .i64 31, .int .i64 30, .int .i64 31, .int .i64 30, .int .i64 31, .int .i64 31, .int .i64 30, .int .i64 31, .int .i64 30, .int .i64 31]) (.int .i64 10)).run Try.prog w = .ok (.int .i64 30) w := index_12 _ 10 30 (by omega) rfl
      go_enter Try.func15, Try.ntmps15
      go_wp2_with (go_at_call 13; refine (prgLeap_any y hy1 hy2 _).mono ?_; rintro e w' ⟨rfl, rfl⟩)
      all_goals (go_ret; exact ⟨by simp [lenI, *], rfl⟩)
    · have hx : ∀ w, (Instr.index 54 (.agg #[.int .i64 31, .int .i64 28, .int .i64 31, .int .i64 30, .int .i64 31, .int .i64 30, .int .i64 31, .int .i64 31, .int .i64 30, .int .i64 31, .int .i64 30, .int .i64 31]) (.int .i64 11)).run Try.prog w = .ok (.int .i64 31) w := index_12 _ 11 31 (by omega) rfl
      go_enter Try.func15, Try.ntmps15
      go_wp2_with (go_at_call 13; refine (prgLeap_any y hy1 hy2 _).mono ?_; rintro e w' ⟨rfl, rfl⟩)
      all_goals (go_ret; exact ⟨by simp [lenI, *], rfl⟩)
  · have e := lenI_no y m (by omega)
    rw [e]
    clear e
    by_cases h : m < 0
    · clear hm
      go_enter Try.func15, Try.ntmps15
      go_wp2_with fail
      go_ret
      exact ⟨rfl, rfl⟩
    · have h2 : 11 < m := by omega
      have h3 : decide (m < 0) = false := by simpa using h
      clear hm
      go_enter Try.func15, Try.ntmps15
      go_wp2_with fail
      go_ret
      exact ⟨rfl, rfl⟩
set_option maxHeartbeats 400000 in
theorem prgdivided_any (n k : Int) (hk : 0 < k) (hk2 : k ≤ 1000000) (h1 : -9000000000000000000 ≤ n) (h2 : n ≤ 9000000000000000000) (w : World) : Calls Try.prog 35 #[.int .i64 n, .int .i64 k] w fun e w' => e = .returned (.tuple #[.int .i64 (n / k), .int .i64 (n % k)]) ∧ ∃ m, w' = w.drewN m := by
  have hp := floor_parts n k hk
  have hb := tdiv_bd n k 9000000000000000000 hk h1 h2 (by omega)
  have hm1 : n.tmod k < k := Int.tmod_lt_of_pos n hk
  have hm2 : -k < n.tmod k := by
    have := Int.tmod_lt_of_pos (-n) hk
    rw [Int.neg_tmod] at this
    omega
  obtain ⟨hb1, hb2⟩ := hb
  by_cases hneg : n.tmod k < 0
  · obtain ⟨e1, e2⟩ := hp.1 hneg
    rw [← e1, ← e2]
    clear e1 e2 hp
    go_enter Try.func35, Try.ntmps35
    go_wp2_with fail
    go_quiet (fail)
    go_wp2_with fail
    go_ret2
    exact ⟨rfl, _, rfl⟩
  · obtain ⟨e1, e2⟩ := hp.2 (by omega)
    rw [← e1, ← e2]
    clear e1 e2 hp
    go_enter Try.func35, Try.ntmps35
    go_wp2_with fail
    go_quiet (fail)
    go_wp2_with fail
    go_ret2
    exact ⟨rfl, _, rfl⟩
theorem prgdivided_at (n k q r : Int) (hq : n / k = q) (hr : n % k = r) (hk : 0 < k) (hk2 : k ≤ 1000000) (h1 : -9000000000000000000 ≤ n) (h2 : n ≤ 9000000000000000000) (w : World) : Calls Try.prog 35 #[.int .i64 n, .int .i64 k] w fun e w' => e = .returned (.tuple #[.int .i64 q, .int .i64 r]) ∧ ∃ m, w' = w.drewN m := by
  subst hq; subst hr
  exact prgdivided_any n k hk hk2 h1 h2 w
theorem prgyearBegin_any (y : Int) (h1 : -1000000 ≤ y) (h2 : y ≤ 1000000) (w : World) : Calls Try.prog 25 #[.int .i64 y] w fun e w' => e = .returned (.int .i64 (beginI y 0)) ∧ ∃ n, w' = w.drewN n := by
  obtain ⟨a, ha⟩ : ∃ a, (y - 1) / 4 = a := ⟨_, rfl⟩
  obtain ⟨b, hb⟩ : ∃ b, (y - 1) / 100 = b := ⟨_, rfl⟩
  obtain ⟨c, hc⟩ : ∃ c, (y - 1) / 400 = c := ⟨_, rfl⟩
  have hB : beginI y 0 = -719162 + 365 * (y - 1) + a - b + c := by
    unfold beginI dby
    rw [cumI_zero]
    omega
  rw [hB]
  have a1 : -1000001 ≤ a := by omega
  have a2 : a ≤ 1000000 := by omega
  have b1 : -1000001 ≤ b := by omega
  have b2 : b ≤ 1000000 := by omega
  have c1 : -1000001 ≤ c := by omega
  have c2 : c ≤ 1000000 := by omega
  have HA := Lib.hid ha
  have HB := Lib.hid hb
  have HC := Lib.hid hc
  clear ha hb hc hB
  go_enter Try.func25, Try.ntmps25
  go_wp2_with fail
  refine (prgdivided_at (y - 1) 4 a _ HA.out rfl (by omega) (by omega) (by omega) (by omega) _).mono ?_
  rintro e w' ⟨rfl, n1, rfl⟩
  go_wp2_with fail
  refine (prgdivided_at (y - 1) 100 b _ HB.out rfl (by omega) (by omega) (by omega) (by omega) _).mono ?_
  rintro e w' ⟨rfl, n2, rfl⟩
  go_wp2_with fail
  refine (prgdivided_at (y - 1) 400 c _ HC.out rfl (by omega) (by omega) (by omega) (by omega) _).mono ?_
  rintro e w' ⟨rfl, n3, rfl⟩
  go_wp2_with fail
  go_ret
  exact ⟨rfl, _, rfl⟩
theorem prgyearBegin_at (y B : Int) (hB : beginI y 0 = B) (h1 : -1000000 ≤ y) (h2 : y ≤ 1000000) (w : World) : Calls Try.prog 25 #[.int .i64 y] w fun e w' => e = .returned (.int .i64 B) ∧ ∃ n, w' = w.drewN n := by
  subst hB
  exact prgyearBegin_any y h1 h2 w
theorem begin_mono (a b : Int) (h : a ≤ b) : beginI a 0 + 365 * (b - a) ≤ beginI b 0 := by
  unfold beginI
  rw [cumI_zero, cumI_zero]
  have := dby_mono a b h
  omega
theorem begin_wide (y : Int) (h1 : -20000 ≤ y) (h2 : y ≤ 20000) : -10000000 ≤ beginI y 0 ∧ beginI y 0 ≤ 10000000 := by
  have a := dby_mono (-20000) y h1
  have b := dby_mono y 20000 h2
  have e1 : dby (-20000) = -7304850 := by decide
  have e2 : dby 20000 = 7304850 := by decide
  unfold beginI
  rw [cumI_zero]
  omega
/-- The year of a day, also one beside the calendar's years. -/
theorem prgyearOf_at (n y : Int) (h1 : -10001 ≤ y) (h2 : y ≤ 10001) (h3 : beginI y 0 ≤ n) (h4 : n < beginI (y + 1) 0) (w : World) : Calls Try.prog 29 #[.int .i64 n] w fun e w' => e = .returned (.int .i64 y) ∧ ∃ k, w' = w.drewN k := by
  have b1 := begin_wide y (by omega) (by omega)
  have b2 := begin_wide (y + 1) (by omega) (by omega)
  obtain ⟨n1, n2⟩ : -10000000 ≤ n ∧ n ≤ 10000000 := by omega
  obtain ⟨q, hq⟩ : ∃ q, 400 * n / 146097 = q := ⟨_, rfl⟩
  have hg : -11990 ≤ 1970 + q ∧ 1970 + q ≤ 11990 := by
    have b3 := begin_bd y (by omega) (by omega)
    have b4 : beginI (y + 1) 0 ≤ 3600000 := by
      have := dby_mono (y + 1) 10002 (by omega)
      have e2 : dby 10002 = 3653156 := by decide
      unfold beginI
      rw [cumI_zero]
      omega
    have b5 : -4380000 ≤ beginI y 0 := by
      have := dby_mono (-10001) y (by omega)
      have e2 : dby (-10001) = -3652790 := by decide
      unfold beginI
      rw [cumI_zero]
      omega
    omega
  obtain ⟨g1, g2⟩ := hg
  have HQ := Lib.hid hq
  have H3 := Lib.hid h3
  have H4 := Lib.hid h4
  have q1 : -14000 ≤ q := by omega
  have q2 : q ≤ 11000 := by omega
  clear hq h3 h4 b1 b2
  go_enter Try.func29, Try.ntmps29
  go_wp2_with fail
  refine (prgdivided_at (400 * n) 146097 q _ HQ.out rfl (by omega) (by omega) (by omega) (by omega) _).mono ?_
  rintro e w' ⟨rfl, k1, rfl⟩
  go_wp2_with fail
  go_loopw [5] (fun t wr => ∃ a : Int, -12000 ≤ a ∧ a ≤ 12000 ∧ t = .int .i64 a ∧ ∃ k, wr = w.drewN k) (fun t _ => (intOf t - y).toNat)
  case atStart => exact ⟨1970 + q, by omega, by omega, rfl, k1, rfl⟩
  case round =>
    obtain ⟨a, a1, a2, rfl, k, rfl⟩ := hrel
    obtain ⟨B, hB⟩ : ∃ B, beginI a 0 = B := ⟨_, rfl⟩
    have hBw := begin_wide a (by omega) (by omega)
    rw [hB] at hBw
    obtain ⟨B1, B2⟩ := hBw
    have HB := Lib.hid hB
    by_cases hlt : n < B
    · have hya : y < a := by
        rcases Int.lt_or_le y a with h | h
        · exact h
        · have := begin_mono a y h
          have := H3.out
          omega
      clear hB
      go_wp2_with fail
      refine (prgyearBegin_at a B HB.out (by omega) (by omega) _).mono ?_
      rintro e w' ⟨rfl, k2, rfl⟩
      go_wp2_with fail
      go_roundw
      case rel => exact ⟨a - 1, by omega, by omega, rfl, _, rfl⟩
      case measure => simp [intOf]; omega
    · have hya : a ≤ y := by
        rcases Int.lt_or_le y a with h | h
        · have := begin_mono (y + 1) a (by omega)
          have := H4.out
          omega
        · exact h
      clear hB
      go_wp2_with fail
      refine (prgyearBegin_at a B HB.out (by omega) (by omega) _).mono ?_
      rintro e w' ⟨rfl, k2, rfl⟩
      go_wp2_with fail
      go_loopw [5] (fun t wr => ∃ a : Int, -12000 ≤ a ∧ a ≤ y ∧ t = .int .i64 a ∧ ∃ k, wr = w.drewN k) (fun t _ => (y - intOf t).toNat)
      case atStart => exact ⟨a, by omega, by omega, rfl, _, rfl⟩
      case round =>
        obtain ⟨c, c1, c2, rfl, k, rfl⟩ := hrel
        obtain ⟨C, hC⟩ : ∃ C, beginI (c + 1) 0 = C := ⟨_, rfl⟩
        have hCw := begin_wide (c + 1) (by omega) (by omega)
        rw [hC] at hCw
        obtain ⟨C1, C2⟩ := hCw
        have HC := Lib.hid hC
        by_cases hge : C ≤ n
        · have hcy : c < y := by
            rcases Int.lt_or_le c y with h | h
            · exact h
            · obtain rfl : c = y := by omega
              have := H4.out
              omega
          clear hC
          go_wp2_with fail
          refine (prgyearBegin_at (c + 1) C HC.out (by omega) (by omega) _).mono ?_
          rintro e w' ⟨rfl, k3, rfl⟩
          go_wp2_with fail
          go_roundw
          case rel => exact ⟨c + 1, by omega, by omega, rfl, _, rfl⟩
          case measure => simp [intOf]; omega
        · have hcy : y = c := by
            rcases Int.lt_or_le c y with h | h
            · have := begin_mono (c + 1) y (by omega)
              have := H3.out
              omega
            · omega
          subst hcy
          clear hC
          go_wp2_with fail
          refine (prgyearBegin_at (y + 1) C HC.out (by omega) (by omega) _).mono ?_
          rintro e w' ⟨rfl, k3, rfl⟩
          go_wp2_with fail
          go_ret
          exact ⟨rfl, _, rfl⟩
end Go.Proofs.Ytimipkbingbifaa

/- The document's calendar: Day and Date. -/
import Derived.Test.YtimipkbingbifaaCRefB
namespace Go.Proofs.Ytimipkbingbifaa
open Go Go.RowKit

def knownB (y : Int) : Bool := decide (-9999 ≤ y) && decide (y ≤ 9999)
theorem refknown_any (y : Int) (w : World) : Calls Try.prog 26 #[.int .i64 y] w fun e w' => e = .returned (.bool (knownB y)) ∧ w = w' := by
  unfold knownB
  by_cases h1 : -9999 ≤ y
  · by_cases h2 : y ≤ 9999
    · rw [decide_eq_true h1, decide_eq_true h2]
      go_enter Try.func26, Try.ntmps26
      go_wp2_with fail
      go_ret
      exact ⟨rfl, rfl⟩
    · rw [decide_eq_true h1, decide_eq_false h2]
      go_enter Try.func26, Try.ntmps26
      go_wp2_with fail
      go_ret
      exact ⟨rfl, rfl⟩
  · rw [decide_eq_false h1]
    go_enter Try.func26, Try.ntmps26
    go_wp2_with fail
    go_ret
    exact ⟨rfl, rfl⟩
theorem knownB_true (y : Int) (h : -9999 ≤ y ∧ y ≤ 9999) : knownB y = true := by simp [knownB, h.1, h.2]
theorem knownB_false (y : Int) (h : ¬ (-9999 ≤ y ∧ y ≤ 9999)) : knownB y = false := by
  rw [Bool.eq_false_iff]
  intro h2
  simp [knownB] at h2
  exact h h2
theorem refknown_yes (y : Int) (h : -9999 ≤ y ∧ y ≤ 9999) (w : World) : Calls Try.prog 26 #[.int .i64 y] w fun e w' => e = .returned (.bool true) ∧ w = w' := by
  have e := refknown_any y w
  rw [knownB_true y h] at e
  exact e
theorem refknown_no (y : Int) (h : ¬ (-9999 ≤ y ∧ y ≤ 9999)) (w : World) : Calls Try.prog 26 #[.int .i64 y] w fun e w' => e = .returned (.bool false) ∧ w = w' := by
  have e := refknown_any y w
  rw [knownB_false y h] at e
  exact e
set_option maxHeartbeats 1000000 in
theorem refDay_yes (y m d : Int) (h : OkD y m d) (w : World) : Calls Try.prog 10 #[.int .i64 y, .int .i64 m, .int .i64 d] w fun e w' => e = .returned (.tuple #[.int .i64 (numI y m d), .int .i64 0]) ∧ ∃ n, w' = w.drewN n := by
  have hn := num_range y m d h
  obtain ⟨hy, ⟨hm1, hm2⟩, hd1, hd2⟩ := h
  have HN := Lib.hid (show numI y m d = beginI y m + d - 1 from rfl)
  have hb1 : -4371618 ≤ beginI y m := by have := lenI_bd y m hm1 hm2; have := HN.out; omega
  have hb2 : beginI y m ≤ 2932896 := by have := HN.out; omega
  have hl := lenI_bd y m hm1 hm2
  obtain ⟨hl1, hl2⟩ := hl
  clear hn
  go_enter Try.func10, Try.ntmps10
  go_wp2_with (first | (go_at_call 26; refine (refknown_yes y hy _).mono ?_; rintro e w' ⟨rfl, rfl⟩) | (go_at_call 16; refine (refLength_any y m (by omega) (by omega) _).mono ?_; rintro e w' ⟨rfl, rfl⟩) | (go_at_call 27; refine (refbegin_any y m (by omega) (by omega) (by omega) (by omega) _).mono ?_; rintro e w' ⟨rfl, k, rfl⟩))
  go_ret2
  exact ⟨by rw [HN.out]; rfl, _, rfl⟩
set_option maxHeartbeats 1000000 in
theorem refDay_no (y m d : Int) (hy1 : -9223372036854775808 ≤ y) (hy2 : y ≤ 9223372036854775807) (h : ¬ OkD y m d) (w : World) : Calls Try.prog 10 #[.int .i64 y, .int .i64 m, .int .i64 d] w fun e w' => e = .returned (.tuple #[.int .i64 0, .int .i64 110]) ∧ w = w' := by
  by_cases hk : -9999 ≤ y ∧ y ≤ 9999
  · by_cases hd : d < 1
    · clear h
      go_enter Try.func10, Try.ntmps10
      go_wp2_with (go_at_call 26; refine (refknown_yes y hk _).mono ?_; rintro e w' ⟨rfl, rfl⟩)
      go_ret2
      exact ⟨rfl, rfl⟩
    · have hl : lenI y m < d := by
        by_cases hm : 0 ≤ m ∧ m ≤ 11
        · rcases Int.lt_or_le (lenI y m) d with h1 | h1
          · exact h1
          · exact absurd ⟨hk, hm, by omega, h1⟩ h
        · rw [lenI_no y m (by omega)]; omega
      clear h
      go_enter Try.func10, Try.ntmps10
      go_wp2_with (first | (go_at_call 26; refine (refknown_yes y hk _).mono ?_; rintro e w' ⟨rfl, rfl⟩) | (go_at_call 16; refine (refLength_any y m hy1 hy2 _).mono ?_; rintro e w' ⟨rfl, rfl⟩))
      go_ret2
      exact ⟨rfl, rfl⟩
  · clear h
    have HK := Lib.hid hk
    clear hk
    go_enter Try.func10, Try.ntmps10
    go_wp2_with (go_at_call 26; refine (refknown_no y HK.out _).mono ?_; rintro e w' ⟨rfl, rfl⟩)
    go_ret2
    exact ⟨rfl, rfl⟩
/-- Where a day stands within its 400 years. -/
theorem cycle_of (y m d : Int) (h : OkD y m d) : (numI y m d + 719528) / 146097 = y / 400 ∧ (numI y m d + 719528) % 146097 = dby (y % 400) + cumI (y % 400) m + (d - 1) := by
  obtain ⟨hy, ⟨hm1, hm2⟩, hd1, hd2⟩ := h
  have e := begin_year y (y / 400) (y % 400) m (by omega)
  have hc := cumI_bd (y % 400) m hm1 hm2
  have hl : lenI y m = lenI (y % 400) m := by
    unfold lenI
    have := leap_cycle (y / 400) (y % 400)
    rw [show 400 * (y / 400) + y % 400 = y from by omega] at this
    rw [this]
  rw [hl] at hd2
  have hs := dby_succ (y % 400)
  have hb := dby_bd (y % 400) (by omega) (by omega)
  have hb2 := dby_bd (y % 400 + 1) (by omega) (by omega)
  unfold numI
  rw [e]
  omega
set_option maxHeartbeats 1000000 in
theorem refDate_of (y m d : Int) (h : OkD y m d) (w : World) : Calls Try.prog 12 #[.int .i64 (numI y m d)] w fun e w' => e = .returned (.tuple #[.int .i64 y, .int .i64 m, .int .i64 d, .int .i64 0]) ∧ ∃ n, w' = w.drewN n := by
  have hn := num_range y m d h
  have hcy := cycle_of y m d h
  have ha := h
  obtain ⟨⟨hy1, hy2⟩, ⟨hm1, hm2⟩, hd1, hd2⟩ := h
  obtain ⟨c, hc⟩ : ∃ c, y / 400 = c := ⟨_, rfl⟩
  obtain ⟨r, hr⟩ : ∃ r, y % 400 = r := ⟨_, rfl⟩
  rw [hc, hr] at hcy
  obtain ⟨N, hN⟩ : ∃ N, numI y m d = N := ⟨_, rfl⟩
  rw [hN] at hn hcy ⊢
  have hr1 : 0 ≤ r := by omega
  have hr2 : r < 400 := by omega
  have hc1 : -80 ≤ c := by omega
  have hc2 : c ≤ 80 := by omega
  have hyy : y = 400 * c + r := by omega
  have hl : lenI y m = lenI r m := by
    unfold lenI
    rw [hyy, leap_cycle]
  rw [hl] at hd2
  have hcm := cumI_bd r m hm1 hm2
  have hyr : yearI r ≤ 366 := by have := yearI_two r; omega
  have hlm := lenI_bd r m hm1 hm2
  have HY := Lib.hid hyy
  have HQ := Lib.hid hcy.1
  have HR := Lib.hid hcy.2
  obtain ⟨hn1, hn2⟩ := hn
  obtain ⟨hcm1, hcm2, hcm3⟩ := hcm
  obtain ⟨hlm1, hlm2⟩ := hlm
  have e0 : dby 0 = 0 := by decide
  have HE := Lib.hid e0
  have hdr := dby_bd r hr1 (by omega)
  obtain ⟨hdr1, hdr2⟩ := hdr
  clear hcy hyy hl ha hc hr hN hy1 hy2 e0
  go_enter Try.func12, Try.ntmps12
  go_wp2_with fail
  refine (reffloor_at (N + 719528) 146097 c (dby r + cumI r m + (d - 1)) HQ.out HR.out (by omega) (by omega) (by omega) (by omega) _).mono ?_
  rintro e w' ⟨rfl, q, rfl⟩
  go_wp2_with fail
  go_loop [7, 8] (fun n k => ∃ i : Int, 0 ≤ i ∧ i ≤ r ∧ n = .int .i64 (dby r + cumI r m + (d - 1) - dby i) ∧ k = .int .i64 i) (fun _ k => (400 - intOf k).toNat)
  case atStart => exact ⟨0, by omega, by omega, by rw [HE.out]; go_num, rfl⟩
  case round =>
    obtain ⟨i, hi1, hi2, rfl, rfl⟩ := hrel
    have hb := dby_bd i hi1 (by omega)
    obtain ⟨hb1, hb2⟩ := hb
    have HS := Lib.hid (dby_succ i)
    have hyb := yearI_two i
    have hyb1 : 0 ≤ yearI i := by omega
    have hyb2 : yearI i ≤ 366 := by omega
    clear hyb
    by_cases hlt : i < r
    · have hge : yearI i ≤ dby r + cumI r m + (d - 1) - dby i := by
        have a := dby_mono (i + 1) r (by omega)
        have b := HS.out
        omega
      go_wp2_with (go_at_call 32; refine (refyear_any i (by omega) (by omega) _).mono ?_; rintro e w' ⟨rfl, rfl⟩)
      go_round
      case rel => exact ⟨i + 1, by omega, by omega, by rw [HS.out]; go_num, rfl⟩
      case measure => simp [intOf]; omega
    · have hir : i = r := by omega
      subst hir
      have hge : dby i + cumI i m + (d - 1) - dby i < yearI i := by omega
      have HZ := Lib.hid (show cumI i 0 = 0 from cumI_zero i)
      go_wp2_with (go_at_call 32; refine (refyear_any i (by omega) (by omega) _).mono ?_; rintro e w' ⟨rfl, rfl⟩)
      go_loop [7, 9] (fun n k => ∃ j : Int, 0 ≤ j ∧ j ≤ m ∧ n = .int .i64 (cumI i m + (d - 1) - cumI i j) ∧ k = .int .i64 j) (fun _ k => (400 - intOf k).toNat)
      case atStart => exact ⟨0, by omega, by omega, by rw [HZ.out]; go_num, rfl⟩
      case round =>
        obtain ⟨j, hj1, hj2, rfl, rfl⟩ := hrel
        have hq := cumI_le i j hj1 (by omega)
        obtain ⟨hq1, hq2⟩ := hq
        have hll := lenI_bd i j hj1 (by omega)
        obtain ⟨hl1, hl2⟩ := hll
        by_cases hlt2 : j < m
        · have HS2 := Lib.hid (cumI_succ i j hj1 (by omega))
          have hge2 : lenI i j ≤ cumI i m + (d - 1) - cumI i j := by
            have := cumI_mono i j m hj1 hlt2 hm2
            omega
          go_wp2_with (go_at_call 16; refine (refLength_any i j (by omega) (by omega) _).mono ?_; rintro e w' ⟨rfl, rfl⟩)
          go_round
          case rel => exact ⟨j + 1, by omega, by omega, by rw [HS2.out]; go_num, rfl⟩
          case measure => simp [intOf]; omega
        · have hjm : j = m := by omega
          subst hjm
          have hge2 : cumI i j + (d - 1) - cumI i j < lenI i j := by omega
          have HD := Lib.hid (show cumI i j + (d - 1) - cumI i j + 1 = d from by omega)
          go_wp2_with (go_at_call 16; refine (refLength_any i j (by omega) (by omega) _).mono ?_; rintro e w' ⟨rfl, rfl⟩)
          refine bodyPost_ret (v := .tuple #[.int .i64 (400 * c + i), .int .i64 j, .int .i64 (cumI i j + (d - 1) - cumI i j + 1), .int .i64 0]) (by simp [results, Try.results12, go_sem]) rfl ⟨?_, _, rfl⟩
          rw [HY.out, HD.out]
theorem refDate_no (n : Int) (h : n < -4371587 ∨ 2932896 < n) (w : World) : Calls Try.prog 12 #[.int .i64 n] w fun e w' => e = .returned (.tuple #[.int .i64 0, .int .i64 0, .int .i64 0, .int .i64 110]) ∧ w = w' := by
  rcases h with h | h
  · go_enter Try.func12, Try.ntmps12
    go_wp2_with fail
    exact bodyPost_ret (v := .tuple #[.int .i64 0, .int .i64 0, .int .i64 0, .int .i64 110]) (by simp [results, Try.results12, go_sem]) rfl ⟨rfl, rfl⟩
  · have h' : ¬ n < -4371587 := by omega
    go_enter Try.func12, Try.ntmps12
    go_wp2_with fail
    exact bodyPost_ret (v := .tuple #[.int .i64 0, .int .i64 0, .int .i64 0, .int .i64 110]) (by simp [results, Try.results12, go_sem]) rfl ⟨rfl, rfl⟩
end Go.Proofs.Ytimipkbingbifaa

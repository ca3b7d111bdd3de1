/- The document's calendar: the first day of a month, a date's number. -/
import Derived.Test.YtimipkbingbifaaCRefA
namespace Go.Proofs.Ytimipkbingbifaa
open Go Go.RowKit

theorem begin_year (y c r m : Int) (h : y = 400 * c + r) : beginI y m = c * 146097 - 719528 + dby r + cumI r m := by
  subst h
  unfold beginI cumI
  rw [dby_cycle, leap_cycle]
  omega
theorem dby_bd (k : Int) (h0 : 0 ≤ k) (h1 : k ≤ 400) : 0 ≤ dby k ∧ dby k ≤ 146097 := by
  have a := dby_mono 0 k h0
  have b := dby_mono k 400 h1
  have e1 : dby 0 = 0 := by decide
  have e2 : dby 400 = 146097 := by decide
  omega
theorem cumI_le (y m : Int) (h0 : 0 ≤ m) (h1 : m ≤ 12) : 0 ≤ cumI y m ∧ cumI y m ≤ 366 := by
  by_cases h : m = 12
  · subst h
    have a := cumI_12 y
    have b := yearI_two y
    omega
  · have a := cumI_bd y m h0 (by omega)
    have b := yearI_two y
    have c := lenI_bd y m h0 (by omega)
    omega
set_option maxHeartbeats 1000000 in
theorem refbegin_any (y m : Int) (hy1 : -30000 ≤ y) (hy2 : y ≤ 30000) (hm1 : 0 ≤ m) (hm2 : m ≤ 12) (w : World) : Calls Try.prog 27 #[.int .i64 y, .int .i64 m] w fun e w' => e = .returned (.int .i64 (beginI y m)) ∧ ∃ n, w' = w.drewN n := by
  obtain ⟨c, hc⟩ : ∃ c, y / 400 = c := ⟨_, rfl⟩
  obtain ⟨r, hr⟩ : ∃ r, y % 400 = r := ⟨_, rfl⟩
  have hc1 : -80 ≤ c := by omega
  have hc2 : c ≤ 80 := by omega
  have hr1 : 0 ≤ r := by omega
  have hr2 : r < 400 := by omega
  have HB := Lib.hid (begin_year y c r m (by omega))
  have HC := Lib.hid hc
  have HR := Lib.hid hr
  have e0 : dby 0 = 0 := by decide
  have HE := Lib.hid e0
  clear hc hr e0
  go_enter Try.func27, Try.ntmps27
  go_wp2_with fail
  refine (reffloor_at y 400 c r HC.out HR.out (by omega) (by omega) (by omega) (by omega) _).mono ?_
  rintro e w' ⟨rfl, d, rfl⟩
  go_wp2_with fail
  go_loop [7, 8] (fun n k => ∃ i : Int, 0 ≤ i ∧ i ≤ r ∧ n = .int .i64 (c * 146097 - 719528 + dby i) ∧ k = .int .i64 i) (fun _ k => (400 - intOf k).toNat)
  case atStart => exact ⟨0, by omega, by omega, by rw [HE.out]; go_num, rfl⟩
  case round =>
    obtain ⟨i, hi1, hi2, rfl, rfl⟩ := hrel
    have hb := dby_bd i hi1 (by omega)
    obtain ⟨hb1, hb2⟩ := hb
    have hs := dby_succ i
    have hyb := yearI_two i
    have hyb1 : 0 ≤ yearI i := by omega
    have hyb2 : yearI i ≤ 366 := by omega
    clear hyb
    have HS := Lib.hid hs
    clear hs
    by_cases hlt : i < r
    · go_wp2_with (go_at_call 32; refine (refyear_any i (by omega) (by omega) _).mono ?_; rintro e w' ⟨rfl, rfl⟩)
      go_round
      case rel => exact ⟨i + 1, by omega, by omega, by rw [HS.out]; go_num, rfl⟩
      case measure => simp [intOf]; omega
    · have hir : i = r := by omega
      subst hir
      go_wp2_with fail
      go_loop [7, 9] (fun n k => ∃ j : Int, 0 ≤ j ∧ j ≤ m ∧ n = .int .i64 (c * 146097 - 719528 + dby i + cumI i j) ∧ k = .int .i64 j) (fun _ k => (400 - intOf k).toNat)
      case atStart => exact ⟨0, by omega, by omega, by rw [cumI_zero]; go_num, rfl⟩
      case round =>
        obtain ⟨j, hj1, hj2, rfl, rfl⟩ := hrel
        have hq := cumI_le i j hj1 (by omega)
        obtain ⟨hq1, hq2⟩ := hq
        by_cases hlt2 : j < m
        · have hl := lenI_bd i j hj1 (by omega)
          obtain ⟨hl1, hl2⟩ := hl
          have HS2 := Lib.hid (cumI_succ i j hj1 (by omega))
          go_wp2_with (go_at_call 16; refine (refLength_any i j (by omega) (by omega) _).mono ?_; rintro e w' ⟨rfl, rfl⟩)
          go_round
          case rel => exact ⟨j + 1, by omega, by omega, by rw [HS2.out]; go_num, rfl⟩
          case measure => simp [intOf]; omega
        · have hjm : j = m := by omega
          subst hjm
          go_wp2_with fail
          go_ret
          exact ⟨ret_int HB.out.symm, _, rfl⟩
end Go.Proofs.Ytimipkbingbifaa

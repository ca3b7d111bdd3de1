/- The document's calendar: the seconds of a time. -/
import Derived.Test.YtimipkbingbifaaCRefF
namespace Go.Proofs.Ytimipkbingbifaa
open Go Go.RowKit

def fitsB (n : Int) : Bool := decide (-1000000000 ≤ n) && decide (n ≤ 1000000000)
theorem reffits_any (y : Int) (w : World) : Calls Try.prog 39 #[.int .i64 y] w fun e w' => e = .returned (.bool (fitsB y)) ∧ w = w' := by
  unfold fitsB
  by_cases h1 : -1000000000 ≤ y
  · by_cases h2 : y ≤ 1000000000
    · rw [decide_eq_true h1, decide_eq_true h2]
      go_enter Try.func39, Try.ntmps39
      go_wp2_with fail
      go_ret
      exact ⟨rfl, rfl⟩
    · rw [decide_eq_true h1, decide_eq_false h2]
      go_enter Try.func39, Try.ntmps39
      go_wp2_with fail
      go_ret
      exact ⟨rfl, rfl⟩
  · rw [decide_eq_false h1]
    go_enter Try.func39, Try.ntmps39
    go_wp2_with fail
    go_ret
    exact ⟨rfl, rfl⟩
theorem fitsB_iff (n : Int) : fitsB n = true ↔ -1000000000 ≤ n ∧ n ≤ 1000000000 := by simp [fitsB]
/-- A time's seconds from -1000000000 to 1000000000. -/
def fitS (s : Nat) : Prop := (Ieee.double.order s 13965043853221167104 = some .gt ∨ Ieee.double.order s 13965043853221167104 = some .eq) ∧ (Ieee.double.order s 4741671816366391296 = some .lt ∨ Ieee.double.order s 4741671816366391296 = some .eq)
theorem c9_low : fI (-1000000000) = 13965043853221167104 := by decide +kernel
theorem c9_high : fI 1000000000 = 4741671816366391296 := by decide +kernel
set_option exponentiation.threshold 2000 in
theorem fitS_fin (s : Nat) (h : fitS s) : szB s < 9218868437227405312 ∧ -1000000000 ≤ flI s ∧ flI s ≤ 1000000000 := by
  obtain ⟨h1, h2⟩ := h
  rcases Nat.lt_trichotomy (szB s) 9218868437227405312 with hf | hf | hf
  · refine ⟨hf, ?_⟩
    obtain ⟨a1, a2⟩ := fI_is (-1000000000) (by omega) (by omega)
    obtain ⟨b1, b2⟩ := fI_is 1000000000 (by omega) (by omega)
    rw [← c9_low, val_order _ _ hf a1, a2] at h1
    rw [← c9_high, val_order _ _ hf b1, b2] at h2
    have p : (0 : Int) < (2 : Int) ^ 1074 := Int.pow_pos (by omega)
    have l1 : -1000000000 * (2 : Int) ^ 1074 ≤ valB s := by
      rcases h1 with h | h
      · exact Int.le_of_lt (Int.compare_eq_gt.1 (Option.some.inj h))
      · exact Int.le_of_eq (Int.compare_eq_eq.1 (Option.some.inj h)).symm
    have l2 : valB s ≤ 1000000000 * (2 : Int) ^ 1074 := by
      rcases h2 with h | h
      · exact Int.le_of_lt (Int.compare_eq_lt.1 (Option.some.inj h))
      · exact Int.le_of_eq (Int.compare_eq_eq.1 (Option.some.inj h))
    unfold flI
    refine ⟨Int.le_ediv_of_mul_le p l1, ?_⟩
    have := Int.ediv_le_ediv p l2
    rw [Int.mul_ediv_cancel _ (by omega)] at this
    exact this
  · have e1 := top_cmp s (-1000000000) hf (by omega) (by omega)
    have e2 := top_cmp s 1000000000 hf (by omega) (by omega)
    rw [c9_low] at e1
    rw [c9_high] at e2
    rw [e1] at h1
    rw [e2] at h2
    exfalso
    cases hg : sgB s <;> simp [hg] at h1 h2
  · have e1 := nan_order s 13965043853221167104 (.inl hf)
    rw [e1] at h1
    simp at h1
def Fits (y mo d h mi : Int) (s : Nat) : Prop := fitsB y = true ∧ fitsB mo = true ∧ fitsB d = true ∧ fitsB h = true ∧ fitsB mi = true ∧ fitS s
/-- The seconds that a time is, its year and month laid out. -/
def secI (y m d h mi : Int) (s : Nat) : Int := (beginI y m + d - 1) * 86400 + h * 3600 + mi * 60 + flI s
set_option maxRecDepth 100000 in
set_option maxHeartbeats 2000000 in
theorem refJoin_of (y mo d h mi : Int) (s : Nat) (wd yd : Int) (hF : Fits y mo d h mi s) (hk : knownB (y + mo / 12) = true) (hd1 : -4371587 ≤ secI (y + mo / 12) (mo % 12) d h mi s / 86400) (hd2 : secI (y + mo / 12) (mo % 12) d h mi s / 86400 ≤ 2932896) (w : World) :
    Calls Try.prog 21 #[.agg (timeV y mo d h mi s wd yd)] w fun e w' => e = .returned (.tuple #[.int .i64 (secI (y + mo / 12) (mo % 12) d h mi s), .int .i64 0]) ∧ Below w.heap.size w w' := by
  obtain ⟨f1, f2, f3, f4, f5, f6⟩ := hF
  obtain ⟨s1, s2, s3⟩ := fitS_fin s f6
  obtain ⟨q, hq⟩ : ∃ q, mo / 12 = q := ⟨_, rfl⟩
  obtain ⟨m, hm⟩ : ∃ m, mo % 12 = m := ⟨_, rfl⟩
  rw [hq, hm] at hd1 hd2
  rw [hq] at hk
  rw [hq, hm]
  have hkk : -9999 ≤ y + q ∧ y + q ≤ 9999 := by simpa [knownB] using hk
  have hm1 : 0 ≤ m := by omega
  have hm2 : m ≤ 11 := by omega
  obtain ⟨B, hB⟩ : ∃ B, beginI (y + q) m = B := ⟨_, rfl⟩
  have hbm := cumI_bd (y + q) m hm1 hm2
  have hBd := begin_bd (y + q) (by omega) (by omega)
  have hBB : -6000000 ≤ B ∧ B ≤ 6000000 := by
    have e : B = beginI (y + q) 0 + cumI (y + q) m := by
      rw [← hB]
      unfold beginI
      rw [cumI_zero]
      omega
    have := cumI_le (y + q) m hm1 (by omega)
    omega
  have hcB := fun w => refbegin_any (y + q) m (by omega) (by omega) (by omega) (by omega) w
  rw [hB] at hcB
  obtain ⟨F, hFl⟩ : ∃ F, flI s = F := ⟨_, rfl⟩
  have hcv := fun w => conv_floor s s1 (by omega) (by omega) w
  have hFc := fun w => (Floor_num s (by omega) w).mono fun _ _ ⟨a, b⟩ => (⟨a, b.symm⟩ : _ ∧ _)
  rw [hFl] at s2 s3 hcv
  obtain ⟨S, hS⟩ : ∃ S, secI (y + q) m d h mi s = S := ⟨_, rfl⟩
  have hSe : (B + d - 1) * 86400 + h * 3600 + mi * 60 + F = S := by rw [← hS, ← hB, ← hFl]; rfl
  rw [hS] at hd1 hd2 ⊢
  obtain ⟨k, hkq⟩ : ∃ k, S / 86400 = k := ⟨_, rfl⟩
  obtain ⟨r, hkr⟩ : ∃ r, S % 86400 = r := ⟨_, rfl⟩
  rw [hkq] at hd1 hd2
  have b1 := (fitsB_iff y).1 f1
  have b2 := (fitsB_iff mo).1 f2
  have b3 := (fitsB_iff d).1 f3
  have b4 := (fitsB_iff h).1 f4
  have b5 := (fitsB_iff mi).1 f5
  obtain ⟨b31, b32⟩ := b3
  obtain ⟨b41, b42⟩ := b4
  obtain ⟨b51, b52⟩ := b5
  obtain ⟨hBB1, hBB2⟩ := hBB
  have HQ := Lib.hid hq
  have HM := Lib.hid hm
  have HK := Lib.hid hk
  have HB := Lib.hid hcB
  have HF := Lib.hid hFc
  have HS := Lib.hid hSe
  have HKQ := Lib.hid hkq
  have HKR := Lib.hid hkr
  have HB1 := Lib.hid b1
  have HB2 := Lib.hid b2
  have hkn := fun w => refknown_yes (y + q) hkk w
  have HKN := Lib.hid hkn
  have hq1 : -100000000 ≤ q := by omega
  have hq2 : q ≤ 100000000 := by omega
  have w1 : IntKind.i64.wrap (B + d) = B + d := IntWalk.i64_in _ (by omega)
  have w2 : IntKind.i64.wrap (B + d - 1) = B + d - 1 := IntWalk.i64_in _ (by omega)
  have w3 : IntKind.i64.wrap ((B + d - 1) * 86400) = (B + d - 1) * 86400 := IntWalk.i64_in _ (by omega)
  have w4 : IntKind.i64.wrap (h * 3600) = h * 3600 := IntWalk.i64_in _ (by omega)
  have w5 : IntKind.i64.wrap ((B + d - 1) * 86400 + h * 3600) = (B + d - 1) * 86400 + h * 3600 := IntWalk.i64_in _ (by omega)
  have w6 : IntKind.i64.wrap (mi * 60) = mi * 60 := IntWalk.i64_in _ (by omega)
  have w7 : IntKind.i64.wrap ((B + d - 1) * 86400 + h * 3600 + mi * 60) = (B + d - 1) * 86400 + h * 3600 + mi * 60 := IntWalk.i64_in _ (by omega)
  have w8 : IntKind.i64.wrap ((B + d - 1) * 86400 + h * 3600 + mi * 60 + F) = (B + d - 1) * 86400 + h * 3600 + mi * 60 + F := IntWalk.i64_in _ (by omega)
  have W1 := Lib.hid w1
  have W2 := Lib.hid w2
  have W3 := Lib.hid w3
  have W4 := Lib.hid w4
  have W5 := Lib.hid w5
  have W6 := Lib.hid w6
  have W7 := Lib.hid w7
  have W8 := Lib.hid w8
  obtain ⟨g1, g2⟩ := f6
  have o1 : FloatKind.f64.format.order s 13965043853221167104 = some .gt ∨ FloatKind.f64.format.order s 13965043853221167104 = some .eq := g1
  have o2 : FloatKind.f64.format.order s 4741671816366391296 = some .lt ∨ FloatKind.f64.format.order s 4741671816366391296 = some .eq := g2
  have hFlH := Lib.hid hFl
  clear w1 w2 w3 w4 w5 w6 w7 w8 g1 g2 hq hm hk hcB hFc hSe hkq hkr b1 b2 hkn hkk hB hS hbm hBd hFl
  unfold timeV
  rcases o1 with o1 | o1 <;> rcases o2 with o2 | o2
  all_goals
    go_enter Try.func21, Try.ntmps21
    go_wp2_with (go_at_call 39; refine (reffits_any _ _).mono ?_; rintro e w' ⟨rfl, rfl⟩)
    have hr0 := heap_alloc_new w (Obj.cells #[.int .i64 y, .int .i64 mo, .int .i64 d, .int .i64 h, .int .i64 mi, .float .f64 s, .int .i64 wd, .int .i64 yd] 37)
    have hb0 := (Below.refl w.heap.size w).alloc (Nat.le_refl _) (Obj.cells #[.int .i64 y, .int .i64 mo, .int .i64 d, .int .i64 h, .int .i64 mi, .float .f64 s, .int .i64 wd, .int .i64 yd] 37)
    generalize w.alloc (Obj.cells #[.int .i64 y, .int .i64 mo, .int .i64 d, .int .i64 h, .int .i64 mi, .float .f64 s, .int .i64 wd, .int .i64 yd] 37) = W0 at hr0 hb0 ⊢
    refine (reffloor_at mo 12 q m HQ.out HM.out (by omega) (by omega) (by have := HB2.out; omega) (by have := HB2.out; omega) _).mono ?_
    rintro e w' ⟨rfl, n1, rfl⟩
    have hr1 := drewN_row hr0 n1
    have hb1 := below_drewN hb0 n1
    generalize W0.drewN n1 = X1 at hr1 hb1 ⊢
    have R1 := Lib.hid hr1
    have B1 := Lib.hid hb1
    clear hr0 hb0 hr1 hb1
    obtain ⟨u0, u1, u2, u3, u4, u5, u6, u7⟩ := row8 R1.out
    obtain ⟨b11, b12⟩ := HB1.out
    go_wp2_with fail
    refine (HKN.out _).mono ?_
    rintro e w' ⟨rfl, rfl⟩
    go_wp2_with fail
    have w1 := W1.out
    have w2 := W2.out
    have w3 := W3.out
    have w4 := W4.out
    have w5 := W5.out
    have w6 := W6.out
    have w7 := W7.out
    have w8 := W8.out
    go_quiet ((first | (go_at_call 27; exact Calls.quiet_of (HB.out _)) | (go_at_call 24; exact Calls.quiet_of_same (HF.out _))))
    clear w1 w2 w3 w4 w5 w6 w7 w8
    go_wp2_with fail
    refine (reffloor_at ((B + d - 1) * 86400 + h * 3600 + mi * 60 + F) 86400 k r (by rw [HS.out]; exact HKQ.out) (by rw [HS.out]; exact HKR.out) (by omega) (by omega) (by omega) (by omega) _).mono ?_
    rintro e w' ⟨rfl, n4, rfl⟩
    go_wp2_with fail
    go_ret2
    refine ⟨by rw [← HS.out]; rfl, ?_⟩
    first | exact below_drewN B1.out _ | exact below_drewN (below_drewN B1.out _) _
end Go.Proofs.Ytimipkbingbifaa

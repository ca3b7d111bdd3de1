/- The program's calendar: the seconds of a time. -/
import Derived.Test.YtimipkbingbifaaCPrgF
namespace Go.Proofs.Ytimipkbingbifaa
open Go Go.RowKit

/-- A block's eight cells. -/
def C8 (w : World) (b : Nat) (x0 x1 x2 x3 x4 x5 x6 x7 : Value) : Prop :=
  w.cell? ⟨b, 0, none⟩ = some x0 ∧ w.cell? ⟨b, 1, none⟩ = some x1 ∧ w.cell? ⟨b, 2, none⟩ = some x2 ∧ w.cell? ⟨b, 3, none⟩ = some x3 ∧ w.cell? ⟨b, 4, none⟩ = some x4 ∧ w.cell? ⟨b, 5, none⟩ = some x5 ∧ w.cell? ⟨b, 6, none⟩ = some x6 ∧ w.cell? ⟨b, 7, none⟩ = some x7
theorem C8.of_row {w : World} {b : Nat} {x0 x1 x2 x3 x4 x5 x6 x7 : Value} {t : TypeId} (hb : w.heap[b]? = some (.cells #[x0, x1, x2, x3, x4, x5, x6, x7] t (0, 0))) : C8 w b x0 x1 x2 x3 x4 x5 x6 x7 := row8 hb
theorem C8.below {w w' : World} {b B : Nat} {x0 x1 x2 x3 x4 x5 x6 x7 : Value} (h : C8 w b x0 x1 x2 x3 x4 x5 x6 x7) (hB : Below B w w') (hb : b < B) : C8 w' b x0 x1 x2 x3 x4 x5 x6 x7 := by
  unfold C8
  rw [hB.cell (p := ⟨b, 0, none⟩) hb, hB.cell (p := ⟨b, 1, none⟩) hb, hB.cell (p := ⟨b, 2, none⟩) hb, hB.cell (p := ⟨b, 3, none⟩) hb, hB.cell (p := ⟨b, 4, none⟩) hb, hB.cell (p := ⟨b, 5, none⟩) hb, hB.cell (p := ⟨b, 6, none⟩) hb, hB.cell (p := ⟨b, 7, none⟩) hb]
  exact h
theorem C8.drewN {w : World} {b : Nat} {x0 x1 x2 x3 x4 x5 x6 x7 : Value} (h : C8 w b x0 x1 x2 x3 x4 x5 x6 x7) (n : Nat) : C8 (w.drewN n) b x0 x1 x2 x3 x4 x5 x6 x7 := by
  unfold C8 at *
  simp only [World.cell?, drewN_heap] at *
  exact h
/-- Whole seconds that are no double's floor, but one themselves. -/
theorem sec_int_no (S : Int) (h1 : -9007199254740992 ≤ S) (h2 : S ≤ 9007199254740992) (h : S < -377705116800 ∨ 253402300800 ≤ S) (w : World) : Calls Try.prog 34 #[.float .f64 (fI S)] w fun e w' => e = .returned (.bool false) ∧ w = w' := by
  have e1 := fI_order S (-377705116800) h1 h2 (by omega) (by omega)
  have e2 := fI_order S 253402300800 h1 h2 (by omega) (by omega)
  rw [c_secL] at e1
  rw [c_secU] at e2
  rcases h with h | h
  · rw [Int.compare_eq_lt.2 h] at e1
    exact prgisSecond_low _ _ e1 (.inr rfl) w
  · have a1 : compare S (-377705116800) ≠ .lt := by
      intro e
      have := Int.compare_eq_lt.1 e
      omega
    have a2 : compare S 253402300800 ≠ .lt := by
      intro e
      have := Int.compare_eq_lt.1 e
      omega
    exact prgisSecond_high _ _ _ e1 a1 e2 a2 w
theorem sec_int_yes (S : Int) (h1 : -377705116800 ≤ S) (h2 : S < 253402300800) (w : World) : Calls Try.prog 34 #[.float .f64 (fI S)] w fun e w' => e = .returned (.bool true) ∧ w = w' := by
  have e1 := fI_order S (-377705116800) (by omega) (by omega) (by omega) (by omega)
  have e2 := fI_order S 253402300800 (by omega) (by omega) (by omega) (by omega)
  rw [c_secL] at e1
  rw [c_secU] at e2
  have a1 : compare S (-377705116800) ≠ .lt := by
    intro e
    have := Int.compare_eq_lt.1 e
    omega
  rw [Int.compare_eq_lt.2 h2] at e2
  exact prgisSecond_yes _ _ e1 a1 e2 w
set_option maxRecDepth 100000 in
set_option maxHeartbeats 2000000 in
theorem prgJoin_unfit (y mo d h mi : Int) (s : Nat) (wd yd : Int) (hF : ¬ Fits y mo d h mi s) (w : World) : Calls Try.prog 20 #[.agg (timeV y mo d h mi s wd yd)] w fun e w' => e = .returned (.tuple #[.int .i64 0, .int .i64 110]) ∧ Below w.heap.size w w' := by
  have hNear := fun w => prgisNear_no y mo d h mi s wd yd hF w
  have HNear := Lib.hid hNear
  clear hNear hF
  unfold timeV at *
  go_enter Try.func20, Try.ntmps20
  go_wp2_with fail
  have hr0 := heap_alloc_new w (Obj.cells #[.int .i64 y, .int .i64 mo, .int .i64 d, .int .i64 h, .int .i64 mi, .float .f64 s, .int .i64 wd, .int .i64 yd] 37)
  have hb0 := (Below.refl w.heap.size w).alloc (Nat.le_refl _) (Obj.cells #[.int .i64 y, .int .i64 mo, .int .i64 d, .int .i64 h, .int .i64 mi, .float .f64 s, .int .i64 wd, .int .i64 yd] 37)
  have hz0 : (w.alloc (Obj.cells #[.int .i64 y, .int .i64 mo, .int .i64 d, .int .i64 h, .int .i64 mi, .float .f64 s, .int .i64 wd, .int .i64 yd] 37)).heap.size = w.heap.size + 1 := by simp
  generalize w.alloc (Obj.cells #[.int .i64 y, .int .i64 mo, .int .i64 d, .int .i64 h, .int .i64 mi, .float .f64 s, .int .i64 wd, .int .i64 yd] 37) = W0 at hr0 hb0 hz0 ⊢
  refine (HNear.out W0).mono ?_
  rintro e w1 ⟨rfl, hbel⟩
  have hb1 := hb0.trans (hbel.mono (by omega))
  have B1 := Lib.hid hb1
  clear hr0 hb0 hz0 hbel hb1
  go_wp2_with fail
  go_ret2
  exact ⟨rfl, B1.out⟩
set_option maxRecDepth 100000 in
set_option maxHeartbeats 2000000 in
theorem prgJoin_year (y mo d h mi : Int) (s : Nat) (wd yd : Int) (hF : Fits y mo d h mi s) (hk : knownB (y + mo / 12) = false) (w : World) : Calls Try.prog 20 #[.agg (timeV y mo d h mi s wd yd)] w fun e w' => e = .returned (.tuple #[.int .i64 0, .int .i64 110]) ∧ Below w.heap.size w w' := by
  have hNear := fun w => prgisNear_yes y mo d h mi s wd yd hF w
  obtain ⟨f1, f2, f3, f4, f5, f6⟩ := hF
  obtain ⟨q, hq⟩ : ∃ q, mo / 12 = q := ⟨_, rfl⟩
  obtain ⟨m, hm⟩ : ∃ m, mo % 12 = m := ⟨_, rfl⟩
  rw [hq] at hk
  have hkk : ¬ (-9999 ≤ y + q ∧ y + q ≤ 9999) := by
    intro h2
    rw [knownB_true _ h2] at hk
    cases hk
  have b1 := (fitsB_iff y).1 f1
  have b2 := (fitsB_iff mo).1 f2
  obtain ⟨b11, b12⟩ := b1
  obtain ⟨b21, b22⟩ := b2
  have hDv := fun w => prgdivided_at (y * 12 + mo) 12 (y + q) m (by omega) (by omega) (by omega) (by omega) (by omega) (by omega) w
  have hDy := fun w => prgDay_no (y + q) m 1 (by omega) (by omega) (fun h2 => hkk h2.1) w
  have HNear := Lib.hid hNear
  have HDv := Lib.hid hDv
  have HDy := Lib.hid hDy
  clear hNear hDv hDy hk hkk hq hm f1 f2 f3 f4 f5 f6
  unfold timeV at *
  go_enter Try.func20, Try.ntmps20
  go_wp2_with fail
  have hr0 := heap_alloc_new w (Obj.cells #[.int .i64 y, .int .i64 mo, .int .i64 d, .int .i64 h, .int .i64 mi, .float .f64 s, .int .i64 wd, .int .i64 yd] 37)
  have hb0 := (Below.refl w.heap.size w).alloc (Nat.le_refl _) (Obj.cells #[.int .i64 y, .int .i64 mo, .int .i64 d, .int .i64 h, .int .i64 mi, .float .f64 s, .int .i64 wd, .int .i64 yd] 37)
  have hz0 : (w.alloc (Obj.cells #[.int .i64 y, .int .i64 mo, .int .i64 d, .int .i64 h, .int .i64 mi, .float .f64 s, .int .i64 wd, .int .i64 yd] 37)).heap.size = w.heap.size + 1 := by simp
  generalize w.alloc (Obj.cells #[.int .i64 y, .int .i64 mo, .int .i64 d, .int .i64 h, .int .i64 mi, .float .f64 s, .int .i64 wd, .int .i64 yd] 37) = W0 at hr0 hb0 hz0 ⊢
  refine (HNear.out W0).mono ?_
  rintro e w1 ⟨rfl, hbel⟩
  have hc1 := (C8.of_row hr0).below hbel (by omega)
  have hb1 := hb0.trans (hbel.mono (by omega))
  have C1 := Lib.hid hc1
  have B1 := Lib.hid hb1
  clear hr0 hb0 hz0 hbel hc1 hb1
  obtain ⟨u0, u1, u2, u3, u4, u5, u6, u7⟩ := C1.out
  go_wp2_with fail
  refine (HDv.out _).mono ?_
  rintro e w' ⟨rfl, n1, rfl⟩
  go_wp2_with fail
  refine (HDy.out _).mono ?_
  rintro e w' ⟨rfl, rfl⟩
  go_wp2_with fail
  go_ret2
  exact ⟨rfl, below_drewN B1.out _⟩
set_option maxRecDepth 100000 in
set_option maxHeartbeats 2000000 in
theorem prgJoin_of (y mo d h mi : Int) (s : Nat) (wd yd : Int) (hF : Fits y mo d h mi s) (hk : knownB (y + mo / 12) = true) (hd1 : -4371587 ≤ secI (y + mo / 12) (mo % 12) d h mi s / 86400) (hd2 : secI (y + mo / 12) (mo % 12) d h mi s / 86400 ≤ 2932896) (w : World) :
    Calls Try.prog 20 #[.agg (timeV y mo d h mi s wd yd)] w fun e w' => e = .returned (.tuple #[.int .i64 (secI (y + mo / 12) (mo % 12) d h mi s), .int .i64 0]) ∧ Below w.heap.size w w' := by
  have hd := And.intro hd1 hd2
  clear hd1 hd2
  have hNear := fun w => prgisNear_yes y mo d h mi s wd yd hF w
  obtain ⟨f1, f2, f3, f4, f5, f6⟩ := hF
  obtain ⟨s1, s2, s3⟩ := fitS_fin s f6
  obtain ⟨q, hq⟩ : ∃ q, mo / 12 = q := ⟨_, rfl⟩
  obtain ⟨m, hm⟩ : ∃ m, mo % 12 = m := ⟨_, rfl⟩
  rw [hq, hm] at hd
  rw [hq] at hk
  rw [hq, hm]
  have hkk : -9999 ≤ y + q ∧ y + q ≤ 9999 := by simpa [knownB] using hk
  have hm1 : 0 ≤ m := by omega
  have hm2 : m ≤ 11 := by omega
  obtain ⟨B, hB⟩ : ∃ B, beginI (y + q) m = B := ⟨_, rfl⟩
  have hBd := begin_bd (y + q) (by omega) (by omega)
  have hBB : -6000000 ≤ B ∧ B ≤ 6000000 := by
    have e : B = beginI (y + q) 0 + cumI (y + q) m := by
      rw [← hB]
      unfold beginI
      rw [cumI_zero]
      omega
    have := cumI_le (y + q) m hm1 (by omega)
    omega
  obtain ⟨F, hFl⟩ : ∃ F, flI s = F := ⟨_, rfl⟩
  have hcv := fun w => conv_floor s s1 (by omega) (by omega) w
  have hFc := fun w => (Floor_num s (by omega) w).mono fun _ _ ⟨a, b⟩ => (⟨a, b.symm⟩ : _ ∧ _)
  rw [hFl] at s2 s3 hcv
  obtain ⟨S, hS⟩ : ∃ S, secI (y + q) m d h mi s = S := ⟨_, rfl⟩
  have hSe : (B + d - 1) * 86400 + h * 3600 + mi * 60 + F = S := by rw [← hS, ← hB, ← hFl]; rfl
  rw [hS] at hd ⊢
  have b1 := (fitsB_iff y).1 f1
  have b2 := (fitsB_iff mo).1 f2
  have b3 := (fitsB_iff d).1 f3
  have b4 := (fitsB_iff h).1 f4
  have b5 := (fitsB_iff mi).1 f5
  obtain ⟨b11, b12⟩ := b1
  obtain ⟨b21, b22⟩ := b2
  obtain ⟨b31, b32⟩ := b3
  obtain ⟨b41, b42⟩ := b4
  obtain ⟨b51, b52⟩ := b5
  obtain ⟨hBB1, hBB2⟩ := hBB
  obtain ⟨hk1, hk2⟩ := hkk
  have hDv := fun w => prgdivided_at (y * 12 + mo) 12 (y + q) m (by omega) (by omega) (by omega) (by omega) (by omega) (by omega) w
  have hDy : ∀ w, Calls Try.prog 9 #[.int .i64 (y + q), .int .i64 m, .int .i64 1] w fun e w' => e = .returned (.tuple #[.int .i64 B, .int .i64 0]) ∧ ∃ n, w' = w.drewN n := by
    intro w
    have e := prgDay_yes (y + q) m 1 ⟨⟨hk1, hk2⟩, ⟨hm1, hm2⟩, by omega, by have := lenI_bd (y + q) m hm1 hm2; omega⟩ w
    rw [show numI (y + q) m 1 = B from by rw [← hB]; unfold numI; omega] at e
    exact e
  have hIs := fun w => sec_int_yes S (by omega) (by omega) w
  have hci := conv_int
  have HNear := Lib.hid hNear
  have HDv := Lib.hid hDv
  have HDy := Lib.hid hDy
  have HF := Lib.hid hFc
  have HS := Lib.hid hSe
  have HIs := Lib.hid hIs
  have w1 : IntKind.i64.wrap (B + d) = B + d := IntWalk.i64_in _ (by omega)
  have w2 : IntKind.i64.wrap (B + d - 1) = B + d - 1 := IntWalk.i64_in _ (by omega)
  have w3 : IntKind.i64.wrap ((B + d - 1) * 86400) = (B + d - 1) * 86400 := IntWalk.i64_in _ (by omega)
  have w4 : IntKind.i64.wrap (h * 3600) = h * 3600 := IntWalk.i64_in _ (by omega)
  have w5 : IntKind.i64.wrap ((B + d - 1) * 86400 + h * 3600) = (B + d - 1) * 86400 + h * 3600 := IntWalk.i64_in _ (by omega)
  have w6 : IntKind.i64.wrap (mi * 60) = mi * 60 := IntWalk.i64_in _ (by omega)
  have w7 : IntKind.i64.wrap ((B + d - 1) * 86400 + h * 3600 + mi * 60) = (B + d - 1) * 86400 + h * 3600 + mi * 60 := IntWalk.i64_in _ (by omega)
  have w8 : IntKind.i64.wrap ((B + d - 1) * 86400 + h * 3600 + mi * 60 + F) = (B + d - 1) * 86400 + h * 3600 + mi * 60 + F := IntWalk.i64_in _ (by omega)
  have W1 := Lib.hid w1
  have W2 := Lib.hid w2
  have W3 := Lib.hid w3
  have W4 := Lib.hid w4
  have W5 := Lib.hid w5
  have W6 := Lib.hid w6
  have W7 := Lib.hid w7
  have W8 := Lib.hid w8
  clear w1 w2 w3 w4 w5 w6 w7 w8 f1 f2 f3 f4 f5 f6 hq hm hk hB hFl hS hNear hDv hDy hFc hSe hIs hd hBd
  unfold timeV at *
  go_enter Try.func20, Try.ntmps20
  go_wp2_with fail
  have hr0 := heap_alloc_new w (Obj.cells #[.int .i64 y, .int .i64 mo, .int .i64 d, .int .i64 h, .int .i64 mi, .float .f64 s, .int .i64 wd, .int .i64 yd] 37)
  have hb0 := (Below.refl w.heap.size w).alloc (Nat.le_refl _) (Obj.cells #[.int .i64 y, .int .i64 mo, .int .i64 d, .int .i64 h, .int .i64 mi, .float .f64 s, .int .i64 wd, .int .i64 yd] 37)
  have hz0 : (w.alloc (Obj.cells #[.int .i64 y, .int .i64 mo, .int .i64 d, .int .i64 h, .int .i64 mi, .float .f64 s, .int .i64 wd, .int .i64 yd] 37)).heap.size = w.heap.size + 1 := by simp
  generalize w.alloc (Obj.cells #[.int .i64 y, .int .i64 mo, .int .i64 d, .int .i64 h, .int .i64 mi, .float .f64 s, .int .i64 wd, .int .i64 yd] 37) = W0 at hr0 hb0 hz0 ⊢
  refine (HNear.out W0).mono ?_
  rintro e w1 ⟨rfl, hbel⟩
  have hc1 := (C8.of_row hr0).below hbel (by omega)
  have hb1 := hb0.trans (hbel.mono (by omega))
  have C1 := Lib.hid hc1
  have B1 := Lib.hid hb1
  clear hr0 hb0 hz0 hbel hc1 hb1
  obtain ⟨u0, u1, u2, u3, u4, u5, u6, u7⟩ := C1.out
  go_wp2_with fail
  refine (HDv.out _).mono ?_
  rintro e w' ⟨rfl, n1, rfl⟩
  go_wp2_with fail
  refine (HDy.out _).mono ?_
  rintro e w' ⟨rfl, n2, rfl⟩
  have hc2 := (C1.out.drewN n1).drewN n2
  have hb2 := below_drewN (below_drewN B1.out n1) n2
  clear u0 u1 u2 u3 u4 u5 u6 u7
  generalize (w1.drewN n1).drewN n2 = X1 at hc2 hb2 ⊢
  have B2 := Lib.hid hb2
  obtain ⟨u0, u1, u2, u3, u4, u5, u6, u7⟩ := hc2
  clear hb2
  go_wp2_with fail
  have w1 := W1.out
  have w2 := W2.out
  have w3 := W3.out
  have w4 := W4.out
  have w5 := W5.out
  have w6 := W6.out
  have w7 := W7.out
  have w8 := W8.out
  go_quiet ((go_at_call 24; exact Calls.quiet_of_same (HF.out _)))
  clear w1 w2 w3 w4 w5 w6 w7 w8
  have hSx := HS.out
  go_wp2_with fail
  refine (HIs.out _).mono ?_
  rintro e w' ⟨rfl, rfl⟩
  clear hSx
  go_wp2_with fail
  go_ret2
  exact ⟨by rw [← HS.out]; rfl, below_drewN B2.out _⟩
set_option maxRecDepth 100000 in
set_option maxHeartbeats 2000000 in
theorem prgJoin_out (y mo d h mi : Int) (s : Nat) (wd yd : Int) (hF : Fits y mo d h mi s) (hk : knownB (y + mo / 12) = true) (hd : secI (y + mo / 12) (mo % 12) d h mi s / 86400 < -4371587 ∨ 2932896 < secI (y + mo / 12) (mo % 12) d h mi s / 86400) (w : World) :
    Calls Try.prog 20 #[.agg (timeV y mo d h mi s wd yd)] w fun e w' => e = .returned (.tuple #[.int .i64 0, .int .i64 110]) ∧ Below w.heap.size w w' := by
  have hNear := fun w => prgisNear_yes y mo d h mi s wd yd hF w
  obtain ⟨f1, f2, f3, f4, f5, f6⟩ := hF
  obtain ⟨s1, s2, s3⟩ := fitS_fin s f6
  obtain ⟨q, hq⟩ : ∃ q, mo / 12 = q := ⟨_, rfl⟩
  obtain ⟨m, hm⟩ : ∃ m, mo % 12 = m := ⟨_, rfl⟩
  rw [hq, hm] at hd
  rw [hq] at hk
  have hkk : -9999 ≤ y + q ∧ y + q ≤ 9999 := by simpa [knownB] using hk
  have hm1 : 0 ≤ m := by omega
  have hm2 : m ≤ 11 := by omega
  obtain ⟨B, hB⟩ : ∃ B, beginI (y + q) m = B := ⟨_, rfl⟩
  have hBd := begin_bd (y + q) (by omega) (by omega)
  have hBB : -6000000 ≤ B ∧ B ≤ 6000000 := by
    have e : B = beginI (y + q) 0 + cumI (y + q) m := by
      rw [← hB]
      unfold beginI
      rw [cumI_zero]
      omega
    have := cumI_le (y + q) m hm1 (by omega)
    omega
  obtain ⟨F, hFl⟩ : ∃ F, flI s = F := ⟨_, rfl⟩
  have hcv := fun w => conv_floor s s1 (by omega) (by omega) w
  have hFc := fun w => (Floor_num s (by omega) w).mono fun _ _ ⟨a, b⟩ => (⟨a, b.symm⟩ : _ ∧ _)
  rw [hFl] at s2 s3 hcv
  obtain ⟨S, hS⟩ : ∃ S, secI (y + q) m d h mi s = S := ⟨_, rfl⟩
  have hSe : (B + d - 1) * 86400 + h * 3600 + mi * 60 + F = S := by rw [← hS, ← hB, ← hFl]; rfl
  rw [hS] at hd
  have b1 := (fitsB_iff y).1 f1
  have b2 := (fitsB_iff mo).1 f2
  have b3 := (fitsB_iff d).1 f3
  have b4 := (fitsB_iff h).1 f4
  have b5 := (fitsB_iff mi).1 f5
  obtain ⟨b11, b12⟩ := b1
  obtain ⟨b21, b22⟩ := b2
  obtain ⟨b31, b32⟩ := b3
  obtain ⟨b41, b42⟩ := b4
  obtain ⟨b51, b52⟩ := b5
  obtain ⟨hBB1, hBB2⟩ := hBB
  obtain ⟨hk1, hk2⟩ := hkk
  have hDv := fun w => prgdivided_at (y * 12 + mo) 12 (y + q) m (by omega) (by omega) (by omega) (by omega) (by omega) (by omega) w
  have hDy : ∀ w, Calls Try.prog 9 #[.int .i64 (y + q), .int .i64 m, .int .i64 1] w fun e w' => e = .returned (.tuple #[.int .i64 B, .int .i64 0]) ∧ ∃ n, w' = w.drewN n := by
    intro w
    have e := prgDay_yes (y + q) m 1 ⟨⟨hk1, hk2⟩, ⟨hm1, hm2⟩, by omega, by have := lenI_bd (y + q) m hm1 hm2; omega⟩ w
    rw [show numI (y + q) m 1 = B from by rw [← hB]; unfold numI; omega] at e
    exact e
  have hIs := fun w => sec_int_no S (by omega) (by omega) (by omega) w
  have hci := conv_int
  have HNear := Lib.hid hNear
  have HDv := Lib.hid hDv
  have HDy := Lib.hid hDy
  have HF := Lib.hid hFc
  have HS := Lib.hid hSe
  have HIs := Lib.hid hIs
  have w1 : IntKind.i64.wrap (B + d) = B + d := IntWalk.i64_in _ (by omega)
  have w2 : IntKind.i64.wrap (B + d - 1) = B + d - 1 := IntWalk.i64_in _ (by omega)
  have w3 : IntKind.i64.wrap ((B + d - 1) * 86400) = (B + d - 1) * 86400 := IntWalk.i64_in _ (by omega)
  have w4 : IntKind.i64.wrap (h * 3600) = h * 3600 := IntWalk.i64_in _ (by omega)
  have w5 : IntKind.i64.wrap ((B + d - 1) * 86400 + h * 3600) = (B + d - 1) * 86400 + h * 3600 := IntWalk.i64_in _ (by omega)
  have w6 : IntKind.i64.wrap (mi * 60) = mi * 60 := IntWalk.i64_in _ (by omega)
  have w7 : IntKind.i64.wrap ((B + d - 1) * 86400 + h * 3600 + mi * 60) = (B + d - 1) * 86400 + h * 3600 + mi * 60 := IntWalk.i64_in _ (by omega)
  have w8 : IntKind.i64.wrap ((B + d - 1) * 86400 + h * 3600 + mi * 60 + F) = (B + d - 1) * 86400 + h * 3600 + mi * 60 + F := IntWalk.i64_in _ (by omega)
  have W1 := Lib.hid w1
  have W2 := Lib.hid w2
  have W3 := Lib.hid w3
  have W4 := Lib.hid w4
  have W5 := Lib.hid w5
  have W6 := Lib.hid w6
  have W7 := Lib.hid w7
  have W8 := Lib.hid w8
  clear w1 w2 w3 w4 w5 w6 w7 w8 f1 f2 f3 f4 f5 f6 hq hm hk hB hFl hS hNear hDv hDy hFc hSe hIs hd hBd
  unfold timeV at *
  go_enter Try.func20, Try.ntmps20
  go_wp2_with fail
  have hr0 := heap_alloc_new w (Obj.cells #[.int .i64 y, .int .i64 mo, .int .i64 d, .int .i64 h, .int .i64 mi, .float .f64 s, .int .i64 wd, .int .i64 yd] 37)
  have hb0 := (Below.refl w.heap.size w).alloc (Nat.le_refl _) (Obj.cells #[.int .i64 y, .int .i64 mo, .int .i64 d, .int .i64 h, .int .i64 mi, .float .f64 s, .int .i64 wd, .int .i64 yd] 37)
  have hz0 : (w.alloc (Obj.cells #[.int .i64 y, .int .i64 mo, .int .i64 d, .int .i64 h, .int .i64 mi, .float .f64 s, .int .i64 wd, .int .i64 yd] 37)).heap.size = w.heap.size + 1 := by simp
  generalize w.alloc (Obj.cells #[.int .i64 y, .int .i64 mo, .int .i64 d, .int .i64 h, .int .i64 mi, .float .f64 s, .int .i64 wd, .int .i64 yd] 37) = W0 at hr0 hb0 hz0 ⊢
  refine (HNear.out W0).mono ?_
  rintro e w1 ⟨rfl, hbel⟩
  have hc1 := (C8.of_row hr0).below hbel (by omega)
  have hb1 := hb0.trans (hbel.mono (by omega))
  have C1 := Lib.hid hc1
  have B1 := Lib.hid hb1
  clear hr0 hb0 hz0 hbel hc1 hb1
  obtain ⟨u0, u1, u2, u3, u4, u5, u6, u7⟩ := C1.out
  go_wp2_with fail
  refine (HDv.out _).mono ?_
  rintro e w' ⟨rfl, n1, rfl⟩
  go_wp2_with fail
  refine (HDy.out _).mono ?_
  rintro e w' ⟨rfl, n2, rfl⟩
  have hc2 := (C1.out.drewN n1).drewN n2
  have hb2 := below_drewN (below_drewN B1.out n1) n2
  clear u0 u1 u2 u3 u4 u5 u6 u7
  generalize (w1.drewN n1).drewN n2 = X1 at hc2 hb2 ⊢
  have B2 := Lib.hid hb2
  obtain ⟨u0, u1, u2, u3, u4, u5, u6, u7⟩ := hc2
  clear hb2
  go_wp2_with fail
  have w1 := W1.out
  have w2 := W2.out
  have w3 := W3.out
  have w4 := W4.out
  have w5 := W5.out
  have w6 := W6.out
  have w7 := W7.out
  have w8 := W8.out
  go_quiet ((go_at_call 24; exact Calls.quiet_of_same (HF.out _)))
  clear w1 w2 w3 w4 w5 w6 w7 w8
  have hSx := HS.out
  go_wp2_with fail
  refine (HIs.out _).mono ?_
  rintro e w' ⟨rfl, rfl⟩
  clear hSx
  go_wp2_with fail
  go_ret2
  exact ⟨rfl, below_drewN B2.out _⟩
end Go.Proofs.Ytimipkbingbifaa

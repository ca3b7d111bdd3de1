/- The program's calendar: the seconds of a time. -/
import Derived.Test.YtpjncnoejdaplaaGreatDoorLAI
namespace Go.Proofs.YtpjncnoejdaplaaGreatDoor
open Go Go.RowKit

theorem five_fit (y mo d h mi : Int) (f1 : fitsB y = true) (f2 : fitsB mo = true) (f3 : fitsB d = true) (f4 : fitsB h = true) (f5 : fitsB mi = true) : ∀ k : Nat, k < 5 → ∃ x : Int, (#[.int .i64 y, .int .i64 mo, .int .i64 d, .int .i64 h, .int .i64 mi] : Array Value)[k]? = some (.int .i64 x) ∧ -1000000000 ≤ x ∧ x ≤ 1000000000 := by
  rw [fitsB_iff] at f1 f2 f3 f4 f5
  intro k hk
  rcases k with _ | _ | _ | _ | _ | k
  · exact ⟨y, rfl, f1.1, f1.2⟩
  · exact ⟨mo, rfl, f2.1, f2.2⟩
  · exact ⟨d, rfl, f3.1, f3.2⟩
  · exact ⟨h, rfl, f4.1, f4.2⟩
  · exact ⟨mi, rfl, f5.1, f5.2⟩
  · omega
set_option maxRecDepth 100000 in
set_option maxHeartbeats 2000000 in
theorem prgisNear_yes (y mo d h mi : Int) (s : Nat) (wd yd : Int) (hF : Fits y mo d h mi s) (w : World) : Calls Tryz.prog 101 #[.agg (timeV y mo d h mi s wd yd)] w fun e w' => e = .returned (.bool true) ∧ Below w.heap.size w w' := by
  obtain ⟨f1, f2, f3, f4, f5, f6⟩ := hF
  have HA := Lib.hid (five_fit y mo d h mi f1 f2 f3 f4 f5)
  obtain ⟨g1, g2⟩ := f6
  have o1 : FloatKind.f64.format.order s 13965043853221167104 = some .gt ∨ FloatKind.f64.format.order s 13965043853221167104 = some .eq := g1
  have o2 : FloatKind.f64.format.order s 4741671816366391296 = some .lt ∨ FloatKind.f64.format.order s 4741671816366391296 = some .eq := g2
  clear g1 g2 f1 f2 f3 f4 f5
  unfold timeV
  rcases o1 with o1 | o1 <;> rcases o2 with o2 | o2
  all_goals
    go_enter Tryz.func101, Tryz.ntmps101
    go_wp2_with fail
    go_loop [16] (fun i => ∃ k : Nat, k ≤ 5 ∧ i = .int .i64 k) (fun i => (5 - intOf i).toNat)
    case atStart => exact ⟨0, by omega, rfl⟩
    case round =>
      obtain ⟨k, hk, rfl⟩ := hrel
      by_cases hlt : k < 5
      · obtain ⟨x, hx, x1, x2⟩ := HA.out k hlt
        have hix := fun w => index_5 _ k x hlt hx w
        clear hx
        go_wp2_with fail
        go_round
        case rel => exact ⟨k + 1, by omega, by go_num⟩
        case measure => simp [intOf]; omega
      · have hk5 : k = 5 := by omega
        subst hk5
        go_wp2_with fail
        go_ret
        exact ⟨rfl, (Below.refl _ _).alloc (Nat.le_refl _) _⟩
set_option maxRecDepth 100000 in
set_option maxHeartbeats 2000000 in
theorem prgisNear_sec (y mo d h mi : Int) (s : Nat) (wd yd : Int) (f1 : fitsB y = true) (f2 : fitsB mo = true) (f3 : fitsB d = true) (f4 : fitsB h = true) (f5 : fitsB mi = true) (f6 : ¬ fitS s) (w : World) : Calls Tryz.prog 101 #[.agg (timeV y mo d h mi s wd yd)] w fun e w' => e = .returned (.bool false) ∧ Below w.heap.size w w' := by
  have HA := Lib.hid (five_fit y mo d h mi f1 f2 f3 f4 f5)
  clear f1 f2 f3 f4 f5
  unfold timeV
  unfold fitS at f6
  obtain ⟨x1, h1⟩ : ∃ x, Ieee.double.order s 13965043853221167104 = x := ⟨_, rfl⟩
  obtain ⟨x2, h2⟩ : ∃ x, Ieee.double.order s 4741671816366391296 = x := ⟨_, rfl⟩
  rw [h1, h2] at f6
  have o1 : FloatKind.f64.format.order s 13965043853221167104 = x1 := h1
  have o2 : FloatKind.f64.format.order s 4741671816366391296 = x2 := h2
  clear h1 h2
  rcases x1 with _ | _ | _ | _ <;> rcases x2 with _ | _ | _ | _ <;> (try (exfalso; simp at f6; done)) <;> clear f6
  all_goals
    go_enter Tryz.func101, Tryz.ntmps101
    go_wp2_with fail
    go_loop [16] (fun i => ∃ k : Nat, k ≤ 5 ∧ i = .int .i64 k) (fun i => (5 - intOf i).toNat)
    case atStart => exact ⟨0, by omega, rfl⟩
    case round =>
      obtain ⟨k, hk, rfl⟩ := hrel
      by_cases hlt : k < 5
      · obtain ⟨x, hx, x1, x2⟩ := HA.out k hlt
        have hix := fun w => index_5 _ k x hlt hx w
        clear hx
        go_wp2_with fail
        go_round
        case rel => exact ⟨k + 1, by omega, by go_num⟩
        case measure => simp [intOf]; omega
      · have hk5 : k = 5 := by omega
        subst hk5
        go_wp2_with fail
        go_ret
        exact ⟨rfl, (Below.refl _ _).alloc (Nat.le_refl _) _⟩
set_option maxRecDepth 100000 in
set_option maxHeartbeats 2000000 in
theorem prgisNear_at (y mo d h mi : Int) (s : Nat) (wd yd : Int) (p : Nat) (hp : p < 5) (hA : ∀ k : Nat, k < p → ∃ x : Int, (#[.int .i64 y, .int .i64 mo, .int .i64 d, .int .i64 h, .int .i64 mi] : Array Value)[k]? = some (.int .i64 x) ∧ -1000000000 ≤ x ∧ x ≤ 1000000000) (x : Int) (hx : (#[.int .i64 y, .int .i64 mo, .int .i64 d, .int .i64 h, .int .i64 mi] : Array Value)[p]? = some (.int .i64 x)) (hb : fitsB x = false) (w : World) : Calls Tryz.prog 101 #[.agg (timeV y mo d h mi s wd yd)] w fun e w' => e = .returned (.bool false) ∧ Below w.heap.size w w' := by
  have HA := Lib.hid hA
  have HX := Lib.hid hx
  have hq : x < -1000000000 ∨ 1000000000 < x := by
    rcases Int.lt_or_le x (-1000000000) with h1 | h1
    · exact .inl h1
    · rcases Int.lt_or_le 1000000000 x with h2 | h2
      · exact .inr h2
      · rw [(fitsB_iff x).2 ⟨h1, h2⟩] at hb
        cases hb
  clear hA hx hb
  unfold timeV
  rcases hq with hq | hq
  all_goals
    have hq2 : -1000000000 ≤ x ∨ x < -1000000000 := by omega
    go_enter Tryz.func101, Tryz.ntmps101
    go_wp2_with fail
    go_loop [16] (fun i => ∃ k : Nat, k ≤ p ∧ i = .int .i64 k) (fun i => (5 - intOf i).toNat)
    case atStart => exact ⟨0, by omega, rfl⟩
    case round =>
      obtain ⟨k, hk, rfl⟩ := hrel
      have hk5 : k < 5 := by omega
      by_cases hlt : k < p
      · obtain ⟨v, hv, v1, v2⟩ := HA.out k hlt
        have hix := fun w => index_5 _ k v hk5 hv w
        clear hv hq2
        go_wp2_with fail
        go_round
        case rel => exact ⟨k + 1, by omega, by go_num⟩
        case measure => simp [intOf]; omega
      · obtain rfl : k = p := by omega
        have hix := fun w => index_5 _ k x hk5 HX.out w
        rcases hq2 with hq2 | hq2
        all_goals (first | (exfalso; omega) | skip)
        all_goals
          go_wp2_with fail
          go_ret
          exact ⟨rfl, (Below.refl _ _).alloc (Nat.le_refl _) _⟩
theorem prgisNear_no (y mo d h mi : Int) (s : Nat) (wd yd : Int) (hF : ¬ Fits y mo d h mi s) (w : World) : Calls Tryz.prog 101 #[.agg (timeV y mo d h mi s wd yd)] w fun e w' => e = .returned (.bool false) ∧ Below w.heap.size w w' := by
  by_cases f1 : fitsB y = true
  · by_cases f2 : fitsB mo = true
    · by_cases f3 : fitsB d = true
      · by_cases f4 : fitsB h = true
        · by_cases f5 : fitsB mi = true
          · exact prgisNear_sec y mo d h mi s wd yd f1 f2 f3 f4 f5 (fun f6 => hF ⟨f1, f2, f3, f4, f5, f6⟩) w
          · refine prgisNear_at y mo d h mi s wd yd 4 (by omega) ?_ mi rfl (by simpa using f5) w
            intro k hk
            rw [fitsB_iff] at f1 f2 f3 f4
            rcases k with _ | _ | _ | _ | k
            · exact ⟨y, rfl, f1.1, f1.2⟩
            · exact ⟨mo, rfl, f2.1, f2.2⟩
            · exact ⟨d, rfl, f3.1, f3.2⟩
            · exact ⟨h, rfl, f4.1, f4.2⟩
            · omega
        · refine prgisNear_at y mo d h mi s wd yd 3 (by omega) ?_ h rfl (by simpa using f4) w
          intro k hk
          rw [fitsB_iff] at f1 f2 f3
          rcases k with _ | _ | _ | k
          · exact ⟨y, rfl, f1.1, f1.2⟩
          · exact ⟨mo, rfl, f2.1, f2.2⟩
          · exact ⟨d, rfl, f3.1, f3.2⟩
          · omega
      · refine prgisNear_at y mo d h mi s wd yd 2 (by omega) ?_ d rfl (by simpa using f3) w
        intro k hk
        rw [fitsB_iff] at f1 f2
        rcases k with _ | _ | k
        · exact ⟨y, rfl, f1.1, f1.2⟩
        · exact ⟨mo, rfl, f2.1, f2.2⟩
        · omega
    · refine prgisNear_at y mo d h mi s wd yd 1 (by omega) ?_ mo rfl (by simpa using f2) w
      intro k hk
      rw [fitsB_iff] at f1
      rcases k with _ | k
      · exact ⟨y, rfl, f1.1, f1.2⟩
      · omega
  · refine prgisNear_at y mo d h mi s wd yd 0 (by omega) ?_ y rfl (by simpa using f1) w
    intro k hk
    omega
end Go.Proofs.YtpjncnoejdaplaaGreatDoor
namespace Go.Proofs.YtpjncnoejdaplaaGreatDoor
open Go Go.RowKit

/-- A block's eight cells. -/
def C8 (w : World) (b : Nat) (x0 x1 x2 x3 x4 x5 x6 x7 : Value) : Prop :=
  w.cell? ⟨b, 0, none⟩ = some x0 ∧ w.cell? ⟨b, 1, none⟩ = some x1 ∧ w.cell? ⟨b, 2, none⟩ = some x2 ∧ w.cell? ⟨b, 3, none⟩ = some x3 ∧ w.cell? ⟨b, 4, none⟩ = some x4 ∧ w.cell? ⟨b, 5, none⟩ = some x5 ∧ w.cell? ⟨b, 6, none⟩ = some x6 ∧ w.cell? ⟨b, 7, none⟩ = some x7
theorem C8.of_row {w : World} {b : Nat} {x0 x1 x2 x3 x4 x5 x6 x7 : Value} {t : TypeId} (hb : w.heap[b]? = some (.cells #[x0, x1, x2, x3, x4, x5, x6, x7] t (0, 0))) : C8 w b x0 x1 x2 x3 x4 x5 x6 x7 := row8 hb
theorem C8.below {w w' : World} {b B : Nat} {x0 x1 x2 x3 x4 x5 x6 x7 : Value} (h : C8 w b x0 x1 x2 x3 x4 x5 x6 x7) (hB : Below B w w') (hb : b < B) : C8 w' b x0 x1 x2 x3 x4 x5 x6 x7 := by
  unfold C8
  rw [hB.cell (p := ⟨b, 0, none⟩) hb, hB.cell (p := ⟨b, 1, none⟩) hb, hB.cell (p := ⟨b, 2, none⟩) hb, hB.cell (p := ⟨b, 3, none⟩) hb, hB.cell (p := ⟨b, 4, none⟩) hb, hB.cell (p := ⟨b, 5, none⟩) hb, hB.cell (p := ⟨b, 6, none⟩) hb, hB.cell (p := ⟨b, 7, none⟩) hb]
  exact h
theorem C8.drewN {w : World} {b : Nat} {x0 x1 x2 x3 x4 x5 x6 x7 : Value} (h : C8 w b x0 x1 x2 x3 x4 x5 x6 x7) (n : Nat) : C8 (w.drewN n) b x0 x1 x2 x3 x4 x5 x6 x7 := by
  unfold C8 at *
  simp only [World.cell?, drewN_heap] at *
  exact h
/-- Whole seconds that are no double's floor, but one themselves. -/
theorem sec_int_no (S : Int) (h1 : -9007199254740992 ≤ S) (h2 : S ≤ 9007199254740992) (h : S < -377705116800 ∨ 253402300800 ≤ S) (w : World) : Calls Tryz.prog 39 #[.float .f64 (fI S)] w fun e w' => e = .returned (.bool false) ∧ w = w' := by
  have e1 := fI_order S (-377705116800) h1 h2 (by omega) (by omega)
  have e2 := fI_order S 253402300800 h1 h2 (by omega) (by omega)
  rw [c_secL] at e1
  rw [c_secU] at e2
  rcases h with h | h
  · rw [Int.compare_eq_lt.2 h] at e1
    exact prgisSecond_low _ _ e1 (.inr rfl) w
  · have a1 : compare S (-377705116800) ≠ .lt := by
      intro e
      have := Int.compare_eq_lt.1 e
      omega
    have a2 : compare S 253402300800 ≠ .lt := by
      intro e
      have := Int.compare_eq_lt.1 e
      omega
    exact prgisSecond_high _ _ _ e1 a1 e2 a2 w
theorem sec_int_yes (S : Int) (h1 : -377705116800 ≤ S) (h2 : S < 253402300800) (w : World) : Calls Tryz.prog 39 #[.float .f64 (fI S)] w fun e w' => e = .returned (.bool true) ∧ w = w' := by
  have e1 := fI_order S (-377705116800) (by omega) (by omega) (by omega) (by omega)
  have e2 := fI_order S 253402300800 (by omega) (by omega) (by omega) (by omega)
  rw [c_secL] at e1
  rw [c_secU] at e2
  have a1 : compare S (-377705116800) ≠ .lt := by
    intro e
    have := Int.compare_eq_lt.1 e
    omega
  rw [Int.compare_eq_lt.2 h2] at e2
  exact prgisSecond_yes _ _ e1 a1 e2 w
set_option maxRecDepth 100000 in
set_option maxHeartbeats 2000000 in
theorem prgJoin_unfit (y mo d h mi : Int) (s : Nat) (wd yd : Int) (hF : ¬ Fits y mo d h mi s) (w : World) : Calls Tryz.prog 53 #[.agg (timeV y mo d h mi s wd yd)] w fun e w' => e = .returned (.tuple #[.int .i64 0, .int .i64 110]) ∧ Below w.heap.size w w' := by
  have hNear := fun w => prgisNear_no y mo d h mi s wd yd hF w
  have HNear := Lib.hid hNear
  clear hNear hF
  unfold timeV at *
  go_enter Tryz.func53, Tryz.ntmps53
  go_wp2_with fail
  have hr0 := heap_alloc_new w (Obj.cells #[.int .i64 y, .int .i64 mo, .int .i64 d, .int .i64 h, .int .i64 mi, .float .f64 s, .int .i64 wd, .int .i64 yd] 24)
  have hb0 := (Below.refl w.heap.size w).alloc (Nat.le_refl _) (Obj.cells #[.int .i64 y, .int .i64 mo, .int .i64 d, .int .i64 h, .int .i64 mi, .float .f64 s, .int .i64 wd, .int .i64 yd] 24)
  have hz0 : (w.alloc (Obj.cells #[.int .i64 y, .int .i64 mo, .int .i64 d, .int .i64 h, .int .i64 mi, .float .f64 s, .int .i64 wd, .int .i64 yd] 24)).heap.size = w.heap.size + 1 := by simp
  generalize w.alloc (Obj.cells #[.int .i64 y, .int .i64 mo, .int .i64 d, .int .i64 h, .int .i64 mi, .float .f64 s, .int .i64 wd, .int .i64 yd] 24) = W0 at hr0 hb0 hz0 ⊢
  refine (HNear.out W0).mono ?_
  rintro e w1 ⟨rfl, hbel⟩
  have hb1 := hb0.trans (hbel.mono (by omega))
  have B1 := Lib.hid hb1
  clear hr0 hb0 hz0 hbel hb1
  go_wp2_with fail
  go_ret2
  exact ⟨rfl, B1.out⟩
set_option maxRecDepth 100000 in
set_option maxHeartbeats 2000000 in
theorem prgJoin_year (y mo d h mi : Int) (s : Nat) (wd yd : Int) (hF : Fits y mo d h mi s) (hk : knownB (y + mo / 12) = false) (w : World) : Calls Tryz.prog 53 #[.agg (timeV y mo d h mi s wd yd)] w fun e w' => e = .returned (.tuple #[.int .i64 0, .int .i64 110]) ∧ Below w.heap.size w w' := by
  have hNear := fun w => prgisNear_yes y mo d h mi s wd yd hF w
  obtain ⟨f1, f2, f3, f4, f5, f6⟩ := hF
  obtain ⟨q, hq⟩ : ∃ q, mo / 12 = q := ⟨_, rfl⟩
  obtain ⟨m, hm⟩ : ∃ m, mo % 12 = m := ⟨_, rfl⟩
  rw [hq] at hk
  have hkk : ¬ (-9999 ≤ y + q ∧ y + q ≤ 9999) := by
    intro h2
    rw [knownB_true _ h2] at hk
    cases hk
  have b1 := (fitsB_iff y).1 f1
  have b2 := (fitsB_iff mo).1 f2
  obtain ⟨b11, b12⟩ := b1
  obtain ⟨b21, b22⟩ := b2
  have hDv := fun w => prgdivided_at (y * 12 + mo) 12 (y + q) m (by omega) (by omega) (by omega) (by omega) (by omega) (by omega) w
  have hDy := fun w => prgDay_no (y + q) m 1 (by omega) (by omega) (fun h2 => hkk h2.1) w
  have HNear := Lib.hid hNear
  have HDv := Lib.hid hDv
  have HDy := Lib.hid hDy
  clear hNear hDv hDy hk hkk hq hm f1 f2 f3 f4 f5 f6
  unfold timeV at *
  go_enter Tryz.func53, Tryz.ntmps53
  go_wp2_with fail
  have hr0 := heap_alloc_new w (Obj.cells #[.int .i64 y, .int .i64 mo, .int .i64 d, .int .i64 h, .int .i64 mi, .float .f64 s, .int .i64 wd, .int .i64 yd] 24)
  have hb0 := (Below.refl w.heap.size w).alloc (Nat.le_refl _) (Obj.cells #[.int .i64 y, .int .i64 mo, .int .i64 d, .int .i64 h, .int .i64 mi, .float .f64 s, .int .i64 wd, .int .i64 yd] 24)
  have hz0 : (w.alloc (Obj.cells #[.int .i64 y, .int .i64 mo, .int .i64 d, .int .i64 h, .int .i64 mi, .float .f64 s, .int .i64 wd, .int .i64 yd] 24)).heap.size = w.heap.size + 1 := by simp
  generalize w.alloc (Obj.cells #[.int .i64 y, .int .i64 mo, .int .i64 d, .int .i64 h, .int .i64 mi, .float .f64 s, .int .i64 wd, .int .i64 yd] 24) = W0 at hr0 hb0 hz0 ⊢
  refine (HNear.out W0).mono ?_
  rintro e w1 ⟨rfl, hbel⟩
  have hc1 := (C8.of_row hr0).below hbel (by omega)
  have hb1 := hb0.trans (hbel.mono (by omega))
  have C1 := Lib.hid hc1
  have B1 := Lib.hid hb1
  clear hr0 hb0 hz0 hbel hc1 hb1
  obtain ⟨u0, u1, u2, u3, u4, u5, u6, u7⟩ := C1.out
  go_wp2_with fail
  refine (HDv.out _).mono ?_
  rintro e w' ⟨rfl, n1, rfl⟩
  go_wp2_with fail
  refine (HDy.out _).mono ?_
  rintro e w' ⟨rfl, rfl⟩
  go_wp2_with fail
  go_ret2
  exact ⟨rfl, below_drewN B1.out _⟩
set_option maxRecDepth 100000 in
set_option maxHeartbeats 2000000 in
theorem prgJoin_of (y mo d h mi : Int) (s : Nat) (wd yd : Int) (hF : Fits y mo d h mi s) (hk : knownB (y + mo / 12) = true) (hd1 : -4371587 ≤ secI (y + mo / 12) (mo % 12) d h mi s / 86400) (hd2 : secI (y + mo / 12) (mo % 12) d h mi s / 86400 ≤ 2932896) (w : World) :
    Calls Tryz.prog 53 #[.agg (timeV y mo d h mi s wd yd)] w fun e w' => e = .returned (.tuple #[.int .i64 (secI (y + mo / 12) (mo % 12) d h mi s), .int .i64 0]) ∧ Below w.heap.size w w' := by
  have hd := And.intro hd1 hd2
  clear hd1 hd2
  have hNear := fun w => prgisNear_yes y mo d h mi s wd yd hF w
  obtain ⟨f1, f2, f3, f4, f5, f6⟩ := hF
  obtain ⟨s1, s2, s3⟩ := fitS_fin s f6
  obtain ⟨q, hq⟩ : ∃ q, mo / 12 = q := ⟨_, rfl⟩
  obtain ⟨m, hm⟩ : ∃ m, mo % 12 = m := ⟨_, rfl⟩
  rw [hq, hm] at hd
  rw [hq] at hk
  rw [hq, hm]
  have hkk : -9999 ≤ y + q ∧ y + q ≤ 9999 := by simpa [knownB] using hk
  have hm1 : 0 ≤ m := by omega
  have hm2 : m ≤ 11 := by omega
  obtain ⟨B, hB⟩ : ∃ B, beginI (y + q) m = B := ⟨_, rfl⟩
  have hBd := begin_bd (y + q) (by omega) (by omega)
  have hBB : -6000000 ≤ B ∧ B ≤ 6000000 := by
    have e : B = beginI (y + q) 0 + cumI (y + q) m := by
      rw [← hB]
      unfold beginI
      rw [cumI_zero]
      omega
    have := cumI_le (y + q) m hm1 (by omega)
    omega
  obtain ⟨F, hFl⟩ : ∃ F, flI s = F := ⟨_, rfl⟩
  have hcv := fun w => conv_floor s s1 (by omega) (by omega) w
  have hFc := fun w => (Floor_num s (by omega) w).mono fun _ _ ⟨a, b⟩ => (⟨a, b.symm⟩ : _ ∧ _)
  rw [hFl] at s2 s3 hcv
  obtain ⟨S, hS⟩ : ∃ S, secI (y + q) m d h mi s = S := ⟨_, rfl⟩
  have hSe : (B + d - 1) * 86400 + h * 3600 + mi * 60 + F = S := by rw [← hS, ← hB, ← hFl]; rfl
  rw [hS] at hd ⊢
  have b1 := (fitsB_iff y).1 f1
  have b2 := (fitsB_iff mo).1 f2
  have b3 := (fitsB_iff d).1 f3
  have b4 := (fitsB_iff h).1 f4
  have b5 := (fitsB_iff mi).1 f5
  obtain ⟨b11, b12⟩ := b1
  obtain ⟨b21, b22⟩ := b2
  obtain ⟨b31, b32⟩ := b3
  obtain ⟨b41, b42⟩ := b4
  obtain ⟨b51, b52⟩ := b5
  obtain ⟨hBB1, hBB2⟩ := hBB
  obtain ⟨hk1, hk2⟩ := hkk
  have hDv := fun w => prgdivided_at (y * 12 + mo) 12 (y + q) m (by omega) (by omega) (by omega) (by omega) (by omega) (by omega) w
  have hDy : ∀ w, Calls Tryz.prog 54 #[.int .i64 (y + q), .int .i64 m, .int .i64 1] w fun e w' => e = .returned (.tuple #[.int .i64 B, .int .i64 0]) ∧ ∃ n, w' = w.drewN n := by
    intro w
    have e := prgDay_yes (y + q) m 1 ⟨⟨hk1, hk2⟩, ⟨hm1, hm2⟩, by omega, by have := lenI_bd (y + q) m hm1 hm2; omega⟩ w
    rw [show numI (y + q) m 1 = B from by rw [← hB]; unfold numI; omega] at e
    exact e
  have hIs := fun w => sec_int_yes S (by omega) (by omega) w
  have hci := conv_int
  have HNear := Lib.hid hNear
  have HDv := Lib.hid hDv
  have HDy := Lib.hid hDy
  have HF := Lib.hid hFc
  have HS := Lib.hid hSe
  have HIs := Lib.hid hIs
  have w1 : IntKind.i64.wrap (B + d) = B + d := IntWalk.i64_in _ (by omega)
  have w2 : IntKind.i64.wrap (B + d - 1) = B + d - 1 := IntWalk.i64_in _ (by omega)
  have w3 : IntKind.i64.wrap ((B + d - 1) * 86400) = (B + d - 1) * 86400 := IntWalk.i64_in _ (by omega)
  have w4 : IntKind.i64.wrap (h * 3600) = h * 3600 := IntWalk.i64_in _ (by omega)
  have w5 : IntKind.i64.wrap ((B + d - 1) * 86400 + h * 3600) = (B + d - 1) * 86400 + h * 3600 := IntWalk.i64_in _ (by omega)
  have w6 : IntKind.i64.wrap (mi * 60) = mi * 60 := IntWalk.i64_in _ (by omega)
  have w7 : IntKind.i64.wrap ((B + d - 1) * 86400 + h * 3600 + mi * 60) = (B + d - 1) * 86400 + h * 3600 + mi * 60 := IntWalk.i64_in _ (by omega)
  have w8 : IntKind.i64.wrap ((B + d - 1) * 86400 + h * 3600 + mi * 60 + F) = (B + d - 1) * 86400 + h * 3600 + mi * 60 + F := IntWalk.i64_in _ (by omega)
  have W1 := Lib.hid w1
  have W2 := Lib.hid w2
  have W3 := Lib.hid w3
  have W4 := Lib.hid w4
  have W5 := Lib.hid w5
  have W6 := Lib.hid w6
  have W7 := Lib.hid w7
  have W8 := Lib.hid w8
  clear w1 w2 w3 w4 w5 w6 w7 w8 f1 f2 f3 f4 f5 f6 hq hm hk hB hFl hS hNear hDv hDy hFc hSe hIs hd hBd
  unfold timeV at *
  go_enter Tryz.func53, Tryz.ntmps53
  go_wp2_with fail
  have hr0 := heap_alloc_new w (Obj.cells #[.int .i64 y, .int .i64 mo, .int .i64 d, .int .i64 h, .int .i64 mi, .float .f64 s, .int .i64 wd, .int .i64 yd] 24)
  have hb0 := (Below.refl w.heap.size w).alloc (Nat.le_refl _) (Obj.cells #[.int .i64 y, .int .i64 mo, .int .i64 d, .int .i64 h, .int .i64 mi, .float .f64 s, .int .i64 wd, .int .i64 yd] 24)
  have hz0 : (w.alloc (Obj.cells #[.int .i64 y, .int .i64 mo, .int .i64 d, .int .i64 h, .int .i64 mi, .float .f64 s, .int .i64 wd, .int .i64 yd] 24)).heap.size = w.heap.size + 1 := by simp
  generalize w.alloc (Obj.cells #[.int .i64 y, .int .i64 mo, .int .i64 d, .int .i64 h, .int .i64 mi, .float .f64 s, .int .i64 wd, .int .i64 yd] 24) = W0 at hr0 hb0 hz0 ⊢
  refine (HNear.out W0).mono ?_
  rintro e w1 ⟨rfl, hbel⟩
  have hc1 := (C8.of_row hr0).below hbel (by omega)
  have hb1 := hb0.trans (hbel.mono (by omega))
  have C1 := Lib.hid hc1
  have B1 := Lib.hid hb1
  clear hr0 hb0 hz0 hbel hc1 hb1
  obtain ⟨u0, u1, u2, u3, u4, u5, u6, u7⟩ := C1.out
  go_wp2_with fail
  refine (HDv.out _).mono ?_
  rintro e w' ⟨rfl, n1, rfl⟩
  go_wp2_with fail
  refine (HDy.out _).mono ?_
  rintro e w' ⟨rfl, n2, rfl⟩
  have hc2 := (C1.out.drewN n1).drewN n2
  have hb2 := below_drewN (below_drewN B1.out n1) n2
  clear u0 u1 u2 u3 u4 u5 u6 u7
  generalize (w1.drewN n1).drewN n2 = X1 at hc2 hb2 ⊢
  have B2 := Lib.hid hb2
  obtain ⟨u0, u1, u2, u3, u4, u5, u6, u7⟩ := hc2
  clear hb2
  go_wp2_with fail
  have w1 := W1.out
  have w2 := W2.out
  have w3 := W3.out
  have w4 := W4.out
  have w5 := W5.out
  have w6 := W6.out
  have w7 := W7.out
  have w8 := W8.out
  go_quiet ((go_at_call 38; exact Calls.quiet_of_same (HF.out _)))
  clear w1 w2 w3 w4 w5 w6 w7 w8
  have hSx := HS.out
  go_wp2_with fail
  refine (HIs.out _).mono ?_
  rintro e w' ⟨rfl, rfl⟩
  clear hSx
  go_wp2_with fail
  go_ret2
  exact ⟨by rw [← HS.out]; rfl, below_drewN B2.out _⟩
set_option maxRecDepth 100000 in
set_option maxHeartbeats 2000000 in
theorem prgJoin_out (y mo d h mi : Int) (s : Nat) (wd yd : Int) (hF : Fits y mo d h mi s) (hk : knownB (y + mo / 12) = true) (hd : secI (y + mo / 12) (mo % 12) d h mi s / 86400 < -4371587 ∨ 2932896 < secI (y + mo / 12) (mo % 12) d h mi s / 86400) (w : World) :
    Calls Tryz.prog 53 #[.agg (timeV y mo d h mi s wd yd)] w fun e w' => e = .returned (.tuple #[.int .i64 0, .int .i64 110]) ∧ Below w.heap.size w w' := by
  have hNear := fun w => prgisNear_yes y mo d h mi s wd yd hF w
  obtain ⟨f1, f2, f3, f4, f5, f6⟩ := hF
  obtain ⟨s1, s2, s3⟩ := fitS_fin s f6
  obtain ⟨q, hq⟩ : ∃ q, mo / 12 = q := ⟨_, rfl⟩
  obtain ⟨m, hm⟩ : ∃ m, mo % 12 = m := ⟨_, rfl⟩
  rw [hq, hm] at hd
  rw [hq] at hk
  have hkk : -9999 ≤ y + q ∧ y + q ≤ 9999 := by simpa [knownB] using hk
  have hm1 : 0 ≤ m := by omega
  have hm2 : m ≤ 11 := by omega
  obtain ⟨B, hB⟩ : ∃ B, beginI (y + q) m = B := ⟨_, rfl⟩
  have hBd := begin_bd (y + q) (by omega) (by omega)
  have hBB : -6000000 ≤ B ∧ B ≤ 6000000 := by
    have e : B = beginI (y + q) 0 + cumI (y + q) m := by
      rw [← hB]
      unfold beginI
      rw [cumI_zero]
      omega
    have := cumI_le (y + q) m hm1 (by omega)
    omega
  obtain ⟨F, hFl⟩ : ∃ F, flI s = F := ⟨_, rfl⟩
  have hcv := fun w => conv_floor s s1 (by omega) (by omega) w
  have hFc := fun w => (Floor_num s (by omega) w).mono fun _ _ ⟨a, b⟩ => (⟨a, b.symm⟩ : _ ∧ _)
  rw [hFl] at s2 s3 hcv
  obtain ⟨S, hS⟩ : ∃ S, secI (y + q) m d h mi s = S := ⟨_, rfl⟩
  have hSe : (B + d - 1) * 86400 + h * 3600 + mi * 60 + F = S := by rw [← hS, ← hB, ← hFl]; rfl
  rw [hS] at hd
  have b1 := (fitsB_iff y).1 f1
  have b2 := (fitsB_iff mo).1 f2
  have b3 := (fitsB_iff d).1 f3
  have b4 := (fitsB_iff h).1 f4
  have b5 := (fitsB_iff mi).1 f5
  obtain ⟨b11, b12⟩ := b1
  obtain ⟨b21, b22⟩ := b2
  obtain ⟨b31, b32⟩ := b3
  obtain ⟨b41, b42⟩ := b4
  obtain ⟨b51, b52⟩ := b5
  obtain ⟨hBB1, hBB2⟩ := hBB
  obtain ⟨hk1, hk2⟩ := hkk
  have hDv := fun w => prgdivided_at (y * 12 + mo) 12 (y + q) m (by omega) (by omega) (by omega) (by omega) (by omega) (by omega) w
  have hDy : ∀ w, Calls Tryz.prog 54 #[.int .i64 (y + q), .int .i64 m, .int .i64 1] w fun e w' => e = .returned (.tuple #[.int .i64 B, .int .i64 0]) ∧ ∃ n, w' = w.drewN n := by
    intro w
    have e := prgDay_yes (y + q) m 1 ⟨⟨hk1, hk2⟩, ⟨hm1, hm2⟩, by omega, by have := lenI_bd (y + q) m hm1 hm2; omega⟩ w
    rw [show numI (y + q) m 1 = B from by rw [← hB]; unfold numI; omega] at e
    exact e
  have hIs := fun w => sec_int_no S (by omega) (by omega) (by omega) w
  have hci := conv_int
  have HNear := Lib.hid hNear
  have HDv := Lib.hid hDv
  have HDy := Lib.hid hDy
  have HF := Lib.hid hFc
  have HS := Lib.hid hSe
  have HIs := Lib.hid hIs
  have w1 : IntKind.i64.wrap (B + d) = B + d := IntWalk.i64_in _ (by omega)
  have w2 : IntKind.i64.wrap (B + d - 1) = B + d - 1 := IntWalk.i64_in _ (by omega)
  have w3 : IntKind.i64.wrap ((B + d - 1) * 86400) = (B + d - 1) * 86400 := IntWalk.i64_in _ (by omega)
  have w4 : IntKind.i64.wrap (h * 3600) = h * 3600 := IntWalk.i64_in _ (by omega)
  have w5 : IntKind.i64.wrap ((B + d - 1) * 86400 + h * 3600) = (B + d - 1) * 86400 + h * 3600 := IntWalk.i64_in _ (by omega)
  have w6 : IntKind.i64.wrap (mi * 60) = mi * 60 := IntWalk.i64_in _ (by omega)
  have w7 : IntKind.i64.wrap ((B + d - 1) * 86400 + h * 3600 + mi * 60) = (B + d - 1) * 86400 + h * 3600 + mi * 60 := IntWalk.i64_in _ (by omega)
  have w8 : IntKind.i64.wrap ((B + d - 1) * 86400 + h * 3600 + mi * 60 + F) = (B + d - 1) * 86400 + h * 3600 + mi * 60 + F := IntWalk.i64_in _ (by omega)
  have W1 := Lib.hid w1
  have W2 := Lib.hid w2
  have W3 := Lib.hid w3
  have W4 := Lib.hid w4
  have W5 := Lib.hid w5
  have W6 := Lib.hid w6
  have W7 := Lib.hid w7
  have W8 := Lib.hid w8
  clear w1 w2 w3 w4 w5 w6 w7 w8 f1 f2 f3 f4 f5 f6 hq hm hk hB hFl hS hNear hDv hDy hFc hSe hIs hd hBd
  unfold timeV at *
  go_enter Tryz.func53, Tryz.ntmps53
  go_wp2_with fail
  have hr0 := heap_alloc_new w (Obj.cells #[.int .i64 y, .int .i64 mo, .int .i64 d, .int .i64 h, .int .i64 mi, .float .f64 s, .int .i64 wd, .int .i64 yd] 24)
  have hb0 := (Below.refl w.heap.size w).alloc (Nat.le_refl _) (Obj.cells #[.int .i64 y, .int .i64 mo, .int .i64 d, .int .i64 h, .int .i64 mi, .float .f64 s, .int .i64 wd, .int .i64 yd] 24)
  have hz0 : (w.alloc (Obj.cells #[.int .i64 y, .int .i64 mo, .int .i64 d, .int .i64 h, .int .i64 mi, .float .f64 s, .int .i64 wd, .int .i64 yd] 24)).heap.size = w.heap.size + 1 := by simp
  generalize w.alloc (Obj.cells #[.int .i64 y, .int .i64 mo, .int .i64 d, .int .i64 h, .int .i64 mi, .float .f64 s, .int .i64 wd, .int .i64 yd] 24) = W0 at hr0 hb0 hz0 ⊢
  refine (HNear.out W0).mono ?_
  rintro e w1 ⟨rfl, hbel⟩
  have hc1 := (C8.of_row hr0).below hbel (by omega)
  have hb1 := hb0.trans (hbel.mono (by omega))
  have C1 := Lib.hid hc1
  have B1 := Lib.hid hb1
  clear hr0 hb0 hz0 hbel hc1 hb1
  obtain ⟨u0, u1, u2, u3, u4, u5, u6, u7⟩ := C1.out
  go_wp2_with fail
  refine (HDv.out _).mono ?_
  rintro e w' ⟨rfl, n1, rfl⟩
  go_wp2_with fail
  refine (HDy.out _).mono ?_
  rintro e w' ⟨rfl, n2, rfl⟩
  have hc2 := (C1.out.drewN n1).drewN n2
  have hb2 := below_drewN (below_drewN B1.out n1) n2
  clear u0 u1 u2 u3 u4 u5 u6 u7
  generalize (w1.drewN n1).drewN n2 = X1 at hc2 hb2 ⊢
  have B2 := Lib.hid hb2
  obtain ⟨u0, u1, u2, u3, u4, u5, u6, u7⟩ := hc2
  clear hb2
  go_wp2_with fail
  have w1 := W1.out
  have w2 := W2.out
  have w3 := W3.out
  have w4 := W4.out
  have w5 := W5.out
  have w6 := W6.out
  have w7 := W7.out
  have w8 := W8.out
  go_quiet ((go_at_call 38; exact Calls.quiet_of_same (HF.out _)))
  clear w1 w2 w3 w4 w5 w6 w7 w8
  have hSx := HS.out
  go_wp2_with fail
  refine (HIs.out _).mono ?_
  rintro e w' ⟨rfl, rfl⟩
  clear hSx
  go_wp2_with fail
  go_ret2
  exact ⟨rfl, below_drewN B2.out _⟩
end Go.Proofs.YtpjncnoejdaplaaGreatDoor
namespace Go.Proofs.YtpjncnoejdaplaaGreatDoor
open Go Go.RowKit

theorem Leap_ok (y : Int) (h1 : -9223372036854775808 ≤ y) (h2 : y ≤ 9223372036854775807) (w : World) : Calls Tryz.prog 156 #[.int .i64 y] w fun e w' => e = .returned (.bool (leapB y)) ∧ Below w.heap.size w w' :=
  (prgLeap_any y h1 h2 w).mono fun _ _ ⟨a, b⟩ => ⟨a, b ▸ Below.refl _ _⟩
theorem Length_ok (y m : Int) (h1 : -9223372036854775808 ≤ y) (h2 : y ≤ 9223372036854775807) (w : World) : Calls Tryz.prog 96 #[.int .i64 y, .int .i64 m] w fun e w' => e = .returned (.int .i64 (lenI y m)) ∧ Below w.heap.size w w' :=
  (prgLength_any y m h1 h2 w).mono fun _ _ ⟨a, b⟩ => ⟨a, b ▸ Below.refl _ _⟩
theorem Day_yes (y m d : Int) (h : OkD y m d) (w : World) : Calls Tryz.prog 54 #[.int .i64 y, .int .i64 m, .int .i64 d] w fun e w' => e = .returned (.tuple #[.int .i64 (numI y m d), .int .i64 0]) ∧ Below w.heap.size w w' :=
  (prgDay_yes y m d h w).mono fun _ _ ⟨a, n, b⟩ => ⟨a, b ▸ below_drewN (Below.refl _ _) n⟩
theorem Day_no (y m d : Int) (h1 : -9223372036854775808 ≤ y) (h2 : y ≤ 9223372036854775807) (h : ¬ OkD y m d) (w : World) : Calls Tryz.prog 54 #[.int .i64 y, .int .i64 m, .int .i64 d] w fun e w' => e = .returned (.tuple #[.int .i64 0, .int .i64 110]) ∧ Below w.heap.size w w' :=
  (prgDay_no y m d h1 h2 h w).mono fun _ _ ⟨a, b⟩ => ⟨a, b ▸ Below.refl _ _⟩
theorem Date_of (y m d : Int) (h : OkD y m d) (w : World) : Calls Tryz.prog 41 #[.int .i64 (numI y m d)] w fun e w' => e = .returned (.tuple #[.int .i64 y, .int .i64 m, .int .i64 d, .int .i64 0]) ∧ Below w.heap.size w w' :=
  (prgDate_of y m d h w).mono fun _ _ ⟨a, n, b⟩ => ⟨a, b ▸ below_drewN (Below.refl _ _) n⟩
theorem Date_no (n : Int) (h : n < -4371587 ∨ 2932896 < n) (w : World) : Calls Tryz.prog 41 #[.int .i64 n] w fun e w' => e = .returned (.tuple #[.int .i64 0, .int .i64 0, .int .i64 0, .int .i64 110]) ∧ Below w.heap.size w w' :=
  (prgDate_no n h w).mono fun _ _ ⟨a, b⟩ => ⟨a, b ▸ Below.refl _ _⟩
theorem Weeks_of (y m d : Int) (h : OkD y m d) (w : World) : Calls Tryz.prog 55 #[.int .i64 (numI y m d)] w fun e w' => e = .returned (.tuple #[.int .i64 (isoI (numI y m d) y), .int .i64 (weekI (numI y m d) (isoI (numI y m d) y)), .int .i64 (sunI (numI y m d) y), .int .i64 (monI (numI y m d) y), .int .i64 0]) ∧ Below w.heap.size w w' :=
  (prgWeeks_of y m d h w).mono fun _ _ ⟨a, n, b⟩ => ⟨a, b ▸ below_drewN (Below.refl _ _) n⟩
theorem Weeks_no (n : Int) (h : n < -4371587 ∨ 2932896 < n) (w : World) : Calls Tryz.prog 55 #[.int .i64 n] w fun e w' => e = .returned (.tuple #[.int .i64 0, .int .i64 0, .int .i64 0, .int .i64 0, .int .i64 110]) ∧ Below w.heap.size w w' :=
  (prgWeeks_no n h w).mono fun _ _ ⟨a, b⟩ => ⟨a, b ▸ Below.refl _ _⟩
theorem Split_nan (b : Nat) (hb : 9218868437227405312 < szB b) (w : World) : Calls Tryz.prog 15 #[.float .f64 b] w fun e w' => e = .returned (.tuple #[.agg (timeV 0 0 0 0 0 0 0 0), .int .i64 110]) ∧ Below w.heap.size w w' := prgSplit_nan b hb w
theorem Split_far (b : Nat) (hb : szB b ≤ 9218868437227405312) (h : szB b = 9218868437227405312 ∨ flI b < -1000000000000000 ∨ 1000000000000000 < flI b) (w : World) : Calls Tryz.prog 15 #[.float .f64 b] w fun e w' => e = .returned (.tuple #[.agg (timeV 0 0 0 0 0 0 0 0), .int .i64 110]) ∧ Below w.heap.size w w' := prgSplit_far b hb h w
theorem Split_out (b : Nat) (hf : szB b < 9218868437227405312) (h1 : -1000000000000000 ≤ flI b) (h2 : flI b ≤ 1000000000000000) (hd : flI b / 86400 < -4371587 ∨ 2932896 < flI b / 86400) (w : World) : Calls Tryz.prog 15 #[.float .f64 b] w fun e w' => e = .returned (.tuple #[.agg (timeV 0 0 0 0 0 0 0 0), .int .i64 110]) ∧ Below w.heap.size w w' := prgSplit_out b hf h1 h2 hd w
theorem Split_of (b : Nat) (hf : szB b < 9218868437227405312) (y m d r : Int) (hD : OkD y m d) (hn : flI b / 86400 = numI y m d) (hr : flI b % 86400 = r) (w : World) : Calls Tryz.prog 15 #[.float .f64 b] w
    fun e w' => e = .returned (.tuple #[.agg (timeV y m d (r / 3600) (r / 60 % 60) (secB b (r % 60)) ((numI y m d + 4) % 7) (numI y m d - beginI y 0)), .int .i64 0]) ∧ Below w.heap.size w w' := prgSplit_of b hf y m d r hD hn hr w
theorem Join_of (y mo d h mi : Int) (s : Nat) (wd yd : Int) (hF : Fits y mo d h mi s) (hk : knownB (y + mo / 12) = true) (hd1 : -4371587 ≤ secI (y + mo / 12) (mo % 12) d h mi s / 86400) (hd2 : secI (y + mo / 12) (mo % 12) d h mi s / 86400 ≤ 2932896) (w : World) :
    Calls Tryz.prog 53 #[.agg (timeV y mo d h mi s wd yd)] w fun e w' => e = .returned (.tuple #[.int .i64 (secI (y + mo / 12) (mo % 12) d h mi s), .int .i64 0]) ∧ Below w.heap.size w w' := prgJoin_of y mo d h mi s wd yd hF hk hd1 hd2 w
theorem Join_out (y mo d h mi : Int) (s : Nat) (wd yd : Int) (hF : Fits y mo d h mi s) (hk : knownB (y + mo / 12) = true) (hd : secI (y + mo / 12) (mo % 12) d h mi s / 86400 < -4371587 ∨ 2932896 < secI (y + mo / 12) (mo % 12) d h mi s / 86400) (w : World) :
    Calls Tryz.prog 53 #[.agg (timeV y mo d h mi s wd yd)] w fun e w' => e = .returned (.tuple #[.int .i64 0, .int .i64 110]) ∧ Below w.heap.size w w' := prgJoin_out y mo d h mi s wd yd hF hk hd w
theorem Join_year (y mo d h mi : Int) (s : Nat) (wd yd : Int) (hF : Fits y mo d h mi s) (hk : knownB (y + mo / 12) = false) (w : World) :
    Calls Tryz.prog 53 #[.agg (timeV y mo d h mi s wd yd)] w fun e w' => e = .returned (.tuple #[.int .i64 0, .int .i64 110]) ∧ Below w.heap.size w w' := prgJoin_year y mo d h mi s wd yd hF hk w
theorem Join_unfit (y mo d h mi : Int) (s : Nat) (wd yd : Int) (hF : ¬ Fits y mo d h mi s) (w : World) :
    Calls Tryz.prog 53 #[.agg (timeV y mo d h mi s wd yd)] w fun e w' => e = .returned (.tuple #[.int .i64 0, .int .i64 110]) ∧ Below w.heap.size w w' := prgJoin_unfit y mo d h mi s wd yd hF w
end Go.Proofs.YtpjncnoejdaplaaGreatDoor
namespace Go.Proofs.YtpjncnoejdaplaaGreatDoor
open Go Go.RowKit

theorem Length_quiet (y m : Int) (h1 : -9223372036854775808 ≤ y) (h2 : y ≤ 9223372036854775807) (w : World) : Calls Tryz.prog 96 #[.int .i64 y, .int .i64 m] w fun e w' => e = .returned (.int .i64 (lenI y m)) ∧ ∃ n, w' = w.drewN n :=
  (prgLength_any y m h1 h2 w).mono fun _ _ ⟨a, b⟩ => ⟨a, 0, b.symm⟩
end Go.Proofs.YtpjncnoejdaplaaGreatDoor

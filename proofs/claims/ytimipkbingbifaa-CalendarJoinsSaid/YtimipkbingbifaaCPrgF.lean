/- The program's calendar: the seconds of a time. -/
import Derived.Test.YtimipkbingbifaaCPrgE
import Derived.Test.YtimipkbingbifaaCRefG
namespace Go.Proofs.Ytimipkbingbifaa
open Go Go.RowKit

theorem five_fit (y mo d h mi : Int) (f1 : fitsB y = true) (f2 : fitsB mo = true) (f3 : fitsB d = true) (f4 : fitsB h = true) (f5 : fitsB mi = true) : ∀ k : Nat, k < 5 → ∃ x : Int, (#[.int .i64 y, .int .i64 mo, .int .i64 d, .int .i64 h, .int .i64 mi] : Array Value)[k]? = some (.int .i64 x) ∧ -1000000000 ≤ x ∧ x ≤ 1000000000 := by
  rw [fitsB_iff] at f1 f2 f3 f4 f5
  intro k hk
  rcases k with _ | _ | _ | _ | _ | k
  · exact ⟨y, rfl, f1.1, f1.2⟩
  · exact ⟨mo, rfl, f2.1, f2.2⟩
  · exact ⟨d, rfl, f3.1, f3.2⟩
  · exact ⟨h, rfl, f4.1, f4.2⟩
  · exact ⟨mi, rfl, f5.1, f5.2⟩
  · omega
set_option maxRecDepth 100000 in
set_option maxHeartbeats 2000000 in
theorem prgisNear_yes (y mo d h mi : Int) (s : Nat) (wd yd : Int) (hF : Fits y mo d h mi s) (w : World) : Calls Try.prog 38 #[.agg (timeV y mo d h mi s wd yd)] w fun e w' => e = .returned (.bool true) ∧ Below w.heap.size w w' := by
  obtain ⟨f1, f2, f3, f4, f5, f6⟩ := hF
  have HA := Lib.hid (five_fit y mo d h mi f1 f2 f3 f4 f5)
  obtain ⟨g1, g2⟩ := f6
  have o1 : FloatKind.f64.format.order s 13965043853221167104 = some .gt ∨ FloatKind.f64.format.order s 13965043853221167104 = some .eq := g1
  have o2 : FloatKind.f64.format.order s 4741671816366391296 = some .lt ∨ FloatKind.f64.format.order s 4741671816366391296 = some .eq := g2
  clear g1 g2 f1 f2 f3 f4 f5
  unfold timeV
  rcases o1 with o1 | o1 <;> rcases o2 with o2 | o2
  all_goals
    go_enter Try.func38, Try.ntmps38
    go_wp2_with fail
    go_loop [16] (fun i => ∃ k : Nat, k ≤ 5 ∧ i = .int .i64 k) (fun i => (5 - intOf i).toNat)
    case atStart => exact ⟨0, by omega, rfl⟩
    case round =>
      obtain ⟨k, hk, rfl⟩ := hrel
      by_cases hlt : k < 5
      · obtain ⟨x, hx, x1, x2⟩ := HA.out k hlt
        have hix := fun w => index_5 _ k x hlt hx w
        clear hx
        go_wp2_with fail
        go_round
        case rel => exact ⟨k + 1, by omega, by go_num⟩
        case measure => simp [intOf]; omega
      · have hk5 : k = 5 := by omega
        subst hk5
        go_wp2_with fail
        go_ret
        exact ⟨rfl, (Below.refl _ _).alloc (Nat.le_refl _) _⟩
set_option maxRecDepth 100000 in
set_option maxHeartbeats 2000000 in
theorem prgisNear_sec (y mo d h mi : Int) (s : Nat) (wd yd : Int) (f1 : fitsB y = true) (f2 : fitsB mo = true) (f3 : fitsB d = true) (f4 : fitsB h = true) (f5 : fitsB mi = true) (f6 : ¬ fitS s) (w : World) : Calls Try.prog 38 #[.agg (timeV y mo d h mi s wd yd)] w fun e w' => e = .returned (.bool false) ∧ Below w.heap.size w w' := by
  have HA := Lib.hid (five_fit y mo d h mi f1 f2 f3 f4 f5)
  clear f1 f2 f3 f4 f5
  unfold timeV
  unfold fitS at f6
  obtain ⟨x1, h1⟩ : ∃ x, Ieee.double.order s 13965043853221167104 = x := ⟨_, rfl⟩
  obtain ⟨x2, h2⟩ : ∃ x, Ieee.double.order s 4741671816366391296 = x := ⟨_, rfl⟩
  rw [h1, h2] at f6
  have o1 : FloatKind.f64.format.order s 13965043853221167104 = x1 := h1
  have o2 : FloatKind.f64.format.order s 4741671816366391296 = x2 := h2
  clear h1 h2
  rcases x1 with _ | _ | _ | _ <;> rcases x2 with _ | _ | _ | _ <;> (try (exfalso; simp at f6; done)) <;> clear f6
  all_goals
    go_enter Try.func38, Try.ntmps38
    go_wp2_with fail
    go_loop [16] (fun i => ∃ k : Nat, k ≤ 5 ∧ i = .int .i64 k) (fun i => (5 - intOf i).toNat)
    case atStart => exact ⟨0, by omega, rfl⟩
    case round =>
      obtain ⟨k, hk, rfl⟩ := hrel
      by_cases hlt : k < 5
      · obtain ⟨x, hx, x1, x2⟩ := HA.out k hlt
        have hix := fun w => index_5 _ k x hlt hx w
        clear hx
        go_wp2_with fail
        go_round
        case rel => exact ⟨k + 1, by omega, by go_num⟩
        case measure => simp [intOf]; omega
      · have hk5 : k = 5 := by omega
        subst hk5
        go_wp2_with fail
        go_ret
        exact ⟨rfl, (Below.refl _ _).alloc (Nat.le_refl _) _⟩
set_option maxRecDepth 100000 in
set_option maxHeartbeats 2000000 in
theorem prgisNear_at (y mo d h mi : Int) (s : Nat) (wd yd : Int) (p : Nat) (hp : p < 5) (hA : ∀ k : Nat, k < p → ∃ x : Int, (#[.int .i64 y, .int .i64 mo, .int .i64 d, .int .i64 h, .int .i64 mi] : Array Value)[k]? = some (.int .i64 x) ∧ -1000000000 ≤ x ∧ x ≤ 1000000000) (x : Int) (hx : (#[.int .i64 y, .int .i64 mo, .int .i64 d, .int .i64 h, .int .i64 mi] : Array Value)[p]? = some (.int .i64 x)) (hb : fitsB x = false) (w : World) : Calls Try.prog 38 #[.agg (timeV y mo d h mi s wd yd)] w fun e w' => e = .returned (.bool false) ∧ Below w.heap.size w w' := by
  have HA := Lib.hid hA
  have HX := Lib.hid hx
  have hq : x < -1000000000 ∨ 1000000000 < x := by
    rcases Int.lt_or_le x (-1000000000) with h1 | h1
    · exact .inl h1
    · rcases Int.lt_or_le 1000000000 x with h2 | h2
      · exact .inr h2
      · rw [(fitsB_iff x).2 ⟨h1, h2⟩] at hb
        cases hb
  clear hA hx hb
  unfold timeV
  rcases hq with hq | hq
  all_goals
    have hq2 : -1000000000 ≤ x ∨ x < -1000000000 := by omega
    go_enter Try.func38, Try.ntmps38
    go_wp2_with fail
    go_loop [16] (fun i => ∃ k : Nat, k ≤ p ∧ i = .int .i64 k) (fun i => (5 - intOf i).toNat)
    case atStart => exact ⟨0, by omega, rfl⟩
    case round =>
      obtain ⟨k, hk, rfl⟩ := hrel
      have hk5 : k < 5 := by omega
      by_cases hlt : k < p
      · obtain ⟨v, hv, v1, v2⟩ := HA.out k hlt
        have hix := fun w => index_5 _ k v hk5 hv w
        clear hv hq2
        go_wp2_with fail
        go_round
        case rel => exact ⟨k + 1, by omega, by go_num⟩
        case measure => simp [intOf]; omega
      · obtain rfl : k = p := by omega
        have hix := fun w => index_5 _ k x hk5 HX.out w
        rcases hq2 with hq2 | hq2
        all_goals (first | (exfalso; omega) | skip)
        all_goals
          go_wp2_with fail
          go_ret
          exact ⟨rfl, (Below.refl _ _).alloc (Nat.le_refl _) _⟩
theorem prgisNear_no (y mo d h mi : Int) (s : Nat) (wd yd : Int) (hF : ¬ Fits y mo d h mi s) (w : World) : Calls Try.prog 38 #[.agg (timeV y mo d h mi s wd yd)] w fun e w' => e = .returned (.bool false) ∧ Below w.heap.size w w' := by
  by_cases f1 : fitsB y = true
  · by_cases f2 : fitsB mo = true
    · by_cases f3 : fitsB d = true
      · by_cases f4 : fitsB h = true
        · by_cases f5 : fitsB mi = true
          · exact prgisNear_sec y mo d h mi s wd yd f1 f2 f3 f4 f5 (fun f6 => hF ⟨f1, f2, f3, f4, f5, f6⟩) w
          · refine prgisNear_at y mo d h mi s wd yd 4 (by omega) ?_ mi rfl (by simpa using f5) w
            intro k hk
            rw [fitsB_iff] at f1 f2 f3 f4
            rcases k with _ | _ | _ | _ | k
            · exact ⟨y, rfl, f1.1, f1.2⟩
            · exact ⟨mo, rfl, f2.1, f2.2⟩
            · exact ⟨d, rfl, f3.1, f3.2⟩
            · exact ⟨h, rfl, f4.1, f4.2⟩
            · omega
        · refine prgisNear_at y mo d h mi s wd yd 3 (by omega) ?_ h rfl (by simpa using f4) w
          intro k hk
          rw [fitsB_iff] at f1 f2 f3
          rcases k with _ | _ | _ | k
          · exact ⟨y, rfl, f1.1, f1.2⟩
          · exact ⟨mo, rfl, f2.1, f2.2⟩
          · exact ⟨d, rfl, f3.1, f3.2⟩
          · omega
      · refine prgisNear_at y mo d h mi s wd yd 2 (by omega) ?_ d rfl (by simpa using f3) w
        intro k hk
        rw [fitsB_iff] at f1 f2
        rcases k with _ | _ | k
        · exact ⟨y, rfl, f1.1, f1.2⟩
        · exact ⟨mo, rfl, f2.1, f2.2⟩
        · omega
    · refine prgisNear_at y mo d h mi s wd yd 1 (by omega) ?_ mo rfl (by simpa using f2) w
      intro k hk
      rw [fitsB_iff] at f1
      rcases k with _ | k
      · exact ⟨y, rfl, f1.1, f1.2⟩
      · omega
  · refine prgisNear_at y mo d h mi s wd yd 0 (by omega) ?_ y rfl (by simpa using f1) w
    intro k hk
    omega
end Go.Proofs.Ytimipkbingbifaa

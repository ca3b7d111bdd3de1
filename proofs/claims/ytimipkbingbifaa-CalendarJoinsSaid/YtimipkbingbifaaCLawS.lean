/- CalendarSplits and CalendarJoins: their walks. -/
import Derived.Test.YtimipkbingbifaaCRefH
import Derived.Test.YtimipkbingbifaaCLawD
namespace Go.Proofs.Ytimipkbingbifaa
open Go Go.RowKit

theorem eq_self (s : Nat) (h : szB s ≤ 9218868437227405312) : Ieee.double.order s s = some .eq := by
  rw [order_is s s h h, Int.compare_eq_eq.2 rfl]
theorem both_Split (b : Nat) : ∃ (y m d h i : Int) (s : Nat) (wd yd e : Int), szB s ≤ 9218868437227405312 ∧ (∀ w, Calls Try.prog 18 #[.float .f64 b] w fun x w' => x = .returned (.tuple #[.agg (timeV y m d h i s wd yd), .int .i64 e]) ∧ Below w.heap.size w w') ∧
    (∀ w, Calls Try.prog 19 #[.float .f64 b] w fun x w' => x = .returned (.tuple #[.agg (timeV y m d h i s wd yd), .int .i64 e]) ∧ Below w.heap.size w w') := by
  rcases Nat.lt_or_ge 9218868437227405312 (szB b) with hn | hn
  · exact ⟨_, _, _, _, _, _, _, _, _, by decide, Split_nan b hn, refSplit_nan b hn⟩
  · by_cases hf : szB b = 9218868437227405312 ∨ flI b < -1000000000000000 ∨ 1000000000000000 < flI b
    · exact ⟨_, _, _, _, _, _, _, _, _, by decide, Split_far b hn hf, refSplit_far b hn hf⟩
    · have h1 : szB b < 9218868437227405312 := by omega
      by_cases hd : flI b / 86400 < -4371587 ∨ 2932896 < flI b / 86400
      · exact ⟨_, _, _, _, _, _, _, _, _, by decide, Split_out b h1 (by omega) (by omega) hd, refSplit_out b h1 (by omega) (by omega) hd⟩
      · obtain ⟨y, m, d, hD, hN⟩ := num_ex (flI b / 86400) (by omega) (by omega)
        exact ⟨_, _, _, _, _, _, _, _, _, (sec_some b (flI b % 86400 % 60) h1 (by omega) (by omega)).2, Split_of b h1 y m d _ hD hN.symm rfl, refSplit_of b h1 y m d _ hD hN.symm rfl⟩
theorem both_Join (y mo d h mi : Int) (s : Nat) (wd yd : Int) : ∃ a e : Int, (∀ w, Calls Try.prog 20 #[.agg (timeV y mo d h mi s wd yd)] w fun x w' => x = .returned (.tuple #[.int .i64 a, .int .i64 e]) ∧ Below w.heap.size w w') ∧
    (∀ w, Calls Try.prog 21 #[.agg (timeV y mo d h mi s wd yd)] w fun x w' => x = .returned (.tuple #[.int .i64 a, .int .i64 e]) ∧ Below w.heap.size w w') := by
  by_cases hF : Fits y mo d h mi s
  · by_cases hk : knownB (y + mo / 12) = true
    · by_cases hd : secI (y + mo / 12) (mo % 12) d h mi s / 86400 < -4371587 ∨ 2932896 < secI (y + mo / 12) (mo % 12) d h mi s / 86400
      · exact ⟨_, _, Join_out y mo d h mi s wd yd hF hk hd, refJoin_out y mo d h mi s wd yd hF hk hd⟩
      · exact ⟨_, _, Join_of y mo d h mi s wd yd hF hk (by omega) (by omega), refJoin_of y mo d h mi s wd yd hF hk (by omega) (by omega)⟩
    · have hk' : knownB (y + mo / 12) = false := by simpa using hk
      exact ⟨_, _, Join_year y mo d h mi s wd yd hF hk', refJoin_year y mo d h mi s wd yd hF hk'⟩
  · exact ⟨_, _, Join_unfit y mo d h mi s wd yd hF, refJoin_unfit y mo d h mi s wd yd hF⟩
set_option maxRecDepth 100000 in
set_option maxHeartbeats 2000000 in
theorem splits_true (b : Nat) (w : World) : Calls Try.prog 4 #[.float .f64 b] w fun e w' => e = .returned (.bool true) ∧ Below w.heap.size w w' := by
  obtain ⟨y, m, d, h, i, s, wd, yd, f, hs, p1, q1⟩ := both_Split b
  have hsf := run_store_float Try.prog
  have hfe := eqF_true s s (eq_self s hs)
  unfold timeV at p1 q1
  have P1 := Lib.hid p1
  have Q1 := Lib.hid q1
  clear p1 q1 hs
  have e1 : (y == y) = true := by simp
  have e2 : (m == m) = true := by simp
  have e3 : (d == d) = true := by simp
  have e4 : (h == h) = true := by simp
  have e5 : (i == i) = true := by simp
  have e6 : (wd == wd) = true := by simp
  have e7 : (yd == yd) = true := by simp
  have e8 : (f == f) = true := by simp
  go_enter Try.func4, Try.ntmps4
  go_wp2_with fail
  refine (P1.out _).mono ?_
  rintro e w1 ⟨rfl, b1⟩
  have B1 := Lib.hid b1
  clear b1
  go_wp2_with fail
  have hr5 := heap_alloc_new w1 (Obj.cells #[.int .i64 y, .int .i64 m, .int .i64 d, .int .i64 h, .int .i64 i, .float .f64 s, .int .i64 wd, .int .i64 yd] 37)
  have hb5 := B1.out.alloc B1.out.size (Obj.cells #[.int .i64 y, .int .i64 m, .int .i64 d, .int .i64 h, .int .i64 i, .float .f64 s, .int .i64 wd, .int .i64 yd] 37)
  have hz5 : w1.heap.size < (w1.alloc (Obj.cells #[.int .i64 y, .int .i64 m, .int .i64 d, .int .i64 h, .int .i64 i, .float .f64 s, .int .i64 wd, .int .i64 yd] 37)).heap.size := by simp
  generalize w1.alloc (Obj.cells #[.int .i64 y, .int .i64 m, .int .i64 d, .int .i64 h, .int .i64 i, .float .f64 s, .int .i64 wd, .int .i64 yd] 37) = X5 at hr5 hb5 hz5 ⊢
  have R5 := Lib.hid hr5
  have B5 := Lib.hid hb5
  have Z5 := Lib.hid hz5
  clear hr5 hb5 hz5
  refine (Q1.out _).mono ?_
  rintro e w2 ⟨rfl, b2⟩
  have R6 := Lib.hid ((b2.block w1.heap.size Z5.out).trans R5.out)
  have B6 := Lib.hid (B5.out.trans (b2.mono B5.out.size))
  have Z6 := Lib.hid (Nat.lt_of_lt_of_le Z5.out b2.size)
  clear b2 R5 B5 Z5
  obtain ⟨u0, u1, u2, u3, u4, u5, u6, u7⟩ := row8 R6.out
  have z6 := Z6.out
  go_wp2_with fail
  refine (heads_true _).mono ?_
  rintro e w3 ⟨rfl, b3⟩
  have B7 := Lib.hid ((B6.out.alloc B6.out.size (Obj.cells #[.int .i64 y, .int .i64 m, .int .i64 d, .int .i64 h, .int .i64 i, .float .f64 s, .int .i64 wd, .int .i64 yd] 37)).trans (b3.mono (by simp; have := B6.out.size; omega)))
  clear b3 u0 u1 u2 u3 u4 u5 u6 u7
  go_wp2_with fail
  go_ret
  exact ⟨rfl, B7.out⟩
set_option maxRecDepth 100000 in
set_option maxHeartbeats 2000000 in
theorem joins_true (y mo d h mi : Int) (s : Nat) (wd yd : Int) (w : World) : Calls Try.prog 5 #[.agg (timeV y mo d h mi s wd yd)] w fun e w' => e = .returned (.bool true) ∧ Below w.heap.size w w' := by
  obtain ⟨a, f, p1, q1⟩ := both_Join y mo d h mi s wd yd
  unfold timeV at p1 q1 ⊢
  have P1 := Lib.hid p1
  have Q1 := Lib.hid q1
  clear p1 q1
  have e1 : (a == a) = true := by simp
  have e2 : (f == f) = true := by simp
  go_enter Try.func5, Try.ntmps5
  go_wp2_with fail
  have hr5 := heap_alloc_new w (Obj.cells #[.int .i64 y, .int .i64 mo, .int .i64 d, .int .i64 h, .int .i64 mi, .float .f64 s, .int .i64 wd, .int .i64 yd] 37)
  have hb5 := (Below.refl w.heap.size w).alloc (Nat.le_refl _) (Obj.cells #[.int .i64 y, .int .i64 mo, .int .i64 d, .int .i64 h, .int .i64 mi, .float .f64 s, .int .i64 wd, .int .i64 yd] 37)
  have hz5 : w.heap.size < (w.alloc (Obj.cells #[.int .i64 y, .int .i64 mo, .int .i64 d, .int .i64 h, .int .i64 mi, .float .f64 s, .int .i64 wd, .int .i64 yd] 37)).heap.size := by simp
  generalize w.alloc (Obj.cells #[.int .i64 y, .int .i64 mo, .int .i64 d, .int .i64 h, .int .i64 mi, .float .f64 s, .int .i64 wd, .int .i64 yd] 37) = X5 at hr5 hb5 hz5 ⊢
  have R5 := Lib.hid hr5
  have B5 := Lib.hid hb5
  have Z5 := Lib.hid hz5
  clear hr5 hb5 hz5
  refine (P1.out _).mono ?_
  rintro e w1 ⟨rfl, b1⟩
  have R6 := Lib.hid ((b1.block w.heap.size Z5.out).trans R5.out)
  have B6 := Lib.hid (B5.out.trans (b1.mono B5.out.size))
  clear b1 R5 B5 Z5
  obtain ⟨u0, u1, u2, u3, u4, u5, u6, u7⟩ := row8 R6.out
  go_wp2_with fail
  refine (Q1.out _).mono ?_
  rintro e w2 ⟨rfl, b2⟩
  have B7 := Lib.hid (B6.out.trans (b2.mono B6.out.size))
  clear b2 u0 u1 u2 u3 u4 u5 u6 u7
  go_wp2_with fail
  refine (heads_true _).mono ?_
  rintro e w3 ⟨rfl, b3⟩
  have B8 := Lib.hid (B7.out.trans (b3.mono B7.out.size))
  clear b3
  go_wp2_with fail
  go_ret
  exact ⟨rfl, B8.out⟩
end Go.Proofs.Ytimipkbingbifaa

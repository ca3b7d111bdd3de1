/- The program's calendar: its contracts, in the form that the laws take. -/
import Derived.Test.YtimipkbingbifaaCPrgH
namespace Go.Proofs.Ytimipkbingbifaa
open Go Go.RowKit

theorem Leap_ok (y : Int) (h1 : -9223372036854775808 ≤ y) (h2 : y ≤ 9223372036854775807) (w : World) : Calls Try.prog 13 #[.int .i64 y] w fun e w' => e = .returned (.bool (leapB y)) ∧ Below w.heap.size w w' :=
  (prgLeap_any y h1 h2 w).mono fun _ _ ⟨a, b⟩ => ⟨a, b ▸ Below.refl _ _⟩
theorem Length_ok (y m : Int) (h1 : -9223372036854775808 ≤ y) (h2 : y ≤ 9223372036854775807) (w : World) : Calls Try.prog 15 #[.int .i64 y, .int .i64 m] w fun e w' => e = .returned (.int .i64 (lenI y m)) ∧ Below w.heap.size w w' :=
  (prgLength_any y m h1 h2 w).mono fun _ _ ⟨a, b⟩ => ⟨a, b ▸ Below.refl _ _⟩
theorem Day_yes (y m d : Int) (h : OkD y m d) (w : World) : Calls Try.prog 9 #[.int .i64 y, .int .i64 m, .int .i64 d] w fun e w' => e = .returned (.tuple #[.int .i64 (numI y m d), .int .i64 0]) ∧ Below w.heap.size w w' :=
  (prgDay_yes y m d h w).mono fun _ _ ⟨a, n, b⟩ => ⟨a, b ▸ below_drewN (Below.refl _ _) n⟩
theorem Day_no (y m d : Int) (h1 : -9223372036854775808 ≤ y) (h2 : y ≤ 9223372036854775807) (h : ¬ OkD y m d) (w : World) : Calls Try.prog 9 #[.int .i64 y, .int .i64 m, .int .i64 d] w fun e w' => e = .returned (.tuple #[.int .i64 0, .int .i64 110]) ∧ Below w.heap.size w w' :=
  (prgDay_no y m d h1 h2 h w).mono fun _ _ ⟨a, b⟩ => ⟨a, b ▸ Below.refl _ _⟩
theorem Date_of (y m d : Int) (h : OkD y m d) (w : World) : Calls Try.prog 11 #[.int .i64 (numI y m d)] w fun e w' => e = .returned (.tuple #[.int .i64 y, .int .i64 m, .int .i64 d, .int .i64 0]) ∧ Below w.heap.size w w' :=
  (prgDate_of y m d h w).mono fun _ _ ⟨a, n, b⟩ => ⟨a, b ▸ below_drewN (Below.refl _ _) n⟩
theorem Date_no (n : Int) (h : n < -4371587 ∨ 2932896 < n) (w : World) : Calls Try.prog 11 #[.int .i64 n] w fun e w' => e = .returned (.tuple #[.int .i64 0, .int .i64 0, .int .i64 0, .int .i64 110]) ∧ Below w.heap.size w w' :=
  (prgDate_no n h w).mono fun _ _ ⟨a, b⟩ => ⟨a, b ▸ Below.refl _ _⟩
theorem Weeks_of (y m d : Int) (h : OkD y m d) (w : World) : Calls Try.prog 22 #[.int .i64 (numI y m d)] w fun e w' => e = .returned (.tuple #[.int .i64 (isoI (numI y m d) y), .int .i64 (weekI (numI y m d) (isoI (numI y m d) y)), .int .i64 (sunI (numI y m d) y), .int .i64 (monI (numI y m d) y), .int .i64 0]) ∧ Below w.heap.size w w' :=
  (prgWeeks_of y m d h w).mono fun _ _ ⟨a, n, b⟩ => ⟨a, b ▸ below_drewN (Below.refl _ _) n⟩
theorem Weeks_no (n : Int) (h : n < -4371587 ∨ 2932896 < n) (w : World) : Calls Try.prog 22 #[.int .i64 n] w fun e w' => e = .returned (.tuple #[.int .i64 0, .int .i64 0, .int .i64 0, .int .i64 0, .int .i64 110]) ∧ Below w.heap.size w w' :=
  (prgWeeks_no n h w).mono fun _ _ ⟨a, b⟩ => ⟨a, b ▸ Below.refl _ _⟩
theorem Split_nan (b : Nat) (hb : 9218868437227405312 < szB b) (w : World) : Calls Try.prog 18 #[.float .f64 b] w fun e w' => e = .returned (.tuple #[.agg (timeV 0 0 0 0 0 0 0 0), .int .i64 110]) ∧ Below w.heap.size w w' := prgSplit_nan b hb w
theorem Split_far (b : Nat) (hb : szB b ≤ 9218868437227405312) (h : szB b = 9218868437227405312 ∨ flI b < -1000000000000000 ∨ 1000000000000000 < flI b) (w : World) : Calls Try.prog 18 #[.float .f64 b] w fun e w' => e = .returned (.tuple #[.agg (timeV 0 0 0 0 0 0 0 0), .int .i64 110]) ∧ Below w.heap.size w w' := prgSplit_far b hb h w
theorem Split_out (b : Nat) (hf : szB b < 9218868437227405312) (h1 : -1000000000000000 ≤ flI b) (h2 : flI b ≤ 1000000000000000) (hd : flI b / 86400 < -4371587 ∨ 2932896 < flI b / 86400) (w : World) : Calls Try.prog 18 #[.float .f64 b] w fun e w' => e = .returned (.tuple #[.agg (timeV 0 0 0 0 0 0 0 0), .int .i64 110]) ∧ Below w.heap.size w w' := prgSplit_out b hf h1 h2 hd w
theorem Split_of (b : Nat) (hf : szB b < 9218868437227405312) (y m d r : Int) (hD : OkD y m d) (hn : flI b / 86400 = numI y m d) (hr : flI b % 86400 = r) (w : World) : Calls Try.prog 18 #[.float .f64 b] w
    fun e w' => e = .returned (.tuple #[.agg (timeV y m d (r / 3600) (r / 60 % 60) (secB b (r % 60)) ((numI y m d + 4) % 7) (numI y m d - beginI y 0)), .int .i64 0]) ∧ Below w.heap.size w w' := prgSplit_of b hf y m d r hD hn hr w
theorem Join_of (y mo d h mi : Int) (s : Nat) (wd yd : Int) (hF : Fits y mo d h mi s) (hk : knownB (y + mo / 12) = true) (hd1 : -4371587 ≤ secI (y + mo / 12) (mo % 12) d h mi s / 86400) (hd2 : secI (y + mo / 12) (mo % 12) d h mi s / 86400 ≤ 2932896) (w : World) :
    Calls Try.prog 20 #[.agg (timeV y mo d h mi s wd yd)] w fun e w' => e = .returned (.tuple #[.int .i64 (secI (y + mo / 12) (mo % 12) d h mi s), .int .i64 0]) ∧ Below w.heap.size w w' := prgJoin_of y mo d h mi s wd yd hF hk hd1 hd2 w
theorem Join_out (y mo d h mi : Int) (s : Nat) (wd yd : Int) (hF : Fits y mo d h mi s) (hk : knownB (y + mo / 12) = true) (hd : secI (y + mo / 12) (mo % 12) d h mi s / 86400 < -4371587 ∨ 2932896 < secI (y + mo / 12) (mo % 12) d h mi s / 86400) (w : World) :
    Calls Try.prog 20 #[.agg (timeV y mo d h mi s wd yd)] w fun e w' => e = .returned (.tuple #[.int .i64 0, .int .i64 110]) ∧ Below w.heap.size w w' := prgJoin_out y mo d h mi s wd yd hF hk hd w
theorem Join_year (y mo d h mi : Int) (s : Nat) (wd yd : Int) (hF : Fits y mo d h mi s) (hk : knownB (y + mo / 12) = false) (w : World) :
    Calls Try.prog 20 #[.agg (timeV y mo d h mi s wd yd)] w fun e w' => e = .returned (.tuple #[.int .i64 0, .int .i64 110]) ∧ Below w.heap.size w w' := prgJoin_year y mo d h mi s wd yd hF hk w
theorem Join_unfit (y mo d h mi : Int) (s : Nat) (wd yd : Int) (hF : ¬ Fits y mo d h mi s) (w : World) :
    Calls Try.prog 20 #[.agg (timeV y mo d h mi s wd yd)] w fun e w' => e = .returned (.tuple #[.int .i64 0, .int .i64 110]) ∧ Below w.heap.size w w' := prgJoin_unfit y mo d h mi s wd yd hF w
end Go.Proofs.Ytimipkbingbifaa

/- fmtEFG, of every number of digits. -/
import Derived.Test.YtdlighmnlcklnaaGreatDoorUFmtF
import Derived.WalkLawsBesides
import Derived.Laws.Externs
namespace Go.Proofs.YtdlighmnlcklnaaGreatDoor
open Go Go.RowKit

theorem fmtE_all (neg : Bool) (l : List UInt8) (dp : Int) (nd : Nat) (h b : Nat) (v : Value) (acc : List UInt8) (c : Nat) (hacc : acc.length ≤ 100) (hnd : 1 ≤ nd) (hnd2 : nd ≤ l.length) (hll : l.length ≤ 32) (hc : l.length ≤ c) (hc2 : c ≤ 32) (hdp : -400 ≤ dp ∧ dp ≤ 400) (w0 w : World) (k : Wr w0 w 5 h b l v acc) :
    Calls Tryz.prog 215 #[v, .bool neg, .slice (some ⟨b, 0, none⟩) c c, .int .i64 dp, .int .i64 nd, .int .i64 ((nd : Int) - 1), .int .u8 101, .bool true] w fun e w' => ∃ v', e = .returned v' ∧ Wr w0 w' 5 h b l v' (acc ++ eText neg (l.take nd) (dp - 1)) := by
  by_cases h0 : 0 ≤ dp - 1
  · obtain ⟨x, hx⟩ := Int.eq_ofNat_of_zero_le h0
    cases neg
    · exact fmtE_pp l dp x hx (by omega) (by omega) nd h b v acc c hacc hnd hnd2 hll hc hc2 w0 w k
    · exact fmtE_mp l dp x hx (by omega) (by omega) nd h b v acc c hacc hnd hnd2 hll hc hc2 w0 w k
  · obtain ⟨x, hx⟩ := Int.eq_ofNat_of_zero_le (by omega : 0 ≤ -(dp - 1))
    have hx' : dp - 1 = -(x : Int) := by omega
    cases neg
    · exact fmtE_pm l dp x hx' (by omega) (by omega) nd h b v acc c hacc hnd hnd2 hll hc hc2 w0 w k
    · exact fmtE_mm l dp x hx' (by omega) (by omega) nd h b v acc c hacc hnd hnd2 hll hc hc2 w0 w k
theorem fmtF_all (neg : Bool) (l : List UInt8) (dp : Int) (nd : Nat) (q : Int) (hq : q = max ((nd : Int) - dp) 0) (h b : Nat) (v : Value) (acc : List UInt8) (c : Nat) (hacc : acc.length ≤ 100) (hnd : 1 ≤ nd) (hnd2 : nd ≤ l.length) (hll : l.length ≤ 32) (hc : l.length ≤ c) (hc2 : c ≤ 32) (hdp : -400 ≤ dp ∧ dp ≤ 400) (w0 w : World) (k : Wr w0 w 5 h b l v acc) :
    Calls Tryz.prog 215 #[v, .bool neg, .slice (some ⟨b, 0, none⟩) c c, .int .i64 dp, .int .i64 nd, .int .i64 q, .int .u8 102, .bool true] w fun e w' => ∃ v', e = .returned v' ∧ Wr w0 w' 5 h b l v' (acc ++ fText neg (l.take nd) dp) := by
  by_cases h0 : 0 < dp
  · obtain ⟨d, hd⟩ := Int.eq_ofNat_of_zero_le (by omega : 0 ≤ dp)
    by_cases h1 : nd ≤ d
    · obtain rfl : q = 0 := by omega
      cases neg
      · exact fmtF_A_p l dp nd d hd h1 (by omega) h b v acc c hacc hnd hnd2 hll hc hc2 w0 w k
      · exact fmtF_A_m l dp nd d hd h1 (by omega) h b v acc c hacc hnd hnd2 hll hc hc2 w0 w k
    · obtain rfl : q = (nd : Int) - (d : Int) := by omega
      cases neg
      · exact fmtF_B_p l dp nd d hd (by omega) (by omega) h b v acc c hacc hnd hnd2 hll hc hc2 w0 w k
      · exact fmtF_B_m l dp nd d hd (by omega) (by omega) h b v acc c hacc hnd hnd2 hll hc hc2 w0 w k
  · obtain ⟨d, hd⟩ := Int.eq_ofNat_of_zero_le (by omega : 0 ≤ -dp)
    have hd' : dp = -(d : Int) := by omega
    obtain rfl : q = (nd : Int) + (d : Int) := by omega
    cases neg
    · exact fmtF_C_p l dp nd d hd' (by omega) h b v acc c hacc hnd hnd2 hll hc hc2 w0 w k
    · exact fmtF_C_m l dp nd d hd' (by omega) h b v acc c hacc hnd hnd2 hll hc hc2 w0 w k

set_option maxRecDepth 100000 in
set_option maxHeartbeats 1000000 in
theorem fmtE_zero (neg : Bool) (h b : Nat) (l : List UInt8) (v : Value) (acc : List UInt8) (hacc : acc.length ≤ 100) (w0 w : World) (k : Wr w0 w 5 h b l v acc) :
    Calls Tryz.prog 215 #[v, .bool neg, .slice none 0 0, .int .i64 0, .int .i64 0, .int .i64 (-1), .int .u8 101, .bool true] w fun e w' => ∃ v', e = .returned v' ∧ Wr w0 w' 5 h b l v' (acc ++ ((if neg then [45] else []) ++ [48, 101, 43, 48, 48])) := by
  cases neg
  · go_enter Tryz.func215, Tryz.ntmps215
    go_wp2_with (at_builtin; refine wr_lit rfl _ _ _ rfl Tryz.underlying65 infoByte [48] 1 k rfl rfl rfl rfl (by omega) ?_)
    intro v1 w1 k1
    go_wp2_with (at_builtin; refine wr_lit rfl _ _ _ rfl Tryz.underlying65 infoByte [101] 1 k1 rfl rfl rfl rfl (by simp only [List.length_append, List.length_cons, List.length_nil]; omega) ?_)
    intro v2 w2 k2
    go_wp2_with (at_builtin; refine wr_lit rfl _ _ _ rfl Tryz.underlying65 infoByte [43] 1 k2 rfl rfl rfl rfl (by simp only [List.length_append, List.length_cons, List.length_nil]; omega) ?_)
    intro v3 w3 k3
    go_wp2_with (at_builtin; refine wr_lit rfl _ _ _ rfl Tryz.underlying65 infoByte [48, 48] 2 k3 rfl rfl rfl rfl (by simp only [List.length_append, List.length_cons, List.length_nil]; omega) ?_)
    intro v4 w4 k4
    go_wp2_with fail
    go_ret
    exact ⟨_, rfl, by simpa using k4⟩
  · go_enter Tryz.func215, Tryz.ntmps215
    go_wp2_with (at_builtin; refine wr_lit rfl _ _ _ rfl Tryz.underlying65 infoByte [45] 1 k rfl rfl rfl rfl (by omega) ?_)
    intro v0 w9 k0
    go_wp2_with (at_builtin; refine wr_lit rfl _ _ _ rfl Tryz.underlying65 infoByte [48] 1 k0 rfl rfl rfl rfl (by simp only [List.length_append, List.length_cons, List.length_nil]; omega) ?_)
    intro v1 w1 k1
    go_wp2_with (at_builtin; refine wr_lit rfl _ _ _ rfl Tryz.underlying65 infoByte [101] 1 k1 rfl rfl rfl rfl (by simp only [List.length_append, List.length_cons, List.length_nil]; omega) ?_)
    intro v2 w2 k2
    go_wp2_with (at_builtin; refine wr_lit rfl _ _ _ rfl Tryz.underlying65 infoByte [43] 1 k2 rfl rfl rfl rfl (by simp only [List.length_append, List.length_cons, List.length_nil]; omega) ?_)
    intro v3 w3 k3
    go_wp2_with (at_builtin; refine wr_lit rfl _ _ _ rfl Tryz.underlying65 infoByte [48, 48] 2 k3 rfl rfl rfl rfl (by simp only [List.length_append, List.length_cons, List.length_nil]; omega) ?_)
    intro v4 w4 k4
    go_wp2_with fail
    go_ret
    exact ⟨_, rfl, by simpa using k4⟩
set_option maxRecDepth 100000 in
set_option maxHeartbeats 1000000 in
theorem fmtF_zero (neg : Bool) (h b : Nat) (l : List UInt8) (v : Value) (acc : List UInt8) (hacc : acc.length ≤ 100) (w0 w : World) (k : Wr w0 w 5 h b l v acc) :
    Calls Tryz.prog 215 #[v, .bool neg, .slice none 0 0, .int .i64 0, .int .i64 0, .int .i64 (-1), .int .u8 102, .bool true] w fun e w' => ∃ v', e = .returned v' ∧ Wr w0 w' 5 h b l v' (acc ++ ((if neg then [45] else []) ++ [48])) := by
  cases neg
  · go_enter Tryz.func215, Tryz.ntmps215
    go_wp2_with (at_builtin; refine wr_lit rfl _ _ _ rfl Tryz.underlying65 infoByte [48] 1 k rfl rfl rfl rfl (by omega) ?_)
    intro v1 w1 k1
    go_wp2_with fail
    go_ret
    exact ⟨_, rfl, by simpa using k1⟩
  · go_enter Tryz.func215, Tryz.ntmps215
    go_wp2_with (at_builtin; refine wr_lit rfl _ _ _ rfl Tryz.underlying65 infoByte [45] 1 k rfl rfl rfl rfl (by omega) ?_)
    intro v0 w9 k0
    go_wp2_with (at_builtin; refine wr_lit rfl _ _ _ rfl Tryz.underlying65 infoByte [48] 1 k0 rfl rfl rfl rfl (by simp only [List.length_append, List.length_cons, List.length_nil]; omega) ?_)
    intro v1 w1 k1
    go_wp2_with fail
    go_ret
    exact ⟨_, rfl, by simpa using k1⟩
end Go.Proofs.YtdlighmnlcklnaaGreatDoor
namespace Go.Proofs.YtdlighmnlcklnaaGreatDoor
open Go Go.RowKit

theorem bits_math (b : Nat) (w : World) : (callFunc 33 #[.float .f64 b]).run Tryz.prog w = .ok (.value (.int .u64 b)) w := by
  rw [run_callFunc_extern Tryz.func33 (by kernel_rfl) (by kernel_rfl) (by kernel_rfl) (e := Extern.MathFloatBits.float64bits) (by kernel_rfl)]
  rfl
theorem from_math (b : Int) (w : World) : (callFunc 32 #[.int .u64 b]).run Tryz.prog w = .ok (.value (.float .f64 b.toNat)) w := by
  rw [run_callFunc_extern Tryz.func32 (by kernel_rfl) (by kernel_rfl) (by kernel_rfl) (e := Extern.MathFloatBits.float64frombits) (by kernel_rfl)]
  rfl
theorem bits_conv (b : Nat) (w : World) : (callFunc 212 #[.float .f64 b]).run Tryz.prog w = .ok (.value (.int .u64 b)) w := by
  rw [run_callFunc_extern Tryz.func212 (by kernel_rfl) (by kernel_rfl) (by kernel_rfl) (e := Extern.MathFloatBits.float64bits) (by kernel_rfl)]
  rfl
def absB (b : Nat) : Nat := (bits .andNot .u64 (b : Int) 9223372036854775808).toNat
set_option maxRecDepth 100000 in
set_option maxHeartbeats 400000 in
theorem Abs_any (b : Nat) (w : World) : Calls Tryz.prog 10 #[.float .f64 b] w fun e w' => e = .returned (.float .f64 (absB b)) ∧ w = w' := by
  have h1 := bits_math
  have h2 := from_math
  go_enter Tryz.func10, Tryz.ntmps10
  go_wp2_with fail
  go_ret
  exact ⟨rfl, rfl⟩

end Go.Proofs.YtdlighmnlcklnaaGreatDoor

/- fmtEFG at 'e'. -/
import Derived.Test.YtpobdmkidopnnaaGreatDoorGAB
import Derived.Test.YtpobdmkidopnnaaGreatDoorGAA
import Derived.Handy
namespace Go.Proofs.YtpobdmkidopnnaaGreatDoor
open Go Go.RowKit

theorem infoByte : (Tryz.prog.info? 5).map (fun i => (i.zero, i.size, i.bytes)) = some (some (.int .u8 0), 1, 1) := by kernel_rfl
/-- An exponent's digits: two at least. -/
def expD (x : Nat) : List UInt8 := if x < 10 then [48, UInt8.ofNat (48 + x)] else if x < 100 then [UInt8.ofNat (48 + x / 10), UInt8.ofNat (48 + x % 10)] else [UInt8.ofNat (48 + x / 100), UInt8.ofNat (48 + x / 10 % 10), UInt8.ofNat (48 + x % 10)]
/-- The text with an exponent. -/
def eText (neg : Bool) (l : List UInt8) (x : Int) : List UInt8 :=
  (if neg then [45] else []) ++ l.take 1 ++ (if l.length ≤ 1 then [] else 46 :: l.drop 1) ++ [101] ++ (if x < 0 then [45] else [43]) ++ expD x.natAbs
theorem take_one (l : List UInt8) (nd : Nat) (h1 : 1 ≤ nd) (h2 : nd ≤ l.length) : (l.take nd).take 1 = [l[0]] := by
  rw [List.take_take, Nat.min_eq_left h1]
  cases l with
  | nil => simp at h2; omega
  | cons a r => rfl
theorem take_rest (l : List UInt8) (nd : Nat) : (l.take nd).drop 1 = (l.drop 1).take (nd - 1) := by rw [List.drop_take]

theorem byte_of (x : Nat) (h : x < 256) : (((UInt8.ofNat x).toNat : Nat) : Int) = (x : Int) := by
  rw [UInt8.toNat_ofNat']
  omega
set_option maxRecDepth 100000 in
set_option maxHeartbeats 2000000 in
theorem fmtE_pp (l : List UInt8) (dp : Int) (x : Nat) (hx : dp - 1 = (x : Int)) (_hx0 : 0 ≤ x) (hx1 : x < 1000) (nd : Nat) (h b : Nat) (v : Value) (acc : List UInt8) (c : Nat) (hacc : acc.length ≤ 100) (hnd : 1 ≤ nd) (hnd2 : nd ≤ l.length) (hll : l.length ≤ 32) (hc : l.length ≤ c) (hc2 : c ≤ 32) (w0 w : World) (k : Wr w0 w 5 h b l v acc) :
    Calls Tryz.prog 347 #[v, .bool false, .slice (some ⟨b, 0, none⟩) c c, .int .i64 dp, .int .i64 nd, .int .i64 ((nd : Int) - 1), .int .u8 101, .bool true] w fun e w' => ∃ v', e = .returned v' ∧ Wr w0 w' 5 h b l v' (acc ++ eText false (l.take nd) (dp - 1)) := by
  have t1 := Lib.hid (take_one l nd hnd hnd2)
  have t2 := Lib.hid (take_rest l nd)
  have t3 := Lib.hid (show (l.take nd).length = nd by rw [List.length_take]; omega)
  have hl0 : 0 < l.length := by omega
  have hnd0 : ((nd : Int) != 0) = true := by rw [bne_iff_ne]; omega
  have hnd1 : ((nd : Int) == 0) = false := by rw [beq_eq_false_iff_ne]; omega
  have hx2 : decide ((x : Int) < 0) = false := decide_eq_false (by omega)
  go_enter Tryz.func347, Tryz.ntmps347
  have hc0 := k.cells 0 hl0
  go_wp2_with (at_builtin; refine wr_lit rfl _ _ _ rfl Tryz.underlying58 infoByte [l[0]] 1 k rfl rfl rfl rfl (by (try simp only [List.length_append, List.length_cons, List.length_nil, List.length_take, List.length_drop]); omega) ?_)
  intro v1 w1 k1
  clear hc0
  by_cases hone : nd = 1
  · have p0 : (nd : Int) - 1 ≤ 0 := by omega
    have Hone := Lib.hid hone
    clear hone
    go_wp2_with (at_builtin; refine wr_lit rfl _ _ _ rfl Tryz.underlying58 infoByte [101] 1 k1 rfl rfl rfl rfl (by (try simp only [List.length_append, List.length_cons, List.length_nil]); omega) ?_)
    intro v2 w2 k2
    go_wp2_with (at_builtin; refine wr_lit rfl _ _ _ rfl Tryz.underlying58 infoByte [43] 1 k2 rfl rfl rfl rfl (by (try simp only [List.length_append, List.length_cons, List.length_nil]); omega) ?_)
    intro v3 w3 k3
    rcases (by omega : x < 10 ∨ (10 ≤ x ∧ x < 100) ∨ 100 ≤ x) with d1 | d1 | d1
    · go_wp2_with (at_builtin; refine wr_lit rfl _ _ _ rfl Tryz.underlying58 infoByte [48, UInt8.ofNat (48 + x)] 2 k3 rfl rfl (by simp [Lib.byteCells]; omega) rfl (by (try simp only [List.length_append, List.length_cons, List.length_nil]); omega) ?_)
      intro v4 w4 k4
      go_wp2_with fail
      go_ret
      refine ⟨_, rfl, ?_⟩
      have he : acc ++ eText false (l.take nd) (dp - 1) = acc ++ [l[0]] ++ ([101] : List UInt8) ++ ([43] : List UInt8) ++ [48, UInt8.ofNat (48 + x)] := by
        have h1 := Hone.out
        unfold eText expD
        rw [t1.out, t2.out, t3.out, hx, if_pos (show nd ≤ 1 by omega), if_neg (show ¬ (x : Int) < 0 by omega), Int.natAbs_natCast, if_pos d1]
        simp
      rw [he]
      have hk : Wr w0 w4 5 h b l v4 (acc ++ [l[0]] ++ ([101] : List UInt8) ++ ([43] : List UInt8) ++ [48, UInt8.ofNat (48 + x)]) := by simpa using k4
      exact hk
    · go_wp2_with (at_builtin; refine wr_lit rfl _ _ _ rfl Tryz.underlying58 infoByte [UInt8.ofNat (48 + x / 10), UInt8.ofNat (48 + x % 10)] 2 k3 rfl rfl (by simp [Lib.byteCells]; omega) rfl (by (try simp only [List.length_append, List.length_cons, List.length_nil]); omega) ?_)
      intro v4 w4 k4
      go_wp2_with fail
      go_ret
      refine ⟨_, rfl, ?_⟩
      have he : acc ++ eText false (l.take nd) (dp - 1) = acc ++ [l[0]] ++ ([101] : List UInt8) ++ ([43] : List UInt8) ++ [UInt8.ofNat (48 + x / 10), UInt8.ofNat (48 + x % 10)] := by
        have h1 := Hone.out
        unfold eText expD
        rw [t1.out, t2.out, t3.out, hx, if_pos (show nd ≤ 1 by omega), if_neg (show ¬ (x : Int) < 0 by omega), Int.natAbs_natCast, if_neg (show ¬ x < 10 by omega), if_pos d1.2]
        simp
      rw [he]
      have hk : Wr w0 w4 5 h b l v4 (acc ++ [l[0]] ++ ([101] : List UInt8) ++ ([43] : List UInt8) ++ [UInt8.ofNat (48 + x / 10), UInt8.ofNat (48 + x % 10)]) := by simpa using k4
      exact hk
    · go_wp2_with (at_builtin; refine wr_lit rfl _ _ _ rfl Tryz.underlying58 infoByte [UInt8.ofNat (48 + x / 100), UInt8.ofNat (48 + x / 10 % 10), UInt8.ofNat (48 + x % 10)] 3 k3 rfl rfl (by simp [Lib.byteCells]; omega) rfl (by (try simp only [List.length_append, List.length_cons, List.length_nil]); omega) ?_)
      intro v4 w4 k4
      go_wp2_with fail
      go_ret
      refine ⟨_, rfl, ?_⟩
      have he : acc ++ eText false (l.take nd) (dp - 1) = acc ++ [l[0]] ++ ([101] : List UInt8) ++ ([43] : List UInt8) ++ [UInt8.ofNat (48 + x / 100), UInt8.ofNat (48 + x / 10 % 10), UInt8.ofNat (48 + x % 10)] := by
        have h1 := Hone.out
        unfold eText expD
        rw [t1.out, t2.out, t3.out, hx, if_pos (show nd ≤ 1 by omega), if_neg (show ¬ (x : Int) < 0 by omega), Int.natAbs_natCast, if_neg (show ¬ x < 10 by omega), if_neg (show ¬ x < 100 by omega)]
        simp
      rw [he]
      have hk : Wr w0 w4 5 h b l v4 (acc ++ [l[0]] ++ ([101] : List UInt8) ++ ([43] : List UInt8) ++ [UInt8.ofNat (48 + x / 100), UInt8.ofNat (48 + x / 10 % 10), UInt8.ofNat (48 + x % 10)]) := by simpa using k4
      exact hk
  · have p0 : (0 : Int) < (nd : Int) - 1 := by omega
    have Hone := Lib.hid hone
    clear hone
    go_wp2_with (at_builtin; refine wr_lit rfl _ _ _ rfl Tryz.underlying58 infoByte [46] 1 k1 rfl rfl rfl rfl (by (try simp only [List.length_append, List.length_cons, List.length_nil]); omega) ?_)
    intro v2 w2 k2
    have p1 : (1 : Int) < (nd : Int) := by omega
    have p2 : (nd : Int) ≤ (c : Int) := by omega
    go_wp2_with (at_builtin; refine wr_src rfl _ _ _ rfl Tryz.underlying58 infoByte 1 (nd - 1) _ k2 rfl rfl (by omega) (by (try simp only [List.length_append, List.length_cons, List.length_nil]); omega) ?_)
    intro v3 w3 k3
    go_wp2_with fail
    refine wp_loop_rounds 1 ?_
    rw [rounds_succ]
    go_wp2_with (at_builtin; refine wr_lit rfl _ _ _ rfl Tryz.underlying58 infoByte [101] 1 k3 rfl rfl rfl rfl (by (try simp only [List.length_append, List.length_cons, List.length_take]); omega) ?_)
    intro v4 w4 k4
    go_wp2_with (at_builtin; refine wr_lit rfl _ _ _ rfl Tryz.underlying58 infoByte [43] 1 k4 rfl rfl rfl rfl (by (try simp only [List.length_append, List.length_cons, List.length_nil, List.length_take]); omega) ?_)
    intro v5 w5 k5
    rcases (by omega : x < 10 ∨ (10 ≤ x ∧ x < 100) ∨ 100 ≤ x) with d1 | d1 | d1
    · go_wp2_with (at_builtin; refine wr_lit rfl _ _ _ rfl Tryz.underlying58 infoByte [48, UInt8.ofNat (48 + x)] 2 k5 rfl rfl (by simp [Lib.byteCells]; omega) rfl (by (try simp only [List.length_append, List.length_cons, List.length_nil, List.length_take]); omega) ?_)
      intro v6 w6 k6
      go_wp2_with fail
      go_ret
      refine ⟨_, rfl, ?_⟩
      have he : acc ++ eText false (l.take nd) (dp - 1) = acc ++ [l[0]] ++ ([46] : List UInt8) ++ (l.drop 1).take (nd - 1) ++ ([101] : List UInt8) ++ ([43] : List UInt8) ++ [48, UInt8.ofNat (48 + x)] := by
        have h1 := Hone.out
        unfold eText expD
        rw [t1.out, t2.out, t3.out, hx, if_neg (show ¬ nd ≤ 1 by omega), if_neg (show ¬ (x : Int) < 0 by omega), Int.natAbs_natCast, if_pos d1]
        simp
      rw [he]
      have hk : Wr w0 w6 5 h b l v6 (acc ++ [l[0]] ++ ([46] : List UInt8) ++ (l.drop 1).take (nd - 1) ++ ([101] : List UInt8) ++ ([43] : List UInt8) ++ [48, UInt8.ofNat (48 + x)]) := by simpa using k6
      exact hk
    · go_wp2_with (at_builtin; refine wr_lit rfl _ _ _ rfl Tryz.underlying58 infoByte [UInt8.ofNat (48 + x / 10), UInt8.ofNat (48 + x % 10)] 2 k5 rfl rfl (by simp [Lib.byteCells]; omega) rfl (by (try simp only [List.length_append, List.length_cons, List.length_nil, List.length_take]); omega) ?_)
      intro v6 w6 k6
      go_wp2_with fail
      go_ret
      refine ⟨_, rfl, ?_⟩
      have he : acc ++ eText false (l.take nd) (dp - 1) = acc ++ [l[0]] ++ ([46] : List UInt8) ++ (l.drop 1).take (nd - 1) ++ ([101] : List UInt8) ++ ([43] : List UInt8) ++ [UInt8.ofNat (48 + x / 10), UInt8.ofNat (48 + x % 10)] := by
        have h1 := Hone.out
        unfold eText expD
        rw [t1.out, t2.out, t3.out, hx, if_neg (show ¬ nd ≤ 1 by omega), if_neg (show ¬ (x : Int) < 0 by omega), Int.natAbs_natCast, if_neg (show ¬ x < 10 by omega), if_pos d1.2]
        simp
      rw [he]
      have hk : Wr w0 w6 5 h b l v6 (acc ++ [l[0]] ++ ([46] : List UInt8) ++ (l.drop 1).take (nd - 1) ++ ([101] : List UInt8) ++ ([43] : List UInt8) ++ [UInt8.ofNat (48 + x / 10), UInt8.ofNat (48 + x % 10)]) := by simpa using k6
      exact hk
    · go_wp2_with (at_builtin; refine wr_lit rfl _ _ _ rfl Tryz.underlying58 infoByte [UInt8.ofNat (48 + x / 100), UInt8.ofNat (48 + x / 10 % 10), UInt8.ofNat (48 + x % 10)] 3 k5 rfl rfl (by simp [Lib.byteCells]; omega) rfl (by (try simp only [List.length_append, List.length_cons, List.length_nil, List.length_take]); omega) ?_)
      intro v6 w6 k6
      go_wp2_with fail
      go_ret
      refine ⟨_, rfl, ?_⟩
      have he : acc ++ eText false (l.take nd) (dp - 1) = acc ++ [l[0]] ++ ([46] : List UInt8) ++ (l.drop 1).take (nd - 1) ++ ([101] : List UInt8) ++ ([43] : List UInt8) ++ [UInt8.ofNat (48 + x / 100), UInt8.ofNat (48 + x / 10 % 10), UInt8.ofNat (48 + x % 10)] := by
        have h1 := Hone.out
        unfold eText expD
        rw [t1.out, t2.out, t3.out, hx, if_neg (show ¬ nd ≤ 1 by omega), if_neg (show ¬ (x : Int) < 0 by omega), Int.natAbs_natCast, if_neg (show ¬ x < 10 by omega), if_neg (show ¬ x < 100 by omega)]
        simp
      rw [he]
      have hk : Wr w0 w6 5 h b l v6 (acc ++ [l[0]] ++ ([46] : List UInt8) ++ (l.drop 1).take (nd - 1) ++ ([101] : List UInt8) ++ ([43] : List UInt8) ++ [UInt8.ofNat (48 + x / 100), UInt8.ofNat (48 + x / 10 % 10), UInt8.ofNat (48 + x % 10)]) := by simpa using k6
      exact hk
set_option maxRecDepth 100000 in
set_option maxHeartbeats 2000000 in
theorem fmtE_pm (l : List UInt8) (dp : Int) (x : Nat) (hx : dp - 1 = -(x : Int)) (hx0 : 1 ≤ x) (hx1 : x < 1000) (nd : Nat) (h b : Nat) (v : Value) (acc : List UInt8) (c : Nat) (hacc : acc.length ≤ 100) (hnd : 1 ≤ nd) (hnd2 : nd ≤ l.length) (hll : l.length ≤ 32) (hc : l.length ≤ c) (hc2 : c ≤ 32) (w0 w : World) (k : Wr w0 w 5 h b l v acc) :
    Calls Tryz.prog 347 #[v, .bool false, .slice (some ⟨b, 0, none⟩) c c, .int .i64 dp, .int .i64 nd, .int .i64 ((nd : Int) - 1), .int .u8 101, .bool true] w fun e w' => ∃ v', e = .returned v' ∧ Wr w0 w' 5 h b l v' (acc ++ eText false (l.take nd) (dp - 1)) := by
  have t1 := Lib.hid (take_one l nd hnd hnd2)
  have t2 := Lib.hid (take_rest l nd)
  have t3 := Lib.hid (show (l.take nd).length = nd by rw [List.length_take]; omega)
  have hl0 : 0 < l.length := by omega
  have hnd0 : ((nd : Int) != 0) = true := by rw [bne_iff_ne]; omega
  have hnd1 : ((nd : Int) == 0) = false := by rw [beq_eq_false_iff_ne]; omega
  have hx2 : decide (-(x : Int) < 0) = true := decide_eq_true (by omega)
  go_enter Tryz.func347, Tryz.ntmps347
  have hc0 := k.cells 0 hl0
  go_wp2_with (at_builtin; refine wr_lit rfl _ _ _ rfl Tryz.underlying58 infoByte [l[0]] 1 k rfl rfl rfl rfl (by (try simp only [List.length_append, List.length_cons, List.length_nil, List.length_take, List.length_drop]); omega) ?_)
  intro v1 w1 k1
  clear hc0
  by_cases hone : nd = 1
  · have p0 : (nd : Int) - 1 ≤ 0 := by omega
    have Hone := Lib.hid hone
    clear hone
    go_wp2_with (at_builtin; refine wr_lit rfl _ _ _ rfl Tryz.underlying58 infoByte [101] 1 k1 rfl rfl rfl rfl (by (try simp only [List.length_append, List.length_cons, List.length_nil]); omega) ?_)
    intro v2 w2 k2
    go_wp2_with (at_builtin; refine wr_lit rfl _ _ _ rfl Tryz.underlying58 infoByte [45] 1 k2 rfl rfl rfl rfl (by (try simp only [List.length_append, List.length_cons, List.length_nil]); omega) ?_)
    intro v3 w3 k3
    rcases (by omega : x < 10 ∨ (10 ≤ x ∧ x < 100) ∨ 100 ≤ x) with d1 | d1 | d1
    · go_wp2_with (at_builtin; refine wr_lit rfl _ _ _ rfl Tryz.underlying58 infoByte [48, UInt8.ofNat (48 + x)] 2 k3 rfl rfl (by simp [Lib.byteCells]; omega) rfl (by (try simp only [List.length_append, List.length_cons, List.length_nil]); omega) ?_)
      intro v4 w4 k4
      go_wp2_with fail
      go_ret
      refine ⟨_, rfl, ?_⟩
      have he : acc ++ eText false (l.take nd) (dp - 1) = acc ++ [l[0]] ++ ([101] : List UInt8) ++ ([45] : List UInt8) ++ [48, UInt8.ofNat (48 + x)] := by
        have h1 := Hone.out
        unfold eText expD
        rw [t1.out, t2.out, t3.out, hx, if_pos (show nd ≤ 1 by omega), if_pos (show -(x : Int) < 0 by omega), Int.natAbs_neg, Int.natAbs_natCast, if_pos d1]
        simp
      rw [he]
      have hk : Wr w0 w4 5 h b l v4 (acc ++ [l[0]] ++ ([101] : List UInt8) ++ ([45] : List UInt8) ++ [48, UInt8.ofNat (48 + x)]) := by simpa using k4
      exact hk
    · go_wp2_with (at_builtin; refine wr_lit rfl _ _ _ rfl Tryz.underlying58 infoByte [UInt8.ofNat (48 + x / 10), UInt8.ofNat (48 + x % 10)] 2 k3 rfl rfl (by simp [Lib.byteCells]; omega) rfl (by (try simp only [List.length_append, List.length_cons, List.length_nil]); omega) ?_)
      intro v4 w4 k4
      go_wp2_with fail
      go_ret
      refine ⟨_, rfl, ?_⟩
      have he : acc ++ eText false (l.take nd) (dp - 1) = acc ++ [l[0]] ++ ([101] : List UInt8) ++ ([45] : List UInt8) ++ [UInt8.ofNat (48 + x / 10), UInt8.ofNat (48 + x % 10)] := by
        have h1 := Hone.out
        unfold eText expD
        rw [t1.out, t2.out, t3.out, hx, if_pos (show nd ≤ 1 by omega), if_pos (show -(x : Int) < 0 by omega), Int.natAbs_neg, Int.natAbs_natCast, if_neg (show ¬ x < 10 by omega), if_pos d1.2]
        simp
      rw [he]
      have hk : Wr w0 w4 5 h b l v4 (acc ++ [l[0]] ++ ([101] : List UInt8) ++ ([45] : List UInt8) ++ [UInt8.ofNat (48 + x / 10), UInt8.ofNat (48 + x % 10)]) := by simpa using k4
      exact hk
    · go_wp2_with (at_builtin; refine wr_lit rfl _ _ _ rfl Tryz.underlying58 infoByte [UInt8.ofNat (48 + x / 100), UInt8.ofNat (48 + x / 10 % 10), UInt8.ofNat (48 + x % 10)] 3 k3 rfl rfl (by simp [Lib.byteCells]; omega) rfl (by (try simp only [List.length_append, List.length_cons, List.length_nil]); omega) ?_)
      intro v4 w4 k4
      go_wp2_with fail
      go_ret
      refine ⟨_, rfl, ?_⟩
      have he : acc ++ eText false (l.take nd) (dp - 1) = acc ++ [l[0]] ++ ([101] : List UInt8) ++ ([45] : List UInt8) ++ [UInt8.ofNat (48 + x / 100), UInt8.ofNat (48 + x / 10 % 10), UInt8.ofNat (48 + x % 10)] := by
        have h1 := Hone.out
        unfold eText expD
        rw [t1.out, t2.out, t3.out, hx, if_pos (show nd ≤ 1 by omega), if_pos (show -(x : Int) < 0 by omega), Int.natAbs_neg, Int.natAbs_natCast, if_neg (show ¬ x < 10 by omega), if_neg (show ¬ x < 100 by omega)]
        simp
      rw [he]
      have hk : Wr w0 w4 5 h b l v4 (acc ++ [l[0]] ++ ([101] : List UInt8) ++ ([45] : List UInt8) ++ [UInt8.ofNat (48 + x / 100), UInt8.ofNat (48 + x / 10 % 10), UInt8.ofNat (48 + x % 10)]) := by simpa using k4
      exact hk
  · have p0 : (0 : Int) < (nd : Int) - 1 := by omega
    have Hone := Lib.hid hone
    clear hone
    go_wp2_with (at_builtin; refine wr_lit rfl _ _ _ rfl Tryz.underlying58 infoByte [46] 1 k1 rfl rfl rfl rfl (by (try simp only [List.length_append, List.length_cons, List.length_nil]); omega) ?_)
    intro v2 w2 k2
    have p1 : (1 : Int) < (nd : Int) := by omega
    have p2 : (nd : Int) ≤ (c : Int) := by omega
    go_wp2_with (at_builtin; refine wr_src rfl _ _ _ rfl Tryz.underlying58 infoByte 1 (nd - 1) _ k2 rfl rfl (by omega) (by (try simp only [List.length_append, List.length_cons, List.length_nil]); omega) ?_)
    intro v3 w3 k3
    go_wp2_with fail
    refine wp_loop_rounds 1 ?_
    rw [rounds_succ]
    go_wp2_with (at_builtin; refine wr_lit rfl _ _ _ rfl Tryz.underlying58 infoByte [101] 1 k3 rfl rfl rfl rfl (by (try simp only [List.length_append, List.length_cons, List.length_take]); omega) ?_)
    intro v4 w4 k4
    go_wp2_with (at_builtin; refine wr_lit rfl _ _ _ rfl Tryz.underlying58 infoByte [45] 1 k4 rfl rfl rfl rfl (by (try simp only [List.length_append, List.length_cons, List.length_nil, List.length_take]); omega) ?_)
    intro v5 w5 k5
    rcases (by omega : x < 10 ∨ (10 ≤ x ∧ x < 100) ∨ 100 ≤ x) with d1 | d1 | d1
    · go_wp2_with (at_builtin; refine wr_lit rfl _ _ _ rfl Tryz.underlying58 infoByte [48, UInt8.ofNat (48 + x)] 2 k5 rfl rfl (by simp [Lib.byteCells]; omega) rfl (by (try simp only [List.length_append, List.length_cons, List.length_nil, List.length_take]); omega) ?_)
      intro v6 w6 k6
      go_wp2_with fail
      go_ret
      refine ⟨_, rfl, ?_⟩
      have he : acc ++ eText false (l.take nd) (dp - 1) = acc ++ [l[0]] ++ ([46] : List UInt8) ++ (l.drop 1).take (nd - 1) ++ ([101] : List UInt8) ++ ([45] : List UInt8) ++ [48, UInt8.ofNat (48 + x)] := by
        have h1 := Hone.out
        unfold eText expD
        rw [t1.out, t2.out, t3.out, hx, if_neg (show ¬ nd ≤ 1 by omega), if_pos (show -(x : Int) < 0 by omega), Int.natAbs_neg, Int.natAbs_natCast, if_pos d1]
        simp
      rw [he]
      have hk : Wr w0 w6 5 h b l v6 (acc ++ [l[0]] ++ ([46] : List UInt8) ++ (l.drop 1).take (nd - 1) ++ ([101] : List UInt8) ++ ([45] : List UInt8) ++ [48, UInt8.ofNat (48 + x)]) := by simpa using k6
      exact hk
    · go_wp2_with (at_builtin; refine wr_lit rfl _ _ _ rfl Tryz.underlying58 infoByte [UInt8.ofNat (48 + x / 10), UInt8.ofNat (48 + x % 10)] 2 k5 rfl rfl (by simp [Lib.byteCells]; omega) rfl (by (try simp only [List.length_append, List.length_cons, List.length_nil, List.length_take]); omega) ?_)
      intro v6 w6 k6
      go_wp2_with fail
      go_ret
      refine ⟨_, rfl, ?_⟩
      have he : acc ++ eText false (l.take nd) (dp - 1) = acc ++ [l[0]] ++ ([46] : List UInt8) ++ (l.drop 1).take (nd - 1) ++ ([101] : List UInt8) ++ ([45] : List UInt8) ++ [UInt8.ofNat (48 + x / 10), UInt8.ofNat (48 + x % 10)] := by
        have h1 := Hone.out
        unfold eText expD
        rw [t1.out, t2.out, t3.out, hx, if_neg (show ¬ nd ≤ 1 by omega), if_pos (show -(x : Int) < 0 by omega), Int.natAbs_neg, Int.natAbs_natCast, if_neg (show ¬ x < 10 by omega), if_pos d1.2]
        simp
      rw [he]
      have hk : Wr w0 w6 5 h b l v6 (acc ++ [l[0]] ++ ([46] : List UInt8) ++ (l.drop 1).take (nd - 1) ++ ([101] : List UInt8) ++ ([45] : List UInt8) ++ [UInt8.ofNat (48 + x / 10), UInt8.ofNat (48 + x % 10)]) := by simpa using k6
      exact hk
    · go_wp2_with (at_builtin; refine wr_lit rfl _ _ _ rfl Tryz.underlying58 infoByte [UInt8.ofNat (48 + x / 100), UInt8.ofNat (48 + x / 10 % 10), UInt8.ofNat (48 + x % 10)] 3 k5 rfl rfl (by simp [Lib.byteCells]; omega) rfl (by (try simp only [List.length_append, List.length_cons, List.length_nil, List.length_take]); omega) ?_)
      intro v6 w6 k6
      go_wp2_with fail
      go_ret
      refine ⟨_, rfl, ?_⟩
      have he : acc ++ eText false (l.take nd) (dp - 1) = acc ++ [l[0]] ++ ([46] : List UInt8) ++ (l.drop 1).take (nd - 1) ++ ([101] : List UInt8) ++ ([45] : List UInt8) ++ [UInt8.ofNat (48 + x / 100), UInt8.ofNat (48 + x / 10 % 10), UInt8.ofNat (48 + x % 10)] := by
        have h1 := Hone.out
        unfold eText expD
        rw [t1.out, t2.out, t3.out, hx, if_neg (show ¬ nd ≤ 1 by omega), if_pos (show -(x : Int) < 0 by omega), Int.natAbs_neg, Int.natAbs_natCast, if_neg (show ¬ x < 10 by omega), if_neg (show ¬ x < 100 by omega)]
        simp
      rw [he]
      have hk : Wr w0 w6 5 h b l v6 (acc ++ [l[0]] ++ ([46] : List UInt8) ++ (l.drop 1).take (nd - 1) ++ ([101] : List UInt8) ++ ([45] : List UInt8) ++ [UInt8.ofNat (48 + x / 100), UInt8.ofNat (48 + x / 10 % 10), UInt8.ofNat (48 + x % 10)]) := by simpa using k6
      exact hk
set_option maxRecDepth 100000 in
set_option maxHeartbeats 2000000 in
theorem fmtE_mp (l : List UInt8) (dp : Int) (x : Nat) (hx : dp - 1 = (x : Int)) (_hx0 : 0 ≤ x) (hx1 : x < 1000) (nd : Nat) (h b : Nat) (v : Value) (acc : List UInt8) (c : Nat) (hacc : acc.length ≤ 100) (hnd : 1 ≤ nd) (hnd2 : nd ≤ l.length) (hll : l.length ≤ 32) (hc : l.length ≤ c) (hc2 : c ≤ 32) (w0 w : World) (k : Wr w0 w 5 h b l v acc) :
    Calls Tryz.prog 347 #[v, .bool true, .slice (some ⟨b, 0, none⟩) c c, .int .i64 dp, .int .i64 nd, .int .i64 ((nd : Int) - 1), .int .u8 101, .bool true] w fun e w' => ∃ v', e = .returned v' ∧ Wr w0 w' 5 h b l v' (acc ++ eText true (l.take nd) (dp - 1)) := by
  have t1 := Lib.hid (take_one l nd hnd hnd2)
  have t2 := Lib.hid (take_rest l nd)
  have t3 := Lib.hid (show (l.take nd).length = nd by rw [List.length_take]; omega)
  have hl0 : 0 < l.length := by omega
  have hnd0 : ((nd : Int) != 0) = true := by rw [bne_iff_ne]; omega
  have hnd1 : ((nd : Int) == 0) = false := by rw [beq_eq_false_iff_ne]; omega
  have hx2 : decide ((x : Int) < 0) = false := decide_eq_false (by omega)
  go_enter Tryz.func347, Tryz.ntmps347
  go_wp2_with (at_builtin; refine wr_lit rfl _ _ _ rfl Tryz.underlying58 infoByte [45] 1 k rfl rfl rfl rfl (by (try simp only [List.length_append, List.length_cons, List.length_nil, List.length_take, List.length_drop]); omega) ?_)
  intro v1 w1 k1
  have hc0 := k1.cells 0 hl0
  go_wp2_with (at_builtin; refine wr_lit rfl _ _ _ rfl Tryz.underlying58 infoByte [l[0]] 1 k1 rfl rfl rfl rfl (by (try simp only [List.length_append, List.length_cons, List.length_nil]); omega) ?_)
  intro v2 w2 k2
  clear hc0
  by_cases hone : nd = 1
  · have p0 : (nd : Int) - 1 ≤ 0 := by omega
    have Hone := Lib.hid hone
    clear hone
    go_wp2_with (at_builtin; refine wr_lit rfl _ _ _ rfl Tryz.underlying58 infoByte [101] 1 k2 rfl rfl rfl rfl (by (try simp only [List.length_append, List.length_cons, List.length_nil]); omega) ?_)
    intro v3 w3 k3
    go_wp2_with (at_builtin; refine wr_lit rfl _ _ _ rfl Tryz.underlying58 infoByte [43] 1 k3 rfl rfl rfl rfl (by (try simp only [List.length_append, List.length_cons, List.length_nil]); omega) ?_)
    intro v4 w4 k4
    rcases (by omega : x < 10 ∨ (10 ≤ x ∧ x < 100) ∨ 100 ≤ x) with d1 | d1 | d1
    · go_wp2_with (at_builtin; refine wr_lit rfl _ _ _ rfl Tryz.underlying58 infoByte [48, UInt8.ofNat (48 + x)] 2 k4 rfl rfl (by simp [Lib.byteCells]; omega) rfl (by (try simp only [List.length_append, List.length_cons, List.length_nil]); omega) ?_)
      intro v5 w5 k5
      go_wp2_with fail
      go_ret
      refine ⟨_, rfl, ?_⟩
      have he : acc ++ eText true (l.take nd) (dp - 1) = acc ++ ([45] : List UInt8) ++ [l[0]] ++ ([101] : List UInt8) ++ ([43] : List UInt8) ++ [48, UInt8.ofNat (48 + x)] := by
        have h1 := Hone.out
        unfold eText expD
        rw [t1.out, t2.out, t3.out, hx, if_pos (show nd ≤ 1 by omega), if_neg (show ¬ (x : Int) < 0 by omega), Int.natAbs_natCast, if_pos d1]
        simp
      rw [he]
      have hk : Wr w0 w5 5 h b l v5 (acc ++ ([45] : List UInt8) ++ [l[0]] ++ ([101] : List UInt8) ++ ([43] : List UInt8) ++ [48, UInt8.ofNat (48 + x)]) := by simpa using k5
      exact hk
    · go_wp2_with (at_builtin; refine wr_lit rfl _ _ _ rfl Tryz.underlying58 infoByte [UInt8.ofNat (48 + x / 10), UInt8.ofNat (48 + x % 10)] 2 k4 rfl rfl (by simp [Lib.byteCells]; omega) rfl (by (try simp only [List.length_append, List.length_cons, List.length_nil]); omega) ?_)
      intro v5 w5 k5
      go_wp2_with fail
      go_ret
      refine ⟨_, rfl, ?_⟩
      have he : acc ++ eText true (l.take nd) (dp - 1) = acc ++ ([45] : List UInt8) ++ [l[0]] ++ ([101] : List UInt8) ++ ([43] : List UInt8) ++ [UInt8.ofNat (48 + x / 10), UInt8.ofNat (48 + x % 10)] := by
        have h1 := Hone.out
        unfold eText expD
        rw [t1.out, t2.out, t3.out, hx, if_pos (show nd ≤ 1 by omega), if_neg (show ¬ (x : Int) < 0 by omega), Int.natAbs_natCast, if_neg (show ¬ x < 10 by omega), if_pos d1.2]
        simp
      rw [he]
      have hk : Wr w0 w5 5 h b l v5 (acc ++ ([45] : List UInt8) ++ [l[0]] ++ ([101] : List UInt8) ++ ([43] : List UInt8) ++ [UInt8.ofNat (48 + x / 10), UInt8.ofNat (48 + x % 10)]) := by simpa using k5
      exact hk
    · go_wp2_with (at_builtin; refine wr_lit rfl _ _ _ rfl Tryz.underlying58 infoByte [UInt8.ofNat (48 + x / 100), UInt8.ofNat (48 + x / 10 % 10), UInt8.ofNat (48 + x % 10)] 3 k4 rfl rfl (by simp [Lib.byteCells]; omega) rfl (by (try simp only [List.length_append, List.length_cons, List.length_nil]); omega) ?_)
      intro v5 w5 k5
      go_wp2_with fail
      go_ret
      refine ⟨_, rfl, ?_⟩
      have he : acc ++ eText true (l.take nd) (dp - 1) = acc ++ ([45] : List UInt8) ++ [l[0]] ++ ([101] : List UInt8) ++ ([43] : List UInt8) ++ [UInt8.ofNat (48 + x / 100), UInt8.ofNat (48 + x / 10 % 10), UInt8.ofNat (48 + x % 10)] := by
        have h1 := Hone.out
        unfold eText expD
        rw [t1.out, t2.out, t3.out, hx, if_pos (show nd ≤ 1 by omega), if_neg (show ¬ (x : Int) < 0 by omega), Int.natAbs_natCast, if_neg (show ¬ x < 10 by omega), if_neg (show ¬ x < 100 by omega)]
        simp
      rw [he]
      have hk : Wr w0 w5 5 h b l v5 (acc ++ ([45] : List UInt8) ++ [l[0]] ++ ([101] : List UInt8) ++ ([43] : List UInt8) ++ [UInt8.ofNat (48 + x / 100), UInt8.ofNat (48 + x / 10 % 10), UInt8.ofNat (48 + x % 10)]) := by simpa using k5
      exact hk
  · have p0 : (0 : Int) < (nd : Int) - 1 := by omega
    have Hone := Lib.hid hone
    clear hone
    go_wp2_with (at_builtin; refine wr_lit rfl _ _ _ rfl Tryz.underlying58 infoByte [46] 1 k2 rfl rfl rfl rfl (by (try simp only [List.length_append, List.length_cons, List.length_nil]); omega) ?_)
    intro v3 w3 k3
    have p1 : (1 : Int) < (nd : Int) := by omega
    have p2 : (nd : Int) ≤ (c : Int) := by omega
    go_wp2_with (at_builtin; refine wr_src rfl _ _ _ rfl Tryz.underlying58 infoByte 1 (nd - 1) _ k3 rfl rfl (by omega) (by (try simp only [List.length_append, List.length_cons, List.length_nil]); omega) ?_)
    intro v4 w4 k4
    go_wp2_with fail
    refine wp_loop_rounds 1 ?_
    rw [rounds_succ]
    go_wp2_with (at_builtin; refine wr_lit rfl _ _ _ rfl Tryz.underlying58 infoByte [101] 1 k4 rfl rfl rfl rfl (by (try simp only [List.length_append, List.length_cons, List.length_take]); omega) ?_)
    intro v5 w5 k5
    go_wp2_with (at_builtin; refine wr_lit rfl _ _ _ rfl Tryz.underlying58 infoByte [43] 1 k5 rfl rfl rfl rfl (by (try simp only [List.length_append, List.length_cons, List.length_nil, List.length_take]); omega) ?_)
    intro v6 w6 k6
    rcases (by omega : x < 10 ∨ (10 ≤ x ∧ x < 100) ∨ 100 ≤ x) with d1 | d1 | d1
    · go_wp2_with (at_builtin; refine wr_lit rfl _ _ _ rfl Tryz.underlying58 infoByte [48, UInt8.ofNat (48 + x)] 2 k6 rfl rfl (by simp [Lib.byteCells]; omega) rfl (by (try simp only [List.length_append, List.length_cons, List.length_nil, List.length_take]); omega) ?_)
      intro v7 w7 k7
      go_wp2_with fail
      go_ret
      refine ⟨_, rfl, ?_⟩
      have he : acc ++ eText true (l.take nd) (dp - 1) = acc ++ ([45] : List UInt8) ++ [l[0]] ++ ([46] : List UInt8) ++ (l.drop 1).take (nd - 1) ++ ([101] : List UInt8) ++ ([43] : List UInt8) ++ [48, UInt8.ofNat (48 + x)] := by
        have h1 := Hone.out
        unfold eText expD
        rw [t1.out, t2.out, t3.out, hx, if_neg (show ¬ nd ≤ 1 by omega), if_neg (show ¬ (x : Int) < 0 by omega), Int.natAbs_natCast, if_pos d1]
        simp
      rw [he]
      have hk : Wr w0 w7 5 h b l v7 (acc ++ ([45] : List UInt8) ++ [l[0]] ++ ([46] : List UInt8) ++ (l.drop 1).take (nd - 1) ++ ([101] : List UInt8) ++ ([43] : List UInt8) ++ [48, UInt8.ofNat (48 + x)]) := by simpa using k7
      exact hk
    · go_wp2_with (at_builtin; refine wr_lit rfl _ _ _ rfl Tryz.underlying58 infoByte [UInt8.ofNat (48 + x / 10), UInt8.ofNat (48 + x % 10)] 2 k6 rfl rfl (by simp [Lib.byteCells]; omega) rfl (by (try simp only [List.length_append, List.length_cons, List.length_nil, List.length_take]); omega) ?_)
      intro v7 w7 k7
      go_wp2_with fail
      go_ret
      refine ⟨_, rfl, ?_⟩
      have he : acc ++ eText true (l.take nd) (dp - 1) = acc ++ ([45] : List UInt8) ++ [l[0]] ++ ([46] : List UInt8) ++ (l.drop 1).take (nd - 1) ++ ([101] : List UInt8) ++ ([43] : List UInt8) ++ [UInt8.ofNat (48 + x / 10), UInt8.ofNat (48 + x % 10)] := by
        have h1 := Hone.out
        unfold eText expD
        rw [t1.out, t2.out, t3.out, hx, if_neg (show ¬ nd ≤ 1 by omega), if_neg (show ¬ (x : Int) < 0 by omega), Int.natAbs_natCast, if_neg (show ¬ x < 10 by omega), if_pos d1.2]
        simp
      rw [he]
      have hk : Wr w0 w7 5 h b l v7 (acc ++ ([45] : List UInt8) ++ [l[0]] ++ ([46] : List UInt8) ++ (l.drop 1).take (nd - 1) ++ ([101] : List UInt8) ++ ([43] : List UInt8) ++ [UInt8.ofNat (48 + x / 10), UInt8.ofNat (48 + x % 10)]) := by simpa using k7
      exact hk
    · go_wp2_with (at_builtin; refine wr_lit rfl _ _ _ rfl Tryz.underlying58 infoByte [UInt8.ofNat (48 + x / 100), UInt8.ofNat (48 + x / 10 % 10), UInt8.ofNat (48 + x % 10)] 3 k6 rfl rfl (by simp [Lib.byteCells]; omega) rfl (by (try simp only [List.length_append, List.length_cons, List.length_nil, List.length_take]); omega) ?_)
      intro v7 w7 k7
      go_wp2_with fail
      go_ret
      refine ⟨_, rfl, ?_⟩
      have he : acc ++ eText true (l.take nd) (dp - 1) = acc ++ ([45] : List UInt8) ++ [l[0]] ++ ([46] : List UInt8) ++ (l.drop 1).take (nd - 1) ++ ([101] : List UInt8) ++ ([43] : List UInt8) ++ [UInt8.ofNat (48 + x / 100), UInt8.ofNat (48 + x / 10 % 10), UInt8.ofNat (48 + x % 10)] := by
        have h1 := Hone.out
        unfold eText expD
        rw [t1.out, t2.out, t3.out, hx, if_neg (show ¬ nd ≤ 1 by omega), if_neg (show ¬ (x : Int) < 0 by omega), Int.natAbs_natCast, if_neg (show ¬ x < 10 by omega), if_neg (show ¬ x < 100 by omega)]
        simp
      rw [he]
      have hk : Wr w0 w7 5 h b l v7 (acc ++ ([45] : List UInt8) ++ [l[0]] ++ ([46] : List UInt8) ++ (l.drop 1).take (nd - 1) ++ ([101] : List UInt8) ++ ([43] : List UInt8) ++ [UInt8.ofNat (48 + x / 100), UInt8.ofNat (48 + x / 10 % 10), UInt8.ofNat (48 + x % 10)]) := by simpa using k7
      exact hk
set_option maxRecDepth 100000 in
set_option maxHeartbeats 2000000 in
theorem fmtE_mm (l : List UInt8) (dp : Int) (x : Nat) (hx : dp - 1 = -(x : Int)) (hx0 : 1 ≤ x) (hx1 : x < 1000) (nd : Nat) (h b : Nat) (v : Value) (acc : List UInt8) (c : Nat) (hacc : acc.length ≤ 100) (hnd : 1 ≤ nd) (hnd2 : nd ≤ l.length) (hll : l.length ≤ 32) (hc : l.length ≤ c) (hc2 : c ≤ 32) (w0 w : World) (k : Wr w0 w 5 h b l v acc) :
    Calls Tryz.prog 347 #[v, .bool true, .slice (some ⟨b, 0, none⟩) c c, .int .i64 dp, .int .i64 nd, .int .i64 ((nd : Int) - 1), .int .u8 101, .bool true] w fun e w' => ∃ v', e = .returned v' ∧ Wr w0 w' 5 h b l v' (acc ++ eText true (l.take nd) (dp - 1)) := by
  have t1 := Lib.hid (take_one l nd hnd hnd2)
  have t2 := Lib.hid (take_rest l nd)
  have t3 := Lib.hid (show (l.take nd).length = nd by rw [List.length_take]; omega)
  have hl0 : 0 < l.length := by omega
  have hnd0 : ((nd : Int) != 0) = true := by rw [bne_iff_ne]; omega
  have hnd1 : ((nd : Int) == 0) = false := by rw [beq_eq_false_iff_ne]; omega
  have hx2 : decide (-(x : Int) < 0) = true := decide_eq_true (by omega)
  go_enter Tryz.func347, Tryz.ntmps347
  go_wp2_with (at_builtin; refine wr_lit rfl _ _ _ rfl Tryz.underlying58 infoByte [45] 1 k rfl rfl rfl rfl (by (try simp only [List.length_append, List.length_cons, List.length_nil, List.length_take, List.length_drop]); omega) ?_)
  intro v1 w1 k1
  have hc0 := k1.cells 0 hl0
  go_wp2_with (at_builtin; refine wr_lit rfl _ _ _ rfl Tryz.underlying58 infoByte [l[0]] 1 k1 rfl rfl rfl rfl (by (try simp only [List.length_append, List.length_cons, List.length_nil]); omega) ?_)
  intro v2 w2 k2
  clear hc0
  by_cases hone : nd = 1
  · have p0 : (nd : Int) - 1 ≤ 0 := by omega
    have Hone := Lib.hid hone
    clear hone
    go_wp2_with (at_builtin; refine wr_lit rfl _ _ _ rfl Tryz.underlying58 infoByte [101] 1 k2 rfl rfl rfl rfl (by (try simp only [List.length_append, List.length_cons, List.length_nil]); omega) ?_)
    intro v3 w3 k3
    go_wp2_with (at_builtin; refine wr_lit rfl _ _ _ rfl Tryz.underlying58 infoByte [45] 1 k3 rfl rfl rfl rfl (by (try simp only [List.length_append, List.length_cons, List.length_nil]); omega) ?_)
    intro v4 w4 k4
    rcases (by omega : x < 10 ∨ (10 ≤ x ∧ x < 100) ∨ 100 ≤ x) with d1 | d1 | d1
    · go_wp2_with (at_builtin; refine wr_lit rfl _ _ _ rfl Tryz.underlying58 infoByte [48, UInt8.ofNat (48 + x)] 2 k4 rfl rfl (by simp [Lib.byteCells]; omega) rfl (by (try simp only [List.length_append, List.length_cons, List.length_nil]); omega) ?_)
      intro v5 w5 k5
      go_wp2_with fail
      go_ret
      refine ⟨_, rfl, ?_⟩
      have he : acc ++ eText true (l.take nd) (dp - 1) = acc ++ ([45] : List UInt8) ++ [l[0]] ++ ([101] : List UInt8) ++ ([45] : List UInt8) ++ [48, UInt8.ofNat (48 + x)] := by
        have h1 := Hone.out
        unfold eText expD
        rw [t1.out, t2.out, t3.out, hx, if_pos (show nd ≤ 1 by omega), if_pos (show -(x : Int) < 0 by omega), Int.natAbs_neg, Int.natAbs_natCast, if_pos d1]
        simp
      rw [he]
      have hk : Wr w0 w5 5 h b l v5 (acc ++ ([45] : List UInt8) ++ [l[0]] ++ ([101] : List UInt8) ++ ([45] : List UInt8) ++ [48, UInt8.ofNat (48 + x)]) := by simpa using k5
      exact hk
    · go_wp2_with (at_builtin; refine wr_lit rfl _ _ _ rfl Tryz.underlying58 infoByte [UInt8.ofNat (48 + x / 10), UInt8.ofNat (48 + x % 10)] 2 k4 rfl rfl (by simp [Lib.byteCells]; omega) rfl (by (try simp only [List.length_append, List.length_cons, List.length_nil]); omega) ?_)
      intro v5 w5 k5
      go_wp2_with fail
      go_ret
      refine ⟨_, rfl, ?_⟩
      have he : acc ++ eText true (l.take nd) (dp - 1) = acc ++ ([45] : List UInt8) ++ [l[0]] ++ ([101] : List UInt8) ++ ([45] : List UInt8) ++ [UInt8.ofNat (48 + x / 10), UInt8.ofNat (48 + x % 10)] := by
        have h1 := Hone.out
        unfold eText expD
        rw [t1.out, t2.out, t3.out, hx, if_pos (show nd ≤ 1 by omega), if_pos (show -(x : Int) < 0 by omega), Int.natAbs_neg, Int.natAbs_natCast, if_neg (show ¬ x < 10 by omega), if_pos d1.2]
        simp
      rw [he]
      have hk : Wr w0 w5 5 h b l v5 (acc ++ ([45] : List UInt8) ++ [l[0]] ++ ([101] : List UInt8) ++ ([45] : List UInt8) ++ [UInt8.ofNat (48 + x / 10), UInt8.ofNat (48 + x % 10)]) := by simpa using k5
      exact hk
    · go_wp2_with (at_builtin; refine wr_lit rfl _ _ _ rfl Tryz.underlying58 infoByte [UInt8.ofNat (48 + x / 100), UInt8.ofNat (48 + x / 10 % 10), UInt8.ofNat (48 + x % 10)] 3 k4 rfl rfl (by simp [Lib.byteCells]; omega) rfl (by (try simp only [List.length_append, List.length_cons, List.length_nil]); omega) ?_)
      intro v5 w5 k5
      go_wp2_with fail
      go_ret
      refine ⟨_, rfl, ?_⟩
      have he : acc ++ eText true (l.take nd) (dp - 1) = acc ++ ([45] : List UInt8) ++ [l[0]] ++ ([101] : List UInt8) ++ ([45] : List UInt8) ++ [UInt8.ofNat (48 + x / 100), UInt8.ofNat (48 + x / 10 % 10), UInt8.ofNat (48 + x % 10)] := by
        have h1 := Hone.out
        unfold eText expD
        rw [t1.out, t2.out, t3.out, hx, if_pos (show nd ≤ 1 by omega), if_pos (show -(x : Int) < 0 by omega), Int.natAbs_neg, Int.natAbs_natCast, if_neg (show ¬ x < 10 by omega), if_neg (show ¬ x < 100 by omega)]
        simp
      rw [he]
      have hk : Wr w0 w5 5 h b l v5 (acc ++ ([45] : List UInt8) ++ [l[0]] ++ ([101] : List UInt8) ++ ([45] : List UInt8) ++ [UInt8.ofNat (48 + x / 100), UInt8.ofNat (48 + x / 10 % 10), UInt8.ofNat (48 + x % 10)]) := by simpa using k5
      exact hk
  · have p0 : (0 : Int) < (nd : Int) - 1 := by omega
    have Hone := Lib.hid hone
    clear hone
    go_wp2_with (at_builtin; refine wr_lit rfl _ _ _ rfl Tryz.underlying58 infoByte [46] 1 k2 rfl rfl rfl rfl (by (try simp only [List.length_append, List.length_cons, List.length_nil]); omega) ?_)
    intro v3 w3 k3
    have p1 : (1 : Int) < (nd : Int) := by omega
    have p2 : (nd : Int) ≤ (c : Int) := by omega
    go_wp2_with (at_builtin; refine wr_src rfl _ _ _ rfl Tryz.underlying58 infoByte 1 (nd - 1) _ k3 rfl rfl (by omega) (by (try simp only [List.length_append, List.length_cons, List.length_nil]); omega) ?_)
    intro v4 w4 k4
    go_wp2_with fail
    refine wp_loop_rounds 1 ?_
    rw [rounds_succ]
    go_wp2_with (at_builtin; refine wr_lit rfl _ _ _ rfl Tryz.underlying58 infoByte [101] 1 k4 rfl rfl rfl rfl (by (try simp only [List.length_append, List.length_cons, List.length_take]); omega) ?_)
    intro v5 w5 k5
    go_wp2_with (at_builtin; refine wr_lit rfl _ _ _ rfl Tryz.underlying58 infoByte [45] 1 k5 rfl rfl rfl rfl (by (try simp only [List.length_append, List.length_cons, List.length_nil, List.length_take]); omega) ?_)
    intro v6 w6 k6
    rcases (by omega : x < 10 ∨ (10 ≤ x ∧ x < 100) ∨ 100 ≤ x) with d1 | d1 | d1
    · go_wp2_with (at_builtin; refine wr_lit rfl _ _ _ rfl Tryz.underlying58 infoByte [48, UInt8.ofNat (48 + x)] 2 k6 rfl rfl (by simp [Lib.byteCells]; omega) rfl (by (try simp only [List.length_append, List.length_cons, List.length_nil, List.length_take]); omega) ?_)
      intro v7 w7 k7
      go_wp2_with fail
      go_ret
      refine ⟨_, rfl, ?_⟩
      have he : acc ++ eText true (l.take nd) (dp - 1) = acc ++ ([45] : List UInt8) ++ [l[0]] ++ ([46] : List UInt8) ++ (l.drop 1).take (nd - 1) ++ ([101] : List UInt8) ++ ([45] : List UInt8) ++ [48, UInt8.ofNat (48 + x)] := by
        have h1 := Hone.out
        unfold eText expD
        rw [t1.out, t2.out, t3.out, hx, if_neg (show ¬ nd ≤ 1 by omega), if_pos (show -(x : Int) < 0 by omega), Int.natAbs_neg, Int.natAbs_natCast, if_pos d1]
        simp
      rw [he]
      have hk : Wr w0 w7 5 h b l v7 (acc ++ ([45] : List UInt8) ++ [l[0]] ++ ([46] : List UInt8) ++ (l.drop 1).take (nd - 1) ++ ([101] : List UInt8) ++ ([45] : List UInt8) ++ [48, UInt8.ofNat (48 + x)]) := by simpa using k7
      exact hk
    · go_wp2_with (at_builtin; refine wr_lit rfl _ _ _ rfl Tryz.underlying58 infoByte [UInt8.ofNat (48 + x / 10), UInt8.ofNat (48 + x % 10)] 2 k6 rfl rfl (by simp [Lib.byteCells]; omega) rfl (by (try simp only [List.length_append, List.length_cons, List.length_nil, List.length_take]); omega) ?_)
      intro v7 w7 k7
      go_wp2_with fail
      go_ret
      refine ⟨_, rfl, ?_⟩
      have he : acc ++ eText true (l.take nd) (dp - 1) = acc ++ ([45] : List UInt8) ++ [l[0]] ++ ([46] : List UInt8) ++ (l.drop 1).take (nd - 1) ++ ([101] : List UInt8) ++ ([45] : List UInt8) ++ [UInt8.ofNat (48 + x / 10), UInt8.ofNat (48 + x % 10)] := by
        have h1 := Hone.out
        unfold eText expD
        rw [t1.out, t2.out, t3.out, hx, if_neg (show ¬ nd ≤ 1 by omega), if_pos (show -(x : Int) < 0 by omega), Int.natAbs_neg, Int.natAbs_natCast, if_neg (show ¬ x < 10 by omega), if_pos d1.2]
        simp
      rw [he]
      have hk : Wr w0 w7 5 h b l v7 (acc ++ ([45] : List UInt8) ++ [l[0]] ++ ([46] : List UInt8) ++ (l.drop 1).take (nd - 1) ++ ([101] : List UInt8) ++ ([45] : List UInt8) ++ [UInt8.ofNat (48 + x / 10), UInt8.ofNat (48 + x % 10)]) := by simpa using k7
      exact hk
    · go_wp2_with (at_builtin; refine wr_lit rfl _ _ _ rfl Tryz.underlying58 infoByte [UInt8.ofNat (48 + x / 100), UInt8.ofNat (48 + x / 10 % 10), UInt8.ofNat (48 + x % 10)] 3 k6 rfl rfl (by simp [Lib.byteCells]; omega) rfl (by (try simp only [List.length_append, List.length_cons, List.length_nil, List.length_take]); omega) ?_)
      intro v7 w7 k7
      go_wp2_with fail
      go_ret
      refine ⟨_, rfl, ?_⟩
      have he : acc ++ eText true (l.take nd) (dp - 1) = acc ++ ([45] : List UInt8) ++ [l[0]] ++ ([46] : List UInt8) ++ (l.drop 1).take (nd - 1) ++ ([101] : List UInt8) ++ ([45] : List UInt8) ++ [UInt8.ofNat (48 + x / 100), UInt8.ofNat (48 + x / 10 % 10), UInt8.ofNat (48 + x % 10)] := by
        have h1 := Hone.out
        unfold eText expD
        rw [t1.out, t2.out, t3.out, hx, if_neg (show ¬ nd ≤ 1 by omega), if_pos (show -(x : Int) < 0 by omega), Int.natAbs_neg, Int.natAbs_natCast, if_neg (show ¬ x < 10 by omega), if_neg (show ¬ x < 100 by omega)]
        simp
      rw [he]
      have hk : Wr w0 w7 5 h b l v7 (acc ++ ([45] : List UInt8) ++ [l[0]] ++ ([46] : List UInt8) ++ (l.drop 1).take (nd - 1) ++ ([101] : List UInt8) ++ ([45] : List UInt8) ++ [UInt8.ofNat (48 + x / 100), UInt8.ofNat (48 + x / 10 % 10), UInt8.ofNat (48 + x % 10)]) := by simpa using k7
      exact hk
end Go.Proofs.YtpobdmkidopnnaaGreatDoor

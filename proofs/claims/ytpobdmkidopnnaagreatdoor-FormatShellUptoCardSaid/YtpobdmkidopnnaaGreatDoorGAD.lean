/- fmtEFG at 'f'. -/
import Derived.Test.YtpobdmkidopnnaaGreatDoorGAC
import Derived.WalkLawsBesides
import Derived.Laws.Externs
namespace Go.Proofs.YtpobdmkidopnnaaGreatDoor
open Go Go.RowKit

/-- The plain text: of digits l, the point behind the first dp of them. -/
def fText (neg : Bool) (l : List UInt8) (dp : Int) : List UInt8 :=
  (if neg then [45] else []) ++
  (if (l.length : Int) ≤ dp then l ++ List.replicate (dp.toNat - l.length) 48 else if 0 < dp then l.take dp.toNat ++ 46 :: l.drop dp.toNat else 48 :: 46 :: (List.replicate (-dp).toNat 48 ++ l))
theorem take_up (l : List UInt8) (q : Nat) (h : q < l.length) : l.take (q + 1) = l.take q ++ [l[q]] := by rw [List.take_succ_eq_append_getElem h]
theorem rep_up (q : Nat) : List.replicate (q + 1) (48 : UInt8) = List.replicate q 48 ++ [48] := by rw [List.replicate_succ']
set_option maxRecDepth 100000 in
set_option maxHeartbeats 2000000 in
theorem fmtF_A_p (l : List UInt8) (dp : Int) (nd : Nat) (d : Nat) (hdd : dp = (d : Int)) (hd : nd ≤ d) (hd2 : d ≤ 400) (h b : Nat) (v : Value) (acc : List UInt8) (c : Nat) (hacc : acc.length ≤ 100) (hnd : 1 ≤ nd) (hnd2 : nd ≤ l.length) (_hll : l.length ≤ 32) (hc : l.length ≤ c) (hc2 : c ≤ 32) (w0 w : World) (k : Wr w0 w 5 h b l v acc) :
    Calls Tryz.prog 347 #[v, .bool false, .slice (some ⟨b, 0, none⟩) c c, .int .i64 dp, .int .i64 nd, .int .i64 0, .int .u8 102, .bool true] w fun e w' => ∃ v', e = .returned v' ∧ Wr w0 w' 5 h b l v' (acc ++ fText false (l.take nd) dp) := by
  have t3 := Lib.hid (show (l.take nd).length = nd by rw [List.length_take]; omega)
  subst hdd
  have e0 : 0 < d := by omega
  have e1 : min (nd : Int) (d : Int) = (nd : Int) := by omega
  have e2 : (nd : Int) ≤ (c : Int) := by omega
  go_enter Tryz.func347, Tryz.ntmps347
  go_wp2_with fail
  go_loopw [0, 191] (fun v i wr => ∃ q : Nat, i = .int .i64 q ∧ q ≤ nd ∧ Wr w0 wr 5 h b l v (acc ++ l.take q)) (fun _ i _ => nd - (Go.RowKit.intOf i).toNat)
  case atStart => exact ⟨0, rfl, Nat.zero_le _, by simpa using k⟩
  case round =>
    obtain ⟨q, rfl, hq, kq1⟩ := hrel
    by_cases hlt : q < nd
    · have hql : q < l.length := by omega
      have hc0 := kq1.cells q hql
      have i0 : (0 : Int) ≤ (q : Int) := by omega
      have i1 : (q : Int) < (nd : Int) := by omega
      go_wp2_with (at_builtin; refine wr_lit rfl _ _ _ rfl Tryz.underlying58 infoByte [l[q]] 1 kq1 rfl rfl rfl rfl (by (try simp only [List.length_append, List.length_take]); omega) ?_)
      intro v2 w2 k2
      go_wp2_with fail
      go_roundw
      case rel => exact ⟨q + 1, by go_num, by omega, by rw [take_up l q hql]; simpa using k2⟩
      case measure => simp [Go.RowKit.intOf]; omega
    · obtain rfl : nd = q := by omega
      go_wp2_with fail
      go_loopw [0, 203] (fun v i wr => ∃ q : Nat, i = .int .i64 q ∧ q ≤ (d - nd) ∧ Wr w0 wr 5 h b l v ((acc ++ l.take nd) ++ List.replicate q (48 : UInt8))) (fun _ i _ => (d - nd) - (Go.RowKit.intOf i).toNat)
      case atStart => exact ⟨0, rfl, Nat.zero_le _, by simpa using kq1⟩
      case round =>
        obtain ⟨q, rfl, hq, kq3⟩ := hrel
        by_cases hlt : q < (d - nd)
        · have i0 : (0 : Int) ≤ (q : Int) := by omega
          have i1 : (q : Int) < (d : Int) - (nd : Int) := by omega
          go_wp2_with (at_builtin; refine wr_lit rfl _ _ _ rfl Tryz.underlying58 infoByte [48] 1 kq3 rfl rfl rfl rfl (by (try simp only [List.length_append, List.length_take, List.length_replicate]); omega) ?_)
          intro v4 w4 k4
          go_wp2_with fail
          go_roundw
          case rel => exact ⟨q + 1, by go_num, by omega, by rw [rep_up]; simpa using k4⟩
          case measure => simp [Go.RowKit.intOf]; omega
        · have hqe : q = (d - nd) := by omega
          go_wp2_with fail
          go_ret
          refine ⟨_, rfl, ?_⟩
          have he : acc ++ fText false (l.take nd) (d : Int) = (acc ++ l.take nd) ++ List.replicate (d - nd) (48 : UInt8) := by
            unfold fText
            rw [t3.out, if_pos (show (nd : Int) ≤ (d : Int) by omega), Int.toNat_natCast]
            simp
          rw [he]
          have hk := kq3
          try rw [hqe] at hk
          simpa using hk
set_option maxRecDepth 100000 in
set_option maxHeartbeats 2000000 in
theorem fmtF_A_m (l : List UInt8) (dp : Int) (nd : Nat) (d : Nat) (hdd : dp = (d : Int)) (hd : nd ≤ d) (hd2 : d ≤ 400) (h b : Nat) (v : Value) (acc : List UInt8) (c : Nat) (hacc : acc.length ≤ 100) (hnd : 1 ≤ nd) (hnd2 : nd ≤ l.length) (_hll : l.length ≤ 32) (hc : l.length ≤ c) (hc2 : c ≤ 32) (w0 w : World) (k : Wr w0 w 5 h b l v acc) :
    Calls Tryz.prog 347 #[v, .bool true, .slice (some ⟨b, 0, none⟩) c c, .int .i64 dp, .int .i64 nd, .int .i64 0, .int .u8 102, .bool true] w fun e w' => ∃ v', e = .returned v' ∧ Wr w0 w' 5 h b l v' (acc ++ fText true (l.take nd) dp) := by
  have t3 := Lib.hid (show (l.take nd).length = nd by rw [List.length_take]; omega)
  subst hdd
  have e0 : 0 < d := by omega
  have e1 : min (nd : Int) (d : Int) = (nd : Int) := by omega
  have e2 : (nd : Int) ≤ (c : Int) := by omega
  go_enter Tryz.func347, Tryz.ntmps347
  go_wp2_with (at_builtin; refine wr_lit rfl _ _ _ rfl Tryz.underlying58 infoByte [45] 1 k rfl rfl rfl rfl (by (try simp only [List.length_append, List.length_cons, List.length_nil, List.length_take, List.length_drop, List.length_replicate]); omega) ?_)
  intro v1 w1 k1
  go_wp2_with fail
  go_loopw [0, 191] (fun v i wr => ∃ q : Nat, i = .int .i64 q ∧ q ≤ nd ∧ Wr w0 wr 5 h b l v ((acc ++ [45]) ++ l.take q)) (fun _ i _ => nd - (Go.RowKit.intOf i).toNat)
  case atStart => exact ⟨0, rfl, Nat.zero_le _, by simpa using k1⟩
  case round =>
    obtain ⟨q, rfl, hq, kq2⟩ := hrel
    by_cases hlt : q < nd
    · have hql : q < l.length := by omega
      have hc0 := kq2.cells q hql
      have i0 : (0 : Int) ≤ (q : Int) := by omega
      have i1 : (q : Int) < (nd : Int) := by omega
      go_wp2_with (at_builtin; refine wr_lit rfl _ _ _ rfl Tryz.underlying58 infoByte [l[q]] 1 kq2 rfl rfl rfl rfl (by (try simp only [List.length_append, List.length_cons, List.length_nil, List.length_take]); omega) ?_)
      intro v3 w3 k3
      go_wp2_with fail
      go_roundw
      case rel => exact ⟨q + 1, by go_num, by omega, by rw [take_up l q hql]; simpa using k3⟩
      case measure => simp [Go.RowKit.intOf]; omega
    · obtain rfl : nd = q := by omega
      go_wp2_with fail
      go_loopw [0, 203] (fun v i wr => ∃ q : Nat, i = .int .i64 q ∧ q ≤ (d - nd) ∧ Wr w0 wr 5 h b l v (((acc ++ [45]) ++ l.take nd) ++ List.replicate q (48 : UInt8))) (fun _ i _ => (d - nd) - (Go.RowKit.intOf i).toNat)
      case atStart => exact ⟨0, rfl, Nat.zero_le _, by simpa using kq2⟩
      case round =>
        obtain ⟨q, rfl, hq, kq4⟩ := hrel
        by_cases hlt : q < (d - nd)
        · have i0 : (0 : Int) ≤ (q : Int) := by omega
          have i1 : (q : Int) < (d : Int) - (nd : Int) := by omega
          go_wp2_with (at_builtin; refine wr_lit rfl _ _ _ rfl Tryz.underlying58 infoByte [48] 1 kq4 rfl rfl rfl rfl (by (try simp only [List.length_append, List.length_cons, List.length_nil, List.length_take, List.length_replicate]); omega) ?_)
          intro v5 w5 k5
          go_wp2_with fail
          go_roundw
          case rel => exact ⟨q + 1, by go_num, by omega, by rw [rep_up]; simpa using k5⟩
          case measure => simp [Go.RowKit.intOf]; omega
        · have hqe : q = (d - nd) := by omega
          go_wp2_with fail
          go_ret
          refine ⟨_, rfl, ?_⟩
          have he : acc ++ fText true (l.take nd) (d : Int) = ((acc ++ [45]) ++ l.take nd) ++ List.replicate (d - nd) (48 : UInt8) := by
            unfold fText
            rw [t3.out, if_pos (show (nd : Int) ≤ (d : Int) by omega), Int.toNat_natCast]
            simp
          rw [he]
          have hk := kq4
          try rw [hqe] at hk
          simpa using hk
set_option maxRecDepth 100000 in
set_option maxHeartbeats 2000000 in
theorem fmtF_B_p (l : List UInt8) (dp : Int) (nd : Nat) (d : Nat) (hdd : dp = (d : Int)) (hd0 : 0 < d) (hd : d < nd) (h b : Nat) (v : Value) (acc : List UInt8) (c : Nat) (hacc : acc.length ≤ 100) (_hnd : 1 ≤ nd) (hnd2 : nd ≤ l.length) (hll : l.length ≤ 32) (hc : l.length ≤ c) (hc2 : c ≤ 32) (w0 w : World) (k : Wr w0 w 5 h b l v acc) :
    Calls Tryz.prog 347 #[v, .bool false, .slice (some ⟨b, 0, none⟩) c c, .int .i64 dp, .int .i64 nd, .int .i64 ((nd : Int) - (d : Int)), .int .u8 102, .bool true] w fun e w' => ∃ v', e = .returned v' ∧ Wr w0 w' 5 h b l v' (acc ++ fText false (l.take nd) dp) := by
  have t3 := Lib.hid (show (l.take nd).length = nd by rw [List.length_take]; omega)
  subst hdd
  have e0 : 0 < d := by omega
  have e1 : min (nd : Int) (d : Int) = (d : Int) := by omega
  have e2 : (d : Int) ≤ (c : Int) := by omega
  have p0 : (0 : Int) < (nd : Int) - (d : Int) := by omega
  have f1 : max (0 : Int) (-(d : Int)) = 0 := by omega
  have f2 : min ((nd : Int) - (d : Int)) 0 = 0 := by omega
  have f3 : max (0 : Int) ((nd : Int) - (d : Int)) = (nd : Int) - (d : Int) := by omega
  go_enter Tryz.func347, Tryz.ntmps347
  go_wp2_with fail
  go_loopw [0, 191] (fun v i wr => ∃ q : Nat, i = .int .i64 q ∧ q ≤ d ∧ Wr w0 wr 5 h b l v (acc ++ l.take q)) (fun _ i _ => d - (Go.RowKit.intOf i).toNat)
  case atStart => exact ⟨0, rfl, Nat.zero_le _, by simpa using k⟩
  case round =>
    obtain ⟨q, rfl, hq, kq1⟩ := hrel
    by_cases hlt : q < d
    · have hql : q < l.length := by omega
      have hc0 := kq1.cells q hql
      have i0 : (0 : Int) ≤ (q : Int) := by omega
      have i1 : (q : Int) < (d : Int) := by omega
      go_wp2_with (at_builtin; refine wr_lit rfl _ _ _ rfl Tryz.underlying58 infoByte [l[q]] 1 kq1 rfl rfl rfl rfl (by (try simp only [List.length_append, List.length_take]); omega) ?_)
      intro v2 w2 k2
      go_wp2_with fail
      go_roundw
      case rel => exact ⟨q + 1, by go_num, by omega, by rw [take_up l q hql]; simpa using k2⟩
      case measure => simp [Go.RowKit.intOf]; omega
    · obtain rfl : d = q := by omega
      go_wp2_with fail
      refine wp_loop_rounds 1 ?_
      rw [rounds_succ]
      go_wp2_with (at_builtin; refine wr_lit rfl _ _ _ rfl Tryz.underlying58 infoByte [46] 1 kq1 rfl rfl rfl rfl (by (try simp only [List.length_append, List.length_take]); omega) ?_)
      intro v3 w3 k3
      go_wp2_with fail
      refine wp_loop_rounds 1 ?_
      rw [rounds_succ]
      go_wp2_with fail
      go_loopw [0, 247] (fun v i wr => ∃ q : Nat, i = .int .i64 q ∧ q ≤ (nd - d) ∧ Wr w0 wr 5 h b l v (((acc ++ l.take d) ++ ([46] : List UInt8)) ++ (l.drop d).take q)) (fun _ i _ => (nd - d) - (Go.RowKit.intOf i).toNat)
      case atStart => exact ⟨0, rfl, Nat.zero_le _, by simpa using k3⟩
      case round =>
        obtain ⟨q, rfl, hq, kq4⟩ := hrel
        by_cases hlt : q < (nd - d)
        · have hql : d + q < l.length := by omega
          have hc0 := kq4.cells (d + q) hql
          have i0 : (0 : Int) ≤ (q : Int) := by omega
          have i1 : (q : Int) < (nd : Int) - (d : Int) := by omega
          have i2 : (0 : Int) ≤ (d : Int) + (q : Int) := by omega
          have i3 : (d : Int) + (q : Int) < (c : Int) := by omega
          have i4 : ((d : Int) + (q : Int)).toNat = d + q := by omega
          go_wp2_with (at_builtin; refine wr_lit rfl _ _ _ rfl Tryz.underlying58 infoByte [l[d + q]] 1 kq4 rfl rfl rfl rfl (by (try simp only [List.length_append, List.length_cons, List.length_nil, List.length_take, List.length_drop]); omega) ?_)
          intro v5 w5 k5
          go_wp2_with fail
          go_roundw
          case rel => exact ⟨q + 1, by go_num, by omega, by rw [take_up (l.drop d) q (by rw [List.length_drop]; omega), List.getElem_drop]; simpa using k5⟩
          case measure => simp [Go.RowKit.intOf]; omega
        · have hqe : q = (nd - d) := by omega
          go_wp2_with fail
          refine wp_loop_rounds 1 ?_
          rw [rounds_succ]
          go_wp2_with fail
          go_ret
          refine ⟨_, rfl, ?_⟩
          have he : acc ++ fText false (l.take nd) (d : Int) = ((acc ++ l.take d) ++ ([46] : List UInt8)) ++ (l.drop d).take (nd - d) := by
            unfold fText
            rw [t3.out, if_neg (show ¬ (nd : Int) ≤ (d : Int) by omega), if_pos (show (0 : Int) < (d : Int) by omega), Int.toNat_natCast, List.take_take, Nat.min_eq_left (by omega), List.drop_take]
            simp
          rw [he]
          have hk := kq4
          try rw [hqe] at hk
          simpa using hk
set_option maxRecDepth 100000 in
set_option maxHeartbeats 2000000 in
theorem fmtF_B_m (l : List UInt8) (dp : Int) (nd : Nat) (d : Nat) (hdd : dp = (d : Int)) (hd0 : 0 < d) (hd : d < nd) (h b : Nat) (v : Value) (acc : List UInt8) (c : Nat) (hacc : acc.length ≤ 100) (_hnd : 1 ≤ nd) (hnd2 : nd ≤ l.length) (hll : l.length ≤ 32) (hc : l.length ≤ c) (hc2 : c ≤ 32) (w0 w : World) (k : Wr w0 w 5 h b l v acc) :
    Calls Tryz.prog 347 #[v, .bool true, .slice (some ⟨b, 0, none⟩) c c, .int .i64 dp, .int .i64 nd, .int .i64 ((nd : Int) - (d : Int)), .int .u8 102, .bool true] w fun e w' => ∃ v', e = .returned v' ∧ Wr w0 w' 5 h b l v' (acc ++ fText true (l.take nd) dp) := by
  have t3 := Lib.hid (show (l.take nd).length = nd by rw [List.length_take]; omega)
  subst hdd
  have e0 : 0 < d := by omega
  have e1 : min (nd : Int) (d : Int) = (d : Int) := by omega
  have e2 : (d : Int) ≤ (c : Int) := by omega
  have p0 : (0 : Int) < (nd : Int) - (d : Int) := by omega
  have f1 : max (0 : Int) (-(d : Int)) = 0 := by omega
  have f2 : min ((nd : Int) - (d : Int)) 0 = 0 := by omega
  have f3 : max (0 : Int) ((nd : Int) - (d : Int)) = (nd : Int) - (d : Int) := by omega
  go_enter Tryz.func347, Tryz.ntmps347
  go_wp2_with (at_builtin; refine wr_lit rfl _ _ _ rfl Tryz.underlying58 infoByte [45] 1 k rfl rfl rfl rfl (by (try simp only [List.length_append, List.length_cons, List.length_nil, List.length_take, List.length_drop, List.length_replicate]); omega) ?_)
  intro v1 w1 k1
  go_wp2_with fail
  go_loopw [0, 191] (fun v i wr => ∃ q : Nat, i = .int .i64 q ∧ q ≤ d ∧ Wr w0 wr 5 h b l v ((acc ++ [45]) ++ l.take q)) (fun _ i _ => d - (Go.RowKit.intOf i).toNat)
  case atStart => exact ⟨0, rfl, Nat.zero_le _, by simpa using k1⟩
  case round =>
    obtain ⟨q, rfl, hq, kq2⟩ := hrel
    by_cases hlt : q < d
    · have hql : q < l.length := by omega
      have hc0 := kq2.cells q hql
      have i0 : (0 : Int) ≤ (q : Int) := by omega
      have i1 : (q : Int) < (d : Int) := by omega
      go_wp2_with (at_builtin; refine wr_lit rfl _ _ _ rfl Tryz.underlying58 infoByte [l[q]] 1 kq2 rfl rfl rfl rfl (by (try simp only [List.length_append, List.length_cons, List.length_nil, List.length_take]); omega) ?_)
      intro v3 w3 k3
      go_wp2_with fail
      go_roundw
      case rel => exact ⟨q + 1, by go_num, by omega, by rw [take_up l q hql]; simpa using k3⟩
      case measure => simp [Go.RowKit.intOf]; omega
    · obtain rfl : d = q := by omega
      go_wp2_with fail
      refine wp_loop_rounds 1 ?_
      rw [rounds_succ]
      go_wp2_with (at_builtin; refine wr_lit rfl _ _ _ rfl Tryz.underlying58 infoByte [46] 1 kq2 rfl rfl rfl rfl (by (try simp only [List.length_append, List.length_cons, List.length_nil, List.length_take]); omega) ?_)
      intro v4 w4 k4
      go_wp2_with fail
      refine wp_loop_rounds 1 ?_
      rw [rounds_succ]
      go_wp2_with fail
      go_loopw [0, 247] (fun v i wr => ∃ q : Nat, i = .int .i64 q ∧ q ≤ (nd - d) ∧ Wr w0 wr 5 h b l v ((((acc ++ [45]) ++ l.take d) ++ ([46] : List UInt8)) ++ (l.drop d).take q)) (fun _ i _ => (nd - d) - (Go.RowKit.intOf i).toNat)
      case atStart => exact ⟨0, rfl, Nat.zero_le _, by simpa using k4⟩
      case round =>
        obtain ⟨q, rfl, hq, kq5⟩ := hrel
        by_cases hlt : q < (nd - d)
        · have hql : d + q < l.length := by omega
          have hc0 := kq5.cells (d + q) hql
          have i0 : (0 : Int) ≤ (q : Int) := by omega
          have i1 : (q : Int) < (nd : Int) - (d : Int) := by omega
          have i2 : (0 : Int) ≤ (d : Int) + (q : Int) := by omega
          have i3 : (d : Int) + (q : Int) < (c : Int) := by omega
          have i4 : ((d : Int) + (q : Int)).toNat = d + q := by omega
          go_wp2_with (at_builtin; refine wr_lit rfl _ _ _ rfl Tryz.underlying58 infoByte [l[d + q]] 1 kq5 rfl rfl rfl rfl (by (try simp only [List.length_append, List.length_cons, List.length_nil, List.length_take, List.length_drop]); omega) ?_)
          intro v6 w6 k6
          go_wp2_with fail
          go_roundw
          case rel => exact ⟨q + 1, by go_num, by omega, by rw [take_up (l.drop d) q (by rw [List.length_drop]; omega), List.getElem_drop]; simpa using k6⟩
          case measure => simp [Go.RowKit.intOf]; omega
        · have hqe : q = (nd - d) := by omega
          go_wp2_with fail
          refine wp_loop_rounds 1 ?_
          rw [rounds_succ]
          go_wp2_with fail
          go_ret
          refine ⟨_, rfl, ?_⟩
          have he : acc ++ fText true (l.take nd) (d : Int) = (((acc ++ [45]) ++ l.take d) ++ ([46] : List UInt8)) ++ (l.drop d).take (nd - d) := by
            unfold fText
            rw [t3.out, if_neg (show ¬ (nd : Int) ≤ (d : Int) by omega), if_pos (show (0 : Int) < (d : Int) by omega), Int.toNat_natCast, List.take_take, Nat.min_eq_left (by omega), List.drop_take]
            simp
          rw [he]
          have hk := kq5
          try rw [hqe] at hk
          simpa using hk
set_option maxRecDepth 100000 in
set_option maxHeartbeats 2000000 in
theorem fmtF_C_p (l : List UInt8) (dp : Int) (nd : Nat) (d : Nat) (hdd : dp = -(d : Int)) (hd2 : d ≤ 400) (h b : Nat) (v : Value) (acc : List UInt8) (c : Nat) (hacc : acc.length ≤ 100) (hnd : 1 ≤ nd) (hnd2 : nd ≤ l.length) (_hll : l.length ≤ 32) (hc : l.length ≤ c) (hc2 : c ≤ 32) (w0 w : World) (k : Wr w0 w 5 h b l v acc) :
    Calls Tryz.prog 347 #[v, .bool false, .slice (some ⟨b, 0, none⟩) c c, .int .i64 dp, .int .i64 nd, .int .i64 ((nd : Int) + (d : Int)), .int .u8 102, .bool true] w fun e w' => ∃ v', e = .returned v' ∧ Wr w0 w' 5 h b l v' (acc ++ fText false (l.take nd) dp) := by
  have t3 := Lib.hid (show (l.take nd).length = nd by rw [List.length_take]; omega)
  subst hdd
  have e0 : decide ((0 : Int) < -(d : Int)) = false := decide_eq_false (by omega)
  have p0 : (0 : Int) < (nd : Int) + (d : Int) := by omega
  have f0 : -(d : Int) + (d : Int) = 0 := by omega
  have f1 : max (0 : Int) (d : Int) = (d : Int) := by omega
  have f2 : min ((nd : Int) + (d : Int)) (d : Int) = (d : Int) := by omega
  have f3 : max (0 : Int) (nd : Int) = (nd : Int) := by omega
  go_enter Tryz.func347, Tryz.ntmps347
  go_wp2_with (at_builtin; refine wr_lit rfl _ _ _ rfl Tryz.underlying58 infoByte [48] 1 k rfl rfl rfl rfl (by (try simp only [List.length_append, List.length_cons, List.length_nil, List.length_take, List.length_drop, List.length_replicate]); omega) ?_)
  intro v1 w1 k1
  go_wp2_with (at_builtin; refine wr_lit rfl _ _ _ rfl Tryz.underlying58 infoByte [46] 1 k1 rfl rfl rfl rfl (by (try simp only [List.length_append, List.length_cons, List.length_nil]); omega) ?_)
  intro v2 w2 k2
  go_wp2_with fail
  go_loopw [0, 240] (fun v i wr => ∃ q : Nat, i = .int .i64 q ∧ q ≤ d ∧ Wr w0 wr 5 h b l v (((acc ++ ([48] : List UInt8)) ++ ([46] : List UInt8)) ++ List.replicate q (48 : UInt8))) (fun _ i _ => d - (Go.RowKit.intOf i).toNat)
  case atStart => exact ⟨0, rfl, Nat.zero_le _, by simpa using k2⟩
  case round =>
    obtain ⟨q, rfl, hq, kq3⟩ := hrel
    by_cases hlt : q < d
    · have i0 : (0 : Int) ≤ (q : Int) := by omega
      have i1 : (q : Int) < (d : Int) := by omega
      go_wp2_with (at_builtin; refine wr_lit rfl _ _ _ rfl Tryz.underlying58 infoByte [48] 1 kq3 rfl rfl rfl rfl (by (try simp only [List.length_append, List.length_cons, List.length_nil, List.length_replicate]); omega) ?_)
      intro v4 w4 k4
      go_wp2_with fail
      go_roundw
      case rel => exact ⟨q + 1, by go_num, by omega, by rw [rep_up]; simpa using k4⟩
      case measure => simp [Go.RowKit.intOf]; omega
    · obtain rfl : d = q := by omega
      go_wp2_with fail
      go_loopw [0, 247] (fun v i wr => ∃ q : Nat, i = .int .i64 q ∧ q ≤ nd ∧ Wr w0 wr 5 h b l v ((((acc ++ ([48] : List UInt8)) ++ ([46] : List UInt8)) ++ List.replicate d (48 : UInt8)) ++ l.take q)) (fun _ i _ => nd - (Go.RowKit.intOf i).toNat)
      case atStart => exact ⟨0, rfl, Nat.zero_le _, by simpa using kq3⟩
      case round =>
        obtain ⟨q, rfl, hq, kq5⟩ := hrel
        by_cases hlt : q < nd
        · have hql : q < l.length := by omega
          have hc0 := kq5.cells q hql
          have i0 : (0 : Int) ≤ (q : Int) := by omega
          have i1 : (q : Int) < (nd : Int) := by omega
          have i2 : (q : Int) < (c : Int) := by omega
          go_wp2_with (at_builtin; refine wr_lit rfl _ _ _ rfl Tryz.underlying58 infoByte [l[q]] 1 kq5 rfl rfl rfl rfl (by (try simp only [List.length_append, List.length_cons, List.length_nil, List.length_take, List.length_replicate]); omega) ?_)
          intro v6 w6 k6
          go_wp2_with fail
          go_roundw
          case rel => exact ⟨q + 1, by go_num, by omega, by rw [take_up l q hql]; simpa using k6⟩
          case measure => simp [Go.RowKit.intOf]; omega
        · obtain rfl : nd = q := by omega
          go_wp2_with fail
          refine wp_loop_rounds 1 ?_
          rw [rounds_succ]
          go_wp2_with fail
          go_ret
          refine ⟨_, rfl, ?_⟩
          have he : acc ++ fText false (l.take nd) (-(d : Int)) = (((acc ++ ([48] : List UInt8)) ++ ([46] : List UInt8)) ++ List.replicate d (48 : UInt8)) ++ l.take nd := by
            unfold fText
            rw [t3.out, if_neg (show ¬ (nd : Int) ≤ -(d : Int) by omega), if_neg (show ¬ (0 : Int) < -(d : Int) by omega), Int.neg_neg, Int.toNat_natCast]
            simp
          rw [he]
          have hk := kq5
          try rw [hqe] at hk
          simpa using hk
set_option maxRecDepth 100000 in
set_option maxHeartbeats 2000000 in
theorem fmtF_C_m (l : List UInt8) (dp : Int) (nd : Nat) (d : Nat) (hdd : dp = -(d : Int)) (hd2 : d ≤ 400) (h b : Nat) (v : Value) (acc : List UInt8) (c : Nat) (hacc : acc.length ≤ 100) (hnd : 1 ≤ nd) (hnd2 : nd ≤ l.length) (_hll : l.length ≤ 32) (hc : l.length ≤ c) (hc2 : c ≤ 32) (w0 w : World) (k : Wr w0 w 5 h b l v acc) :
    Calls Tryz.prog 347 #[v, .bool true, .slice (some ⟨b, 0, none⟩) c c, .int .i64 dp, .int .i64 nd, .int .i64 ((nd : Int) + (d : Int)), .int .u8 102, .bool true] w fun e w' => ∃ v', e = .returned v' ∧ Wr w0 w' 5 h b l v' (acc ++ fText true (l.take nd) dp) := by
  have t3 := Lib.hid (show (l.take nd).length = nd by rw [List.length_take]; omega)
  subst hdd
  have e0 : decide ((0 : Int) < -(d : Int)) = false := decide_eq_false (by omega)
  have p0 : (0 : Int) < (nd : Int) + (d : Int) := by omega
  have f0 : -(d : Int) + (d : Int) = 0 := by omega
  have f1 : max (0 : Int) (d : Int) = (d : Int) := by omega
  have f2 : min ((nd : Int) + (d : Int)) (d : Int) = (d : Int) := by omega
  have f3 : max (0 : Int) (nd : Int) = (nd : Int) := by omega
  go_enter Tryz.func347, Tryz.ntmps347
  go_wp2_with (at_builtin; refine wr_lit rfl _ _ _ rfl Tryz.underlying58 infoByte [45] 1 k rfl rfl rfl rfl (by (try simp only [List.length_append, List.length_cons, List.length_nil, List.length_take, List.length_drop, List.length_replicate]); omega) ?_)
  intro v1 w1 k1
  go_wp2_with (at_builtin; refine wr_lit rfl _ _ _ rfl Tryz.underlying58 infoByte [48] 1 k1 rfl rfl rfl rfl (by (try simp only [List.length_append, List.length_cons, List.length_nil]); omega) ?_)
  intro v2 w2 k2
  go_wp2_with (at_builtin; refine wr_lit rfl _ _ _ rfl Tryz.underlying58 infoByte [46] 1 k2 rfl rfl rfl rfl (by (try simp only [List.length_append, List.length_cons, List.length_nil]); omega) ?_)
  intro v3 w3 k3
  go_wp2_with fail
  go_loopw [0, 240] (fun v i wr => ∃ q : Nat, i = .int .i64 q ∧ q ≤ d ∧ Wr w0 wr 5 h b l v ((((acc ++ [45]) ++ ([48] : List UInt8)) ++ ([46] : List UInt8)) ++ List.replicate q (48 : UInt8))) (fun _ i _ => d - (Go.RowKit.intOf i).toNat)
  case atStart => exact ⟨0, rfl, Nat.zero_le _, by simpa using k3⟩
  case round =>
    obtain ⟨q, rfl, hq, kq4⟩ := hrel
    by_cases hlt : q < d
    · have i0 : (0 : Int) ≤ (q : Int) := by omega
      have i1 : (q : Int) < (d : Int) := by omega
      go_wp2_with (at_builtin; refine wr_lit rfl _ _ _ rfl Tryz.underlying58 infoByte [48] 1 kq4 rfl rfl rfl rfl (by (try simp only [List.length_append, List.length_cons, List.length_nil, List.length_replicate]); omega) ?_)
      intro v5 w5 k5
      go_wp2_with fail
      go_roundw
      case rel => exact ⟨q + 1, by go_num, by omega, by rw [rep_up]; simpa using k5⟩
      case measure => simp [Go.RowKit.intOf]; omega
    · obtain rfl : d = q := by omega
      go_wp2_with fail
      go_loopw [0, 247] (fun v i wr => ∃ q : Nat, i = .int .i64 q ∧ q ≤ nd ∧ Wr w0 wr 5 h b l v (((((acc ++ [45]) ++ ([48] : List UInt8)) ++ ([46] : List UInt8)) ++ List.replicate d (48 : UInt8)) ++ l.take q)) (fun _ i _ => nd - (Go.RowKit.intOf i).toNat)
      case atStart => exact ⟨0, rfl, Nat.zero_le _, by simpa using kq4⟩
      case round =>
        obtain ⟨q, rfl, hq, kq6⟩ := hrel
        by_cases hlt : q < nd
        · have hql : q < l.length := by omega
          have hc0 := kq6.cells q hql
          have i0 : (0 : Int) ≤ (q : Int) := by omega
          have i1 : (q : Int) < (nd : Int) := by omega
          have i2 : (q : Int) < (c : Int) := by omega
          go_wp2_with (at_builtin; refine wr_lit rfl _ _ _ rfl Tryz.underlying58 infoByte [l[q]] 1 kq6 rfl rfl rfl rfl (by (try simp only [List.length_append, List.length_cons, List.length_nil, List.length_take, List.length_replicate]); omega) ?_)
          intro v7 w7 k7
          go_wp2_with fail
          go_roundw
          case rel => exact ⟨q + 1, by go_num, by omega, by rw [take_up l q hql]; simpa using k7⟩
          case measure => simp [Go.RowKit.intOf]; omega
        · obtain rfl : nd = q := by omega
          go_wp2_with fail
          refine wp_loop_rounds 1 ?_
          rw [rounds_succ]
          go_wp2_with fail
          go_ret
          refine ⟨_, rfl, ?_⟩
          have he : acc ++ fText true (l.take nd) (-(d : Int)) = ((((acc ++ [45]) ++ ([48] : List UInt8)) ++ ([46] : List UInt8)) ++ List.replicate d (48 : UInt8)) ++ l.take nd := by
            unfold fText
            rw [t3.out, if_neg (show ¬ (nd : Int) ≤ -(d : Int) by omega), if_neg (show ¬ (0 : Int) < -(d : Int) by omega), Int.neg_neg, Int.toNat_natCast]
            simp
          rw [he]
          have hk := kq6
          try rw [hqe] at hk
          simpa using hk
end Go.Proofs.YtpobdmkidopnnaaGreatDoor
namespace Go.Proofs.YtpobdmkidopnnaaGreatDoor
open Go Go.RowKit

theorem fmtE_all (neg : Bool) (l : List UInt8) (dp : Int) (nd : Nat) (h b : Nat) (v : Value) (acc : List UInt8) (c : Nat) (hacc : acc.length ≤ 100) (hnd : 1 ≤ nd) (hnd2 : nd ≤ l.length) (hll : l.length ≤ 32) (hc : l.length ≤ c) (hc2 : c ≤ 32) (hdp : -400 ≤ dp ∧ dp ≤ 400) (w0 w : World) (k : Wr w0 w 5 h b l v acc) :
    Calls Tryz.prog 347 #[v, .bool neg, .slice (some ⟨b, 0, none⟩) c c, .int .i64 dp, .int .i64 nd, .int .i64 ((nd : Int) - 1), .int .u8 101, .bool true] w fun e w' => ∃ v', e = .returned v' ∧ Wr w0 w' 5 h b l v' (acc ++ eText neg (l.take nd) (dp - 1)) := by
  by_cases h0 : 0 ≤ dp - 1
  · obtain ⟨x, hx⟩ := Int.eq_ofNat_of_zero_le h0
    cases neg
    · exact fmtE_pp l dp x hx (by omega) (by omega) nd h b v acc c hacc hnd hnd2 hll hc hc2 w0 w k
    · exact fmtE_mp l dp x hx (by omega) (by omega) nd h b v acc c hacc hnd hnd2 hll hc hc2 w0 w k
  · obtain ⟨x, hx⟩ := Int.eq_ofNat_of_zero_le (by omega : 0 ≤ -(dp - 1))
    have hx' : dp - 1 = -(x : Int) := by omega
    cases neg
    · exact fmtE_pm l dp x hx' (by omega) (by omega) nd h b v acc c hacc hnd hnd2 hll hc hc2 w0 w k
    · exact fmtE_mm l dp x hx' (by omega) (by omega) nd h b v acc c hacc hnd hnd2 hll hc hc2 w0 w k
theorem fmtF_all (neg : Bool) (l : List UInt8) (dp : Int) (nd : Nat) (q : Int) (hq : q = max ((nd : Int) - dp) 0) (h b : Nat) (v : Value) (acc : List UInt8) (c : Nat) (hacc : acc.length ≤ 100) (hnd : 1 ≤ nd) (hnd2 : nd ≤ l.length) (hll : l.length ≤ 32) (hc : l.length ≤ c) (hc2 : c ≤ 32) (hdp : -400 ≤ dp ∧ dp ≤ 400) (w0 w : World) (k : Wr w0 w 5 h b l v acc) :
    Calls Tryz.prog 347 #[v, .bool neg, .slice (some ⟨b, 0, none⟩) c c, .int .i64 dp, .int .i64 nd, .int .i64 q, .int .u8 102, .bool true] w fun e w' => ∃ v', e = .returned v' ∧ Wr w0 w' 5 h b l v' (acc ++ fText neg (l.take nd) dp) := by
  by_cases h0 : 0 < dp
  · obtain ⟨d, hd⟩ := Int.eq_ofNat_of_zero_le (by omega : 0 ≤ dp)
    by_cases h1 : nd ≤ d
    · obtain rfl : q = 0 := by omega
      cases neg
      · exact fmtF_A_p l dp nd d hd h1 (by omega) h b v acc c hacc hnd hnd2 hll hc hc2 w0 w k
      · exact fmtF_A_m l dp nd d hd h1 (by omega) h b v acc c hacc hnd hnd2 hll hc hc2 w0 w k
    · obtain rfl : q = (nd : Int) - (d : Int) := by omega
      cases neg
      · exact fmtF_B_p l dp nd d hd (by omega) (by omega) h b v acc c hacc hnd hnd2 hll hc hc2 w0 w k
      · exact fmtF_B_m l dp nd d hd (by omega) (by omega) h b v acc c hacc hnd hnd2 hll hc hc2 w0 w k
  · obtain ⟨d, hd⟩ := Int.eq_ofNat_of_zero_le (by omega : 0 ≤ -dp)
    have hd' : dp = -(d : Int) := by omega
    obtain rfl : q = (nd : Int) + (d : Int) := by omega
    cases neg
    · exact fmtF_C_p l dp nd d hd' (by omega) h b v acc c hacc hnd hnd2 hll hc hc2 w0 w k
    · exact fmtF_C_m l dp nd d hd' (by omega) h b v acc c hacc hnd hnd2 hll hc hc2 w0 w k

set_option maxRecDepth 100000 in
set_option maxHeartbeats 1000000 in
theorem fmtE_zero (neg : Bool) (h b : Nat) (l : List UInt8) (v : Value) (acc : List UInt8) (hacc : acc.length ≤ 100) (w0 w : World) (k : Wr w0 w 5 h b l v acc) :
    Calls Tryz.prog 347 #[v, .bool neg, .slice none 0 0, .int .i64 0, .int .i64 0, .int .i64 (-1), .int .u8 101, .bool true] w fun e w' => ∃ v', e = .returned v' ∧ Wr w0 w' 5 h b l v' (acc ++ ((if neg then [45] else []) ++ [48, 101, 43, 48, 48])) := by
  cases neg
  · go_enter Tryz.func347, Tryz.ntmps347
    go_wp2_with (at_builtin; refine wr_lit rfl _ _ _ rfl Tryz.underlying58 infoByte [48] 1 k rfl rfl rfl rfl (by omega) ?_)
    intro v1 w1 k1
    go_wp2_with (at_builtin; refine wr_lit rfl _ _ _ rfl Tryz.underlying58 infoByte [101] 1 k1 rfl rfl rfl rfl (by simp only [List.length_append, List.length_cons, List.length_nil]; omega) ?_)
    intro v2 w2 k2
    go_wp2_with (at_builtin; refine wr_lit rfl _ _ _ rfl Tryz.underlying58 infoByte [43] 1 k2 rfl rfl rfl rfl (by simp only [List.length_append, List.length_cons, List.length_nil]; omega) ?_)
    intro v3 w3 k3
    go_wp2_with (at_builtin; refine wr_lit rfl _ _ _ rfl Tryz.underlying58 infoByte [48, 48] 2 k3 rfl rfl rfl rfl (by simp only [List.length_append, List.length_cons, List.length_nil]; omega) ?_)
    intro v4 w4 k4
    go_wp2_with fail
    go_ret
    exact ⟨_, rfl, by simpa using k4⟩
  · go_enter Tryz.func347, Tryz.ntmps347
    go_wp2_with (at_builtin; refine wr_lit rfl _ _ _ rfl Tryz.underlying58 infoByte [45] 1 k rfl rfl rfl rfl (by omega) ?_)
    intro v0 w9 k0
    go_wp2_with (at_builtin; refine wr_lit rfl _ _ _ rfl Tryz.underlying58 infoByte [48] 1 k0 rfl rfl rfl rfl (by simp only [List.length_append, List.length_cons, List.length_nil]; omega) ?_)
    intro v1 w1 k1
    go_wp2_with (at_builtin; refine wr_lit rfl _ _ _ rfl Tryz.underlying58 infoByte [101] 1 k1 rfl rfl rfl rfl (by simp only [List.length_append, List.length_cons, List.length_nil]; omega) ?_)
    intro v2 w2 k2
    go_wp2_with (at_builtin; refine wr_lit rfl _ _ _ rfl Tryz.underlying58 infoByte [43] 1 k2 rfl rfl rfl rfl (by simp only [List.length_append, List.length_cons, List.length_nil]; omega) ?_)
    intro v3 w3 k3
    go_wp2_with (at_builtin; refine wr_lit rfl _ _ _ rfl Tryz.underlying58 infoByte [48, 48] 2 k3 rfl rfl rfl rfl (by simp only [List.length_append, List.length_cons, List.length_nil]; omega) ?_)
    intro v4 w4 k4
    go_wp2_with fail
    go_ret
    exact ⟨_, rfl, by simpa using k4⟩
set_option maxRecDepth 100000 in
set_option maxHeartbeats 1000000 in
theorem fmtF_zero (neg : Bool) (h b : Nat) (l : List UInt8) (v : Value) (acc : List UInt8) (hacc : acc.length ≤ 100) (w0 w : World) (k : Wr w0 w 5 h b l v acc) :
    Calls Tryz.prog 347 #[v, .bool neg, .slice none 0 0, .int .i64 0, .int .i64 0, .int .i64 (-1), .int .u8 102, .bool true] w fun e w' => ∃ v', e = .returned v' ∧ Wr w0 w' 5 h b l v' (acc ++ ((if neg then [45] else []) ++ [48])) := by
  cases neg
  · go_enter Tryz.func347, Tryz.ntmps347
    go_wp2_with (at_builtin; refine wr_lit rfl _ _ _ rfl Tryz.underlying58 infoByte [48] 1 k rfl rfl rfl rfl (by omega) ?_)
    intro v1 w1 k1
    go_wp2_with fail
    go_ret
    exact ⟨_, rfl, by simpa using k1⟩
  · go_enter Tryz.func347, Tryz.ntmps347
    go_wp2_with (at_builtin; refine wr_lit rfl _ _ _ rfl Tryz.underlying58 infoByte [45] 1 k rfl rfl rfl rfl (by omega) ?_)
    intro v0 w9 k0
    go_wp2_with (at_builtin; refine wr_lit rfl _ _ _ rfl Tryz.underlying58 infoByte [48] 1 k0 rfl rfl rfl rfl (by simp only [List.length_append, List.length_cons, List.length_nil]; omega) ?_)
    intro v1 w1 k1
    go_wp2_with fail
    go_ret
    exact ⟨_, rfl, by simpa using k1⟩
end Go.Proofs.YtpobdmkidopnnaaGreatDoor
namespace Go.Proofs.YtpobdmkidopnnaaGreatDoor
open Go Go.RowKit

theorem bits_math (b : Nat) (w : World) : (callFunc 97 #[.float .f64 b]).run Tryz.prog w = .ok (.value (.int .u64 b)) w := by
  rw [run_callFunc_extern Tryz.func97 (by kernel_rfl) (by kernel_rfl) (by kernel_rfl) (e := Extern.MathFloatBits.float64bits) (by kernel_rfl)]
  rfl
theorem from_math (b : Int) (w : World) : (callFunc 307 #[.int .u64 b]).run Tryz.prog w = .ok (.value (.float .f64 b.toNat)) w := by
  rw [run_callFunc_extern Tryz.func307 (by kernel_rfl) (by kernel_rfl) (by kernel_rfl) (e := Extern.MathFloatBits.float64frombits) (by kernel_rfl)]
  rfl
theorem bits_conv (b : Nat) (w : World) : (callFunc 344 #[.float .f64 b]).run Tryz.prog w = .ok (.value (.int .u64 b)) w := by
  rw [run_callFunc_extern Tryz.func344 (by kernel_rfl) (by kernel_rfl) (by kernel_rfl) (e := Extern.MathFloatBits.float64bits) (by kernel_rfl)]
  rfl
def absB (b : Nat) : Nat := (bits .andNot .u64 (b : Int) 9223372036854775808).toNat
set_option maxRecDepth 100000 in
set_option maxHeartbeats 400000 in
theorem Abs_any (b : Nat) (w : World) : Calls Tryz.prog 289 #[.float .f64 b] w fun e w' => e = .returned (.float .f64 (absB b)) ∧ w = w' := by
  have h1 := bits_math
  have h2 := from_math
  go_enter Tryz.func289, Tryz.ntmps289
  go_wp2_with fail
  go_ret
  exact ⟨rfl, rfl⟩

end Go.Proofs.YtpobdmkidopnnaaGreatDoor

/- ftoa64 and FormatFloat at 'e' and 'f', as short as may be: every finite double. -/
import Derived.Test.YtamgdmmijlbjjaaGreatDoorNFF
import Derived.Test.YtamgdmmijlbjjaaGreatDoorNFtoaE
import Derived.Test.YtamgdmmijlbjjaaGreatDoorNArr
import Derived.Laws.MakeOwn
namespace Go.Proofs.YtamgdmmijlbjjaaGreatDoor
open Go Go.RowKit Go.WideShapes

theorem ftoa_e_all (b : Nat) (hb : b < 18446744073709551616) (hx : exB b ≤ 2046) (h : Nat) (w0 w : World) (b0 : Nat) (v : Value) (l0 : List UInt8) (k : Wr w0 w 5 h b0 l0 v []) (hT : NumTabs w) :
    Calls Tryz.prog 162 #[v, .float .f64 b, .int .u8 101, .int .i64 (-1)] w fun e w' => ∃ v' b1 l1, e = .returned v' ∧ Wr w0 w' 5 h b1 l1 v' (eOf b) := by
  have hE : bits .and .i64 ((b : Int) / 4503599627370496) 2047 = (exB b : Int) := parts_e b hb
  have hM : bits .and .u64 (b : Int) 4503599627370495 = (mtB b : Int) := parts_m b hb
  have hN : ((b : Int) / 9223372036854775808 != 0) = negB b := parts_n b
  have hb1 : (b : Int) / 4503599627370496 ≤ 4095 := by omega
  have hmt : mtB b < 4503599627370496 := Nat.mod_lt _ (by omega)
  have hTab : ∀ W : World, Below w.heap.size w W → Lib.TabIs Tryz.prog W "internal/strconv.uint64pow10" .u64 Lib.pow10Tab := fun W hW => (hT.below hW).ten
  by_cases hz : zeroB b
  · have hO : eOf b = (if negB b then [45] else []) ++ [48, 101, 43, 48, 48] := by unfold eOf; rw [if_pos hz]
    rw [hz.1] at hE
    rw [hz.2] at hM
    rw [hO]
    cases hn : negB b with
    | false => exact (ftoa_e_z_p b hb1 (hN.trans hn) hE hM h w0 w b0 v l0 k).mono fun e w' ⟨v', h1, h2⟩ => ⟨v', _, _, h1, h2⟩
    | true => exact (ftoa_e_z_m b hb1 (hN.trans hn) hE hM h w0 w b0 v l0 k).mono fun e w' ⟨v', h1, h2⟩ => ⟨v', _, _, h1, h2⟩
  · by_cases he : exB b = 0
    · have hm1 : 1 ≤ mtB b := by
        rcases Nat.eq_zero_or_pos (mtB b) with h0 | h0
        · exact absurd ⟨he, h0⟩ hz
        · exact h0
      obtain ⟨⟨d1, d2, d3, d4⟩, dc⟩ := dec_sub (mtB b) hm1 hmt
      obtain ⟨B1, B2, B3⟩ := Lib.bitLenAux_bounds 64 (mtB b) (by omega) (by omega)
      have el : Lib.bitLen (mtB b) = Lib.bitLenAux 64 (mtB b) := rfl
      rw [← el] at B1 B2 B3
      have hL2 : Lib.bitLen (mtB b) ≤ 52 := by
        rcases Nat.lt_or_ge 52 (Lib.bitLen (mtB b)) with h | h
        · have := Nat.pow_le_pow_right (by omega : 0 < 2) (by omega : 52 ≤ Lib.bitLen (mtB b) - 1)
          omega
        · exact h
      have p2 : 2 ^ Lib.bitLen (mtB b) * 2 ^ (64 - Lib.bitLen (mtB b)) = 18446744073709551616 := by
        rw [← Nat.pow_add, show Lib.bitLen (mtB b) + (64 - Lib.bitLen (mtB b)) = 64 from by omega]
      have q2 : mtB b * 2 ^ (64 - Lib.bitLen (mtB b)) < 2 ^ Lib.bitLen (mtB b) * 2 ^ (64 - Lib.bitLen (mtB b)) := Nat.mul_lt_mul_of_pos_right (by omega) (Nat.pow_pos (by omega))
      have hSh : IntKind.u64.wrap ((mtB b : Int) * 2 ^ (64 - Lib.bitLen (mtB b))) = ((mtB b * 2 ^ (64 - Lib.bitLen (mtB b)) : Nat) : Int) := by
        have e3 : (mtB b : Int) * 2 ^ (64 - Lib.bitLen (mtB b)) = ((mtB b * 2 ^ (64 - Lib.bitLen (mtB b)) : Nat) : Int) := by
          rw [Int.natCast_mul]; simp
        rw [e3]
        exact IntWalk.u64_in _ (by omega)
      have hO : eOf b = eText (negB b) ((Lib.decDigits (decOf 0 (mtB b)).1).take (stripN (Lib.decDigits (decOf 0 (mtB b)).1))) (Lib.nDigits (decOf 0 (mtB b)).1 + (decOf 0 (mtB b)).2 - 1) := by
        unfold eOf digB dpB; rw [if_neg hz, he]
      have hbl : 1 ≤ Lib.bitLen (mtB b) := by omega
      rw [he] at hE
      rw [hO]
      cases hn : negB b with
      | false => exact (ftoa_e_s_p b 0 (mtB b) (mtB b) _ _ ((Lib.bitLen (mtB b) : Int) - 1138) hb1 (hN.trans hn) hE hM rfl rfl (by omega) rfl (by rw [beq_eq_false_iff_ne]; omega) rfl hbl (by omega) (by omega) hSh (by omega) _ _ d1 d2 ⟨d3, d4⟩ (strip_pos _ d1) h w0 w b0 v l0 k (fun W hW => dc W (hT.below hW)) hTab).mono fun e w' ⟨v', h1, h2⟩ => ⟨v', _, _, h1, h2⟩
      | true => exact (ftoa_e_s_m b 0 (mtB b) (mtB b) _ _ ((Lib.bitLen (mtB b) : Int) - 1138) hb1 (hN.trans hn) hE hM rfl rfl (by omega) rfl (by rw [beq_eq_false_iff_ne]; omega) rfl hbl (by omega) (by omega) hSh (by omega) _ _ d1 d2 ⟨d3, d4⟩ (strip_pos _ d1) h w0 w b0 v l0 k (fun W hW => dc W (hT.below hW)) hTab).mono fun e w' ⟨v', h1, h2⟩ => ⟨v', _, _, h1, h2⟩
    · obtain ⟨⟨d1, d2, d3, d4⟩, dc⟩ := dec_normal (exB b) (mtB b) (by omega) hx hmt
      have hO : eOf b = eText (negB b) ((Lib.decDigits (decOf (exB b) (mtB b)).1).take (stripN (Lib.decDigits (decOf (exB b) (mtB b)).1))) (Lib.nDigits (decOf (exB b) (mtB b)).1 + (decOf (exB b) (mtB b)).2 - 1) := by
        unfold eOf digB dpB; rw [if_neg hz]
      have hSh : IntKind.u64.wrap (((mtB b + 4503599627370496 : Nat) : Int) * 2 ^ (64 - 53)) = (((mtB b + 4503599627370496) * 2048 : Nat) : Int) := by
        rw [show (2 : Int) ^ (64 - 53) = 2048 from rfl, IntWalk.u64_in _ (by omega)]
        omega
      have hL : Lib.bitLen (mtB b + 4503599627370496) = 53 := bitLen_is _ 53 (by omega) (by omega) (by omega) (by omega)
      rw [hO]
      cases hn : negB b with
      | false => exact (ftoa_e_n_p b (exB b) (mtB b) (mtB b + 4503599627370496) 53 _ ((exB b : Int) - 1086) hb1 (hN.trans hn) hE hM (by rw [beq_eq_false_iff_ne]; omega) (by rw [beq_eq_false_iff_ne]; omega) hx (parts_or _ hmt) (by rw [beq_eq_false_iff_ne]; omega) hL (by omega) (by omega) (by omega) hSh (by omega) _ _ d1 d2 ⟨d3, d4⟩ (strip_pos _ d1) h w0 w b0 v l0 k (fun W hW => dc W (hT.below hW)) hTab).mono fun e w' ⟨v', h1, h2⟩ => ⟨v', _, _, h1, h2⟩
      | true => exact (ftoa_e_n_m b (exB b) (mtB b) (mtB b + 4503599627370496) 53 _ ((exB b : Int) - 1086) hb1 (hN.trans hn) hE hM (by rw [beq_eq_false_iff_ne]; omega) (by rw [beq_eq_false_iff_ne]; omega) hx (parts_or _ hmt) (by rw [beq_eq_false_iff_ne]; omega) hL (by omega) (by omega) (by omega) hSh (by omega) _ _ d1 d2 ⟨d3, d4⟩ (strip_pos _ d1) h w0 w b0 v l0 k (fun W hW => dc W (hT.below hW)) hTab).mono fun e w' ⟨v', h1, h2⟩ => ⟨v', _, _, h1, h2⟩
theorem ftoa_f_all (b : Nat) (hb : b < 18446744073709551616) (hx : exB b ≤ 2046) (h : Nat) (w0 w : World) (b0 : Nat) (v : Value) (l0 : List UInt8) (k : Wr w0 w 5 h b0 l0 v []) (hT : NumTabs w) :
    Calls Tryz.prog 162 #[v, .float .f64 b, .int .u8 102, .int .i64 (-1)] w fun e w' => ∃ v' b1 l1, e = .returned v' ∧ Wr w0 w' 5 h b1 l1 v' (fOf b) := by
  have hE : bits .and .i64 ((b : Int) / 4503599627370496) 2047 = (exB b : Int) := parts_e b hb
  have hM : bits .and .u64 (b : Int) 4503599627370495 = (mtB b : Int) := parts_m b hb
  have hN : ((b : Int) / 9223372036854775808 != 0) = negB b := parts_n b
  have hb1 : (b : Int) / 4503599627370496 ≤ 4095 := by omega
  have hmt : mtB b < 4503599627370496 := Nat.mod_lt _ (by omega)
  have hTab : ∀ W : World, Below w.heap.size w W → Lib.TabIs Tryz.prog W "internal/strconv.uint64pow10" .u64 Lib.pow10Tab := fun W hW => (hT.below hW).ten
  by_cases hz : zeroB b
  · have hO : fOf b = (if negB b then [45] else []) ++ [48] := by unfold fOf; rw [if_pos hz]
    rw [hz.1] at hE
    rw [hz.2] at hM
    rw [hO]
    cases hn : negB b with
    | false => exact (ftoa_f_z_p b hb1 (hN.trans hn) hE hM h w0 w b0 v l0 k).mono fun e w' ⟨v', h1, h2⟩ => ⟨v', _, _, h1, h2⟩
    | true => exact (ftoa_f_z_m b hb1 (hN.trans hn) hE hM h w0 w b0 v l0 k).mono fun e w' ⟨v', h1, h2⟩ => ⟨v', _, _, h1, h2⟩
  · by_cases he : exB b = 0
    · have hm1 : 1 ≤ mtB b := by
        rcases Nat.eq_zero_or_pos (mtB b) with h0 | h0
        · exact absurd ⟨he, h0⟩ hz
        · exact h0
      obtain ⟨⟨d1, d2, d3, d4⟩, dc⟩ := dec_sub (mtB b) hm1 hmt
      obtain ⟨B1, B2, B3⟩ := Lib.bitLenAux_bounds 64 (mtB b) (by omega) (by omega)
      have el : Lib.bitLen (mtB b) = Lib.bitLenAux 64 (mtB b) := rfl
      rw [← el] at B1 B2 B3
      have hL2 : Lib.bitLen (mtB b) ≤ 52 := by
        rcases Nat.lt_or_ge 52 (Lib.bitLen (mtB b)) with h | h
        · have := Nat.pow_le_pow_right (by omega : 0 < 2) (by omega : 52 ≤ Lib.bitLen (mtB b) - 1)
          omega
        · exact h
      have p2 : 2 ^ Lib.bitLen (mtB b) * 2 ^ (64 - Lib.bitLen (mtB b)) = 18446744073709551616 := by
        rw [← Nat.pow_add, show Lib.bitLen (mtB b) + (64 - Lib.bitLen (mtB b)) = 64 from by omega]
      have q2 : mtB b * 2 ^ (64 - Lib.bitLen (mtB b)) < 2 ^ Lib.bitLen (mtB b) * 2 ^ (64 - Lib.bitLen (mtB b)) := Nat.mul_lt_mul_of_pos_right (by omega) (Nat.pow_pos (by omega))
      have hSh : IntKind.u64.wrap ((mtB b : Int) * 2 ^ (64 - Lib.bitLen (mtB b))) = ((mtB b * 2 ^ (64 - Lib.bitLen (mtB b)) : Nat) : Int) := by
        have e3 : (mtB b : Int) * 2 ^ (64 - Lib.bitLen (mtB b)) = ((mtB b * 2 ^ (64 - Lib.bitLen (mtB b)) : Nat) : Int) := by
          rw [Int.natCast_mul]; simp
        rw [e3]
        exact IntWalk.u64_in _ (by omega)
      have hO : fOf b = fText (negB b) ((Lib.decDigits (decOf 0 (mtB b)).1).take (stripN (Lib.decDigits (decOf 0 (mtB b)).1))) (Lib.nDigits (decOf 0 (mtB b)).1 + (decOf 0 (mtB b)).2) := by
        unfold fOf digB dpB; rw [if_neg hz, he]
      have hbl : 1 ≤ Lib.bitLen (mtB b) := by omega
      rw [he] at hE
      rw [hO]
      cases hn : negB b with
      | false => exact (ftoa_f_s_p b 0 (mtB b) (mtB b) _ _ ((Lib.bitLen (mtB b) : Int) - 1138) hb1 (hN.trans hn) hE hM rfl rfl (by omega) rfl (by rw [beq_eq_false_iff_ne]; omega) rfl hbl (by omega) (by omega) hSh (by omega) _ _ d1 d2 ⟨d3, d4⟩ (strip_pos _ d1) h w0 w b0 v l0 k (fun W hW => dc W (hT.below hW)) hTab).mono fun e w' ⟨v', h1, h2⟩ => ⟨v', _, _, h1, h2⟩
      | true => exact (ftoa_f_s_m b 0 (mtB b) (mtB b) _ _ ((Lib.bitLen (mtB b) : Int) - 1138) hb1 (hN.trans hn) hE hM rfl rfl (by omega) rfl (by rw [beq_eq_false_iff_ne]; omega) rfl hbl (by omega) (by omega) hSh (by omega) _ _ d1 d2 ⟨d3, d4⟩ (strip_pos _ d1) h w0 w b0 v l0 k (fun W hW => dc W (hT.below hW)) hTab).mono fun e w' ⟨v', h1, h2⟩ => ⟨v', _, _, h1, h2⟩
    · obtain ⟨⟨d1, d2, d3, d4⟩, dc⟩ := dec_normal (exB b) (mtB b) (by omega) hx hmt
      have hO : fOf b = fText (negB b) ((Lib.decDigits (decOf (exB b) (mtB b)).1).take (stripN (Lib.decDigits (decOf (exB b) (mtB b)).1))) (Lib.nDigits (decOf (exB b) (mtB b)).1 + (decOf (exB b) (mtB b)).2) := by
        unfold fOf digB dpB; rw [if_neg hz]
      have hSh : IntKind.u64.wrap (((mtB b + 4503599627370496 : Nat) : Int) * 2 ^ (64 - 53)) = (((mtB b + 4503599627370496) * 2048 : Nat) : Int) := by
        rw [show (2 : Int) ^ (64 - 53) = 2048 from rfl, IntWalk.u64_in _ (by omega)]
        omega
      have hL : Lib.bitLen (mtB b + 4503599627370496) = 53 := bitLen_is _ 53 (by omega) (by omega) (by omega) (by omega)
      rw [hO]
      cases hn : negB b with
      | false => exact (ftoa_f_n_p b (exB b) (mtB b) (mtB b + 4503599627370496) 53 _ ((exB b : Int) - 1086) hb1 (hN.trans hn) hE hM (by rw [beq_eq_false_iff_ne]; omega) (by rw [beq_eq_false_iff_ne]; omega) hx (parts_or _ hmt) (by rw [beq_eq_false_iff_ne]; omega) hL (by omega) (by omega) (by omega) hSh (by omega) _ _ d1 d2 ⟨d3, d4⟩ (strip_pos _ d1) h w0 w b0 v l0 k (fun W hW => dc W (hT.below hW)) hTab).mono fun e w' ⟨v', h1, h2⟩ => ⟨v', _, _, h1, h2⟩
      | true => exact (ftoa_f_n_m b (exB b) (mtB b) (mtB b + 4503599627370496) 53 _ ((exB b : Int) - 1086) hb1 (hN.trans hn) hE hM (by rw [beq_eq_false_iff_ne]; omega) (by rw [beq_eq_false_iff_ne]; omega) hx (parts_or _ hmt) (by rw [beq_eq_false_iff_ne]; omega) hL (by omega) (by omega) (by omega) hSh (by omega) _ _ d1 d2 ⟨d3, d4⟩ (strip_pos _ d1) h w0 w b0 v l0 k (fun W hW => dc W (hT.below hW)) hTab).mono fun e w' ⟨v', h1, h2⟩ => ⟨v', _, _, h1, h2⟩

set_option maxRecDepth 100000 in
set_option maxHeartbeats 1000000 in
theorem form_e_in (b : Nat) (hb : b < 18446744073709551616) (hx : exB b ≤ 2046) (w : World) (hT : NumTabs w) :
    Calls Tryz.prog 112 #[.float .f64 b, .int .u8 101, .int .i64 (-1), .int .i64 64] w fun e w' => e = .returned (.string ⟨(eOf b).toArray⟩) ∧ Below w.heap.size w w' := by
  have hsz := hT.size
  obtain ⟨i0, hi, hz0, hz1, hz2⟩ := info_parts infoByte
  obtain ⟨W, hmk, hown, hg⟩ := run_make_own (P := Tryz.prog) w w.heap.size 65 5 i0 (.int .u8 0) 1 Tryz.underlying65 hi hz0 hz1 .i64 .i64 24 (by rw [hz2]; omega) (by simp [maxLen]) (Nat.le_refl _)
  have hbel : Below w.heap.size w W := (Below.refl _ w).grown hg (Nat.le_refl _) (fun k hk => by cases hk)
  have k : Wr w W 5 w.heap.size 0 [] (.slice (some ⟨w.heap.size, 0, none⟩) 0 24) [] := ⟨hown, by intro h; simp only [Value.ownBlock, Option.some.injEq] at h; omega, fun j hj => absurd hj (by simp), by have := hbel.size; omega, hbel.size, hbel⟩
  rw [show (((24 : Nat)) : Int) = max 3 24 from rfl] at hmk
  go_enter Tryz.func112, Tryz.ntmps112
  go_wp2_with fail
  refine (ftoa_e_all b hb hx w.heap.size w W 0 _ [] k (hT.below hbel)).mono ?_
  rintro e w' ⟨v', b1, l1, rfl, k'⟩
  have hst := arr_string (P := Tryz.prog) (Arr.of_own k'.own (Nat.le_refl _)) 65 9 5 Tryz.underlying65 Tryz.underlying5 Tryz.underlying9
  go_wp2
  go_ret
  exact ⟨rfl, k'.bel⟩
theorem form_e (b : Nat) (hb : b < 18446744073709551616) (hx : exB b ≤ 2046) (w : World) (hT : NumTabs w) :
    Calls Tryz.prog 56 #[.float .f64 b, .int .u8 101, .int .i64 (-1), .int .i64 64] w fun e w' => e = .returned (.string ⟨(eOf b).toArray⟩) ∧ Below w.heap.size w w' := by
  go_enter Tryz.func56, Tryz.ntmps56
  go_wp2_with fail
  refine (form_e_in b hb hx w hT).mono ?_
  rintro e w' ⟨rfl, hb'⟩
  go_wp2
  go_ret
  exact ⟨rfl, hb'⟩


set_option maxRecDepth 100000 in
set_option maxHeartbeats 1000000 in
theorem form_f_in (b : Nat) (hb : b < 18446744073709551616) (hx : exB b ≤ 2046) (w : World) (hT : NumTabs w) :
    Calls Tryz.prog 112 #[.float .f64 b, .int .u8 102, .int .i64 (-1), .int .i64 64] w fun e w' => e = .returned (.string ⟨(fOf b).toArray⟩) ∧ Below w.heap.size w w' := by
  have hsz := hT.size
  obtain ⟨i0, hi, hz0, hz1, hz2⟩ := info_parts infoByte
  obtain ⟨W, hmk, hown, hg⟩ := run_make_own (P := Tryz.prog) w w.heap.size 65 5 i0 (.int .u8 0) 1 Tryz.underlying65 hi hz0 hz1 .i64 .i64 24 (by rw [hz2]; omega) (by simp [maxLen]) (Nat.le_refl _)
  have hbel : Below w.heap.size w W := (Below.refl _ w).grown hg (Nat.le_refl _) (fun k hk => by cases hk)
  have k : Wr w W 5 w.heap.size 0 [] (.slice (some ⟨w.heap.size, 0, none⟩) 0 24) [] := ⟨hown, by intro h; simp only [Value.ownBlock, Option.some.injEq] at h; omega, fun j hj => absurd hj (by simp), by have := hbel.size; omega, hbel.size, hbel⟩
  rw [show (((24 : Nat)) : Int) = max 3 24 from rfl] at hmk
  go_enter Tryz.func112, Tryz.ntmps112
  go_wp2_with fail
  refine (ftoa_f_all b hb hx w.heap.size w W 0 _ [] k (hT.below hbel)).mono ?_
  rintro e w' ⟨v', b1, l1, rfl, k'⟩
  have hst := arr_string (P := Tryz.prog) (Arr.of_own k'.own (Nat.le_refl _)) 65 9 5 Tryz.underlying65 Tryz.underlying5 Tryz.underlying9
  go_wp2
  go_ret
  exact ⟨rfl, k'.bel⟩
theorem form_f (b : Nat) (hb : b < 18446744073709551616) (hx : exB b ≤ 2046) (w : World) (hT : NumTabs w) :
    Calls Tryz.prog 56 #[.float .f64 b, .int .u8 102, .int .i64 (-1), .int .i64 64] w fun e w' => e = .returned (.string ⟨(fOf b).toArray⟩) ∧ Below w.heap.size w w' := by
  go_enter Tryz.func56, Tryz.ntmps56
  go_wp2_with fail
  refine (form_f_in b hb hx w hT).mono ?_
  rintro e w' ⟨rfl, hb'⟩
  go_wp2
  go_ret
  exact ⟨rfl, hb'⟩

end Go.Proofs.YtamgdmmijlbjjaaGreatDoor

/- FormatFloat at 'e' and 'f', as short as may be: every finite double. -/
import Derived.Test.YtpobdmkidopnnaaGreatDoorGAB
import Derived.Test.YtpobdmkidopnnaaGreatDoorGAF
import Derived.Test.YtpobdmkidopnnaaGreatDoorGAE
import Derived.Test.YtpobdmkidopnnaaGreatDoorGAA
import Derived.Laws.MakeOwn
import Derived.Laws.BitsAll
import Derived.Laws.FloatArith
import Derived.Lib.Replace
import Derived.Lib.Atoi
import Derived.Lib.AtoiErrMem
import Derived.Test.YtpobdmkidopnnaaGreatDoorShelf
namespace Go.Proofs.YtpobdmkidopnnaaGreatDoor
open Go Go.RowKit

def negB (b : Nat) : Bool := decide (9223372036854775808 ≤ b)
def exB (b : Nat) : Nat := b / 4503599627370496 % 2048
def mtB (b : Nat) : Nat := b % 4503599627370496
/-- The digits, the last one not a nought. -/
def digB (b : Nat) : List UInt8 := (Lib.decDigits (decOf (exB b) (mtB b)).1).take (stripN (Lib.decDigits (decOf (exB b) (mtB b)).1))
/-- How many digits stand ahead of the point. -/
def dpB (b : Nat) : Int := Lib.nDigits (decOf (exB b) (mtB b)).1 + (decOf (exB b) (mtB b)).2
def zeroB (b : Nat) : Prop := exB b = 0 ∧ mtB b = 0
instance (b : Nat) : Decidable (zeroB b) := by unfold zeroB; exact inferInstance
def eOf (b : Nat) : List UInt8 := if zeroB b then (if negB b then [45] else []) ++ [48, 101, 43, 48, 48] else eText (negB b) (digB b) (dpB b - 1)
def fOf (b : Nat) : List UInt8 := if zeroB b then (if negB b then [45] else []) ++ [48] else fText (negB b) (digB b) (dpB b)

theorem bitLen_is (m L : Nat) (h0 : 1 ≤ L) (h1 : 2 ^ (L - 1) ≤ m) (h2 : m < 2 ^ L) (h3 : m < 18446744073709551616) : Lib.bitLen m = L := by
  have hp : 0 < 2 ^ (L - 1) := Nat.pow_pos (by omega)
  obtain ⟨b1, b2, b3⟩ := Lib.bitLenAux_bounds 64 m (by omega) (by omega)
  have e : Lib.bitLen m = Lib.bitLenAux 64 m := rfl
  rw [e]
  rcases Nat.lt_trichotomy (Lib.bitLenAux 64 m) L with h | h | h
  · have := Nat.pow_le_pow_right (by omega : 0 < 2) (by omega : Lib.bitLenAux 64 m ≤ L - 1)
    omega
  · exact h
  · have := Nat.pow_le_pow_right (by omega : 0 < 2) (by omega : L ≤ Lib.bitLenAux 64 m - 1)
    omega
theorem nine_digits (d : Nat) (h : d < 18446744073709551616) : Lib.nDigits d ≤ 20 := nDigits_le 20 d (by omega) (by omega)

/-- A normal double's digits. -/
theorem dec_normal (ex mt : Nat) (h1 : 1 ≤ ex) (h2 : ex ≤ 2046) (hm : mt < 4503599627370496) :
    (1 ≤ (decOf ex mt).1 ∧ (decOf ex mt).1 < 18446744073709551616 ∧ -360 ≤ (decOf ex mt).2 ∧ (decOf ex mt).2 ≤ 360) ∧
    ∀ W : World, NumTabs W → Calls Tryz.prog 356 #[.int .u64 (((mt + 4503599627370496) * 2048 : Nat) : Int), .int .i64 ((ex : Int) - 1086)] W fun e' w' => e' = .returned (.tuple #[.int .u64 (decOf ex mt).1, .int .i64 (decOf ex mt).2]) ∧ Below W.heap.size W w' := by
  unfold decOf
  rw [if_neg (by omega : ¬ ex = 0)]
  by_cases hone : mt = 0 ∧ 1 < ex
  · obtain ⟨rfl, hx⟩ := hone
    rw [if_pos ⟨rfl, hx⟩]
    obtain ⟨q1, q2, q3, q4⟩ := one_at ((ex : Int) - 1086) (by omega) (by omega)
    have ho := and_one (9223372036854775808 / 2048) (by omega)
    have e0 : (((9223372036854775808 / 2048 : Nat) : Int)) = (9223372036854775808 : Int) / 2048 := by decide
    rw [e0] at ho
    have h := short_of 9223372036854775808 (-skewP ((ex : Int) - 1086 + 11)) ((ex : Int) - 1086) (9223372036854775808 - 512) (9223372036854775808 + 1024) (bits .and .i64 ((9223372036854775808 : Int) / 2048) 1) ⟨by omega, by omega⟩ (by omega) (by omega) (by omega) (by omega) (by omega) ho
      (fun hi lo s hs s63 hh hl W hW c1 c2 => short_one 9223372036854775808 ((ex : Int) - 1086) (-skewP ((ex : Int) - 1086 + 11)) hi lo s (9223372036854775808 - 512) (9223372036854775808 + 1024) _ (by decide) (by omega) (by omega) (by omega) (by omega) (by omega) rfl (by omega) (by omega) (by omega) (by omega) (by omega) ho ⟨by omega, by omega⟩ hs s63 hh hl W hW c1 c2)
    refine ⟨⟨h.1.1, h.1.2.1, by rcases h.1.2.2 with e | e <;> rw [e] <;> omega, by rcases h.1.2.2 with e | e <;> rw [e] <;> omega⟩, ?_⟩
    intro W hW
    have hc := h.2 W hW
    have e1 : (((0 + 4503599627370496) * 2048 : Nat) : Int) = ((9223372036854775808 : Nat) : Int) := rfl
    rw [e1]
    exact hc
  · rw [if_neg hone]
    obtain ⟨q1, q2, q3, q4⟩ := two_at ((ex : Int) - 1086) (by omega) (by omega)
    obtain ⟨M, hM⟩ : ∃ M, (mt + 4503599627370496) * 2048 = M := ⟨_, rfl⟩
    rw [hM]
    have ho := and_one (M / 2048) (by omega)
    have e0 : (((M / 2048 : Nat) : Int)) = (M : Int) / 2048 := by omega
    rw [e0] at ho
    have h := short_of M (-l10P ((ex : Int) - 1086 + 11)) ((ex : Int) - 1086) (M - 1024) (M + 1024) (bits .and .i64 ((M : Int) / 2048) 1) ⟨by omega, by omega⟩ (by omega) (by omega) (by omega) (by omega) (by omega) ho
      (fun hi lo s hs s63 hh hl W hW c1 c2 => by
        by_cases hmt : mt = 0
        · have hx1 : ex = 1 := by omega
          have hy : (ex : Int) - 1086 = -1085 := by omega
          rw [hy] at hs q1 q2 c1 c2 ⊢
          exact short_edge M (-1085) (-l10P (-1085 + 11)) hi lo s (M - 1024) (M + 1024) _ (by rw [beq_iff_eq]; omega) rfl (by decide) (by omega) (by omega) rfl (by omega) (by omega) (by omega) (by omega) (by omega) ho ⟨by omega, by omega⟩ hs s63 hh hl W hW c1 c2
        · exact short_two M ((ex : Int) - 1086) (-l10P ((ex : Int) - 1086 + 11)) hi lo s (M - 1024) (M + 1024) _ (by rw [beq_eq_false_iff_ne]; omega) (by omega) (by omega) (by omega) (by omega) (by omega) rfl (by omega) (by omega) (by omega) (by omega) (by omega) ho ⟨by omega, by omega⟩ hs s63 hh hl W hW c1 c2)
    exact ⟨⟨h.1.1, h.1.2.1, by rcases h.1.2.2 with e | e <;> rw [e] <;> omega, by rcases h.1.2.2 with e | e <;> rw [e] <;> omega⟩, h.2⟩
theorem sub_way (mt k : Nat) (y : Int) (k0 : 12 ≤ k) (k1 : k ≤ 63) (hy : y = -1074 - (k : Int)) (h1 : 9223372036854775808 ≤ mt * 2 ^ k) (h2 : mt * 2 ^ k + 2 ^ k ≤ 18446744073709551616) :
    (1 ≤ (shortOf (mt * 2 ^ k) 324 y (mt * 2 ^ k - 2 ^ (k - 1)) (mt * 2 ^ k + 2 ^ (k - 1)) (bits .and .i64 (wrap64 (((mt * 2 ^ k : Nat) : Int) / 2 ^ k)) 1)).1 ∧ (shortOf (mt * 2 ^ k) 324 y (mt * 2 ^ k - 2 ^ (k - 1)) (mt * 2 ^ k + 2 ^ (k - 1)) (bits .and .i64 (wrap64 (((mt * 2 ^ k : Nat) : Int) / 2 ^ k)) 1)).1 < 18446744073709551616 ∧ ((shortOf (mt * 2 ^ k) 324 y (mt * 2 ^ k - 2 ^ (k - 1)) (mt * 2 ^ k + 2 ^ (k - 1)) (bits .and .i64 (wrap64 (((mt * 2 ^ k : Nat) : Int) / 2 ^ k)) 1)).2 = -324 ∨ (shortOf (mt * 2 ^ k) 324 y (mt * 2 ^ k - 2 ^ (k - 1)) (mt * 2 ^ k + 2 ^ (k - 1)) (bits .and .i64 (wrap64 (((mt * 2 ^ k : Nat) : Int) / 2 ^ k)) 1)).2 = -(324 - 1))) ∧
    ∀ W : World, NumTabs W → Calls Tryz.prog 356 #[.int .u64 ((mt * 2 ^ k : Nat) : Int), .int .i64 y] W fun e' w' => e' = .returned (.tuple #[.int .u64 (shortOf (mt * 2 ^ k) 324 y (mt * 2 ^ k - 2 ^ (k - 1)) (mt * 2 ^ k + 2 ^ (k - 1)) (bits .and .i64 (wrap64 (((mt * 2 ^ k : Nat) : Int) / 2 ^ k)) 1)).1, .int .i64 (shortOf (mt * 2 ^ k) 324 y (mt * 2 ^ k - 2 ^ (k - 1)) (mt * 2 ^ k + 2 ^ (k - 1)) (bits .and .i64 (wrap64 (((mt * 2 ^ k : Nat) : Int) / 2 ^ k)) 1)).2]) ∧ Below W.heap.size W w' := by
  have hk : (2 : Nat) ^ k = 2 * 2 ^ (k - 1) := by
    rw [show k = (k - 1) + 1 from by omega, Nat.pow_succ]
    simp only [Nat.add_sub_cancel]
    omega
  have hb : (2 : Nat) ^ (k - 1) ≤ 4611686018427387904 := by
    have := Nat.pow_le_pow_right (by omega : 0 < 2) (by omega : k - 1 ≤ 62)
    omega
  have hpos : 0 < (2 : Nat) ^ (k - 1) := Nat.pow_pos (by omega)
  have hq : ((mt * 2 ^ k : Nat) : Int) / 2 ^ k = (mt : Int) := by
    rw [div_pow, Nat.mul_div_cancel _ (Nat.pow_pos (by omega))]
  have hmt : mt < 9223372036854775808 := by
    have h3 : mt * 4096 ≤ mt * 2 ^ k := Nat.mul_le_mul_left mt (Nat.le_trans (by omega : 4096 ≤ 2 ^ 12) (Nat.pow_le_pow_right (by omega) k0))
    omega
  have ho : bits .and .i64 (wrap64 (((mt * 2 ^ k : Nat) : Int) / 2 ^ k)) 1 = 0 ∨ bits .and .i64 (wrap64 (((mt * 2 ^ k : Nat) : Int) / 2 ^ k)) 1 = 1 := by
    rw [hq, show wrap64 (mt : Int) = (mt : Int) from by unfold wrap64; omega]
    exact and_one mt hmt
  have hw : IntKind.u64.wrap (2 ^ (k - 1)) = ((2 ^ (k - 1) : Nat) : Int) := by
    rw [show ((2 : Int) ^ (k - 1)) = ((2 ^ (k - 1) : Nat) : Int) from by simp]
    exact IntWalk.u64_in _ (by omega)
  obtain ⟨od, hod⟩ : ∃ od, bits .and .i64 (wrap64 (((mt * 2 ^ k : Nat) : Int) / 2 ^ k)) 1 = od := ⟨_, rfl⟩
  rw [hod] at ho ⊢
  obtain ⟨P, hP⟩ : ∃ P, 2 ^ (k - 1) = P := ⟨_, rfl⟩
  obtain ⟨M, hM⟩ : ∃ M, mt * 2 ^ k = M := ⟨_, rfl⟩
  rw [hP] at hw hk hb hpos
  rw [hM] at hod h1 h2
  rw [hP, hM]
  have hz : (11 + (-1085 - y)).toNat = k := by omega
  have w1 : ((M - P : Nat) : Int) = IntKind.u64.wrap ((M : Int) - IntKind.u64.wrap (2 ^ ((11 + (-1085 - y)).toNat - 1))) := by
    rw [hz, hw, IntWalk.u64_in _ (by omega)]; omega
  have w2 : ((M + P : Nat) : Int) = IntKind.u64.wrap ((M : Int) + IntKind.u64.wrap (2 ^ ((11 + (-1085 - y)).toNat - 1))) := by
    rw [hz, hw, IntWalk.u64_in _ (by omega)]; omega
  have w3 : od = bits .and .i64 (wrap64 ((M : Int) / 2 ^ (11 + (-1085 - y)).toNat)) 1 := by
    rw [hz, hod]
  have hl := sub_l
  have hsp : -(324 : Int) = l10P (-1074) := by have := sub_p; omega
  refine short_of M 324 y (M - P) (M + P) od ⟨by omega, by omega⟩ (by omega) (by omega) ⟨by omega, by omega⟩ ⟨by omega, by omega⟩ ⟨by omega, by omega⟩ ho
    (fun hi lo s hs s63 hh hl W hW c1 c2 => ?_)
  by_cases hM2 : M = 9223372036854775808
  · exact short_four M y 324 hi lo s (M - P) (M + P) od (by rw [beq_iff_eq]; omega) (decide_eq_false (by omega)) (decide_eq_false (by omega)) (-1085 - y) rfl (by omega) (by omega) (by omega) hsp w1 w2 w3 h1 (by omega) (by omega) (by omega) ho ⟨by omega, by omega⟩ hs s63 hh hl W hW c1 c2
  · exact short_three M y 324 hi lo s (M - P) (M + P) od (by rw [beq_eq_false_iff_ne]; omega) (decide_eq_false (by omega)) (-1085 - y) rfl (by omega) (by omega) (by omega) hsp w1 w2 w3 h1 (by omega) (by omega) (by omega) ho ⟨by omega, by omega⟩ hs s63 hh hl W hW c1 c2
/-- A subnormal double's digits. -/
theorem dec_sub (mt : Nat) (h0 : 1 ≤ mt) (hm : mt < 4503599627370496) :
    (1 ≤ (decOf 0 mt).1 ∧ (decOf 0 mt).1 < 18446744073709551616 ∧ -360 ≤ (decOf 0 mt).2 ∧ (decOf 0 mt).2 ≤ 360) ∧
    ∀ W : World, NumTabs W → Calls Tryz.prog 356 #[.int .u64 ((mt * 2 ^ (64 - Lib.bitLen mt) : Nat) : Int), .int .i64 ((Lib.bitLen mt : Int) - 1138)] W fun e' w' => e' = .returned (.tuple #[.int .u64 (decOf 0 mt).1, .int .i64 (decOf 0 mt).2]) ∧ Below W.heap.size W w' := by
  obtain ⟨b1, b2, b3⟩ := Lib.bitLenAux_bounds 64 mt (by omega) (by omega)
  have e : Lib.bitLen mt = Lib.bitLenAux 64 mt := rfl
  rw [← e] at b1 b2 b3
  have hL : 1 ≤ Lib.bitLen mt := by omega
  have hL2 : Lib.bitLen mt ≤ 52 := by
    rcases Nat.lt_or_ge 52 (Lib.bitLen mt) with h | h
    · have := Nat.pow_le_pow_right (by omega : 0 < 2) (by omega : 52 ≤ Lib.bitLen mt - 1)
      omega
    · exact h
  obtain ⟨L, hLe⟩ : ∃ L, Lib.bitLen mt = L := ⟨_, rfl⟩
  unfold decOf
  rw [if_pos rfl]
  clear e
  rw [hLe] at b2 b3 hL hL2 ⊢
  have p1 : 2 ^ (L - 1) * 2 ^ (64 - L) = 9223372036854775808 := by
    rw [← Nat.pow_add, show L - 1 + (64 - L) = 63 from by omega]
  have p2 : 2 ^ L * 2 ^ (64 - L) = 18446744073709551616 := by
    rw [← Nat.pow_add, show L + (64 - L) = 64 from by omega]
  have q1 : 2 ^ (L - 1) * 2 ^ (64 - L) ≤ mt * 2 ^ (64 - L) := Nat.mul_le_mul_right _ (by omega)
  have q2 : (mt + 1) * 2 ^ (64 - L) ≤ 2 ^ L * 2 ^ (64 - L) := Nat.mul_le_mul_right _ (by omega)
  rw [Nat.add_mul, Nat.one_mul] at q2
  have h := sub_way mt (64 - L) ((L : Int) - 1138) (by omega) (by omega) (by omega) (by omega) (by omega)
  rw [show 64 - L - 1 = 63 - L from by omega] at h
  exact ⟨⟨h.1.1, h.1.2.1, by rcases h.1.2.2 with e | e <;> rw [e] <;> omega, by rcases h.1.2.2 with e | e <;> rw [e] <;> omega⟩, h.2⟩

end Go.Proofs.YtpobdmkidopnnaaGreatDoor
namespace Go.Proofs.YtpobdmkidopnnaaGreatDoor
open Go Go.RowKit Go.WideShapes

theorem ftoa_e_all (b : Nat) (hb : b < 18446744073709551616) (hx : exB b ≤ 2046) (h : Nat) (w0 w : World) (b0 : Nat) (v : Value) (l0 : List UInt8) (k : Wr w0 w 5 h b0 l0 v []) (hT : NumTabs w) :
    Calls Tryz.prog 323 #[v, .float .f64 b, .int .u8 101, .int .i64 (-1)] w fun e w' => ∃ v' b1 l1, e = .returned v' ∧ Wr w0 w' 5 h b1 l1 v' (eOf b) := by
  have hE : bits .and .i64 ((b : Int) / 4503599627370496) 2047 = (exB b : Int) := parts_e b hb
  have hM : bits .and .u64 (b : Int) 4503599627370495 = (mtB b : Int) := parts_m b hb
  have hN : ((b : Int) / 9223372036854775808 != 0) = negB b := parts_n b
  have hb1 : (b : Int) / 4503599627370496 ≤ 4095 := by omega
  have hmt : mtB b < 4503599627370496 := Nat.mod_lt _ (by omega)
  have hTab : ∀ W : World, Below w.heap.size w W → Lib.TabIs Tryz.prog W "internal/strconv.uint64pow10" .u64 Lib.pow10Tab := fun W hW => (hT.below hW).ten
  by_cases hz : zeroB b
  · have hO : eOf b = (if negB b then [45] else []) ++ [48, 101, 43, 48, 48] := by unfold eOf; rw [if_pos hz]
    rw [hz.1] at hE
    rw [hz.2] at hM
    rw [hO]
    cases hn : negB b with
    | false => exact (ftoa_e_z_p b hb1 (hN.trans hn) hE hM h w0 w b0 v l0 k).mono fun e w' ⟨v', h1, h2⟩ => ⟨v', _, _, h1, h2⟩
    | true => exact (ftoa_e_z_m b hb1 (hN.trans hn) hE hM h w0 w b0 v l0 k).mono fun e w' ⟨v', h1, h2⟩ => ⟨v', _, _, h1, h2⟩
  · by_cases he : exB b = 0
    · have hm1 : 1 ≤ mtB b := by
        rcases Nat.eq_zero_or_pos (mtB b) with h0 | h0
        · exact absurd ⟨he, h0⟩ hz
        · exact h0
      obtain ⟨⟨d1, d2, d3, d4⟩, dc⟩ := dec_sub (mtB b) hm1 hmt
      obtain ⟨B1, B2, B3⟩ := Lib.bitLenAux_bounds 64 (mtB b) (by omega) (by omega)
      have el : Lib.bitLen (mtB b) = Lib.bitLenAux 64 (mtB b) := rfl
      rw [← el] at B1 B2 B3
      have hL2 : Lib.bitLen (mtB b) ≤ 52 := by
        rcases Nat.lt_or_ge 52 (Lib.bitLen (mtB b)) with h | h
        · have := Nat.pow_le_pow_right (by omega : 0 < 2) (by omega : 52 ≤ Lib.bitLen (mtB b) - 1)
          omega
        · exact h
      have p2 : 2 ^ Lib.bitLen (mtB b) * 2 ^ (64 - Lib.bitLen (mtB b)) = 18446744073709551616 := by
        rw [← Nat.pow_add, show Lib.bitLen (mtB b) + (64 - Lib.bitLen (mtB b)) = 64 from by omega]
      have q2 : mtB b * 2 ^ (64 - Lib.bitLen (mtB b)) < 2 ^ Lib.bitLen (mtB b) * 2 ^ (64 - Lib.bitLen (mtB b)) := Nat.mul_lt_mul_of_pos_right (by omega) (Nat.pow_pos (by omega))
      have hSh : IntKind.u64.wrap ((mtB b : Int) * 2 ^ (64 - Lib.bitLen (mtB b))) = ((mtB b * 2 ^ (64 - Lib.bitLen (mtB b)) : Nat) : Int) := by
        have e3 : (mtB b : Int) * 2 ^ (64 - Lib.bitLen (mtB b)) = ((mtB b * 2 ^ (64 - Lib.bitLen (mtB b)) : Nat) : Int) := by
          rw [Int.natCast_mul]; simp
        rw [e3]
        exact IntWalk.u64_in _ (by omega)
      have hO : eOf b = eText (negB b) ((Lib.decDigits (decOf 0 (mtB b)).1).take (stripN (Lib.decDigits (decOf 0 (mtB b)).1))) (Lib.nDigits (decOf 0 (mtB b)).1 + (decOf 0 (mtB b)).2 - 1) := by
        unfold eOf digB dpB; rw [if_neg hz, he]
      have hbl : 1 ≤ Lib.bitLen (mtB b) := by omega
      rw [he] at hE
      rw [hO]
      cases hn : negB b with
      | false => exact (ftoa_e_s_p b 0 (mtB b) (mtB b) _ _ ((Lib.bitLen (mtB b) : Int) - 1138) hb1 (hN.trans hn) hE hM rfl rfl (by omega) rfl (by rw [beq_eq_false_iff_ne]; omega) rfl hbl (by omega) (by omega) hSh (by omega) _ _ d1 d2 ⟨d3, d4⟩ (strip_pos _ d1) h w0 w b0 v l0 k (fun W hW => dc W (hT.below hW)) hTab).mono fun e w' ⟨v', h1, h2⟩ => ⟨v', _, _, h1, h2⟩
      | true => exact (ftoa_e_s_m b 0 (mtB b) (mtB b) _ _ ((Lib.bitLen (mtB b) : Int) - 1138) hb1 (hN.trans hn) hE hM rfl rfl (by omega) rfl (by rw [beq_eq_false_iff_ne]; omega) rfl hbl (by omega) (by omega) hSh (by omega) _ _ d1 d2 ⟨d3, d4⟩ (strip_pos _ d1) h w0 w b0 v l0 k (fun W hW => dc W (hT.below hW)) hTab).mono fun e w' ⟨v', h1, h2⟩ => ⟨v', _, _, h1, h2⟩
    · obtain ⟨⟨d1, d2, d3, d4⟩, dc⟩ := dec_normal (exB b) (mtB b) (by omega) hx hmt
      have hO : eOf b = eText (negB b) ((Lib.decDigits (decOf (exB b) (mtB b)).1).take (stripN (Lib.decDigits (decOf (exB b) (mtB b)).1))) (Lib.nDigits (decOf (exB b) (mtB b)).1 + (decOf (exB b) (mtB b)).2 - 1) := by
        unfold eOf digB dpB; rw [if_neg hz]
      have hSh : IntKind.u64.wrap (((mtB b + 4503599627370496 : Nat) : Int) * 2 ^ (64 - 53)) = (((mtB b + 4503599627370496) * 2048 : Nat) : Int) := by
        rw [show (2 : Int) ^ (64 - 53) = 2048 from rfl, IntWalk.u64_in _ (by omega)]
        omega
      have hL : Lib.bitLen (mtB b + 4503599627370496) = 53 := bitLen_is _ 53 (by omega) (by omega) (by omega) (by omega)
      rw [hO]
      cases hn : negB b with
      | false => exact (ftoa_e_n_p b (exB b) (mtB b) (mtB b + 4503599627370496) 53 _ ((exB b : Int) - 1086) hb1 (hN.trans hn) hE hM (by rw [beq_eq_false_iff_ne]; omega) (by rw [beq_eq_false_iff_ne]; omega) hx (parts_or _ hmt) (by rw [beq_eq_false_iff_ne]; omega) hL (by omega) (by omega) (by omega) hSh (by omega) _ _ d1 d2 ⟨d3, d4⟩ (strip_pos _ d1) h w0 w b0 v l0 k (fun W hW => dc W (hT.below hW)) hTab).mono fun e w' ⟨v', h1, h2⟩ => ⟨v', _, _, h1, h2⟩
      | true => exact (ftoa_e_n_m b (exB b) (mtB b) (mtB b + 4503599627370496) 53 _ ((exB b : Int) - 1086) hb1 (hN.trans hn) hE hM (by rw [beq_eq_false_iff_ne]; omega) (by rw [beq_eq_false_iff_ne]; omega) hx (parts_or _ hmt) (by rw [beq_eq_false_iff_ne]; omega) hL (by omega) (by omega) (by omega) hSh (by omega) _ _ d1 d2 ⟨d3, d4⟩ (strip_pos _ d1) h w0 w b0 v l0 k (fun W hW => dc W (hT.below hW)) hTab).mono fun e w' ⟨v', h1, h2⟩ => ⟨v', _, _, h1, h2⟩
theorem ftoa_f_all (b : Nat) (hb : b < 18446744073709551616) (hx : exB b ≤ 2046) (h : Nat) (w0 w : World) (b0 : Nat) (v : Value) (l0 : List UInt8) (k : Wr w0 w 5 h b0 l0 v []) (hT : NumTabs w) :
    Calls Tryz.prog 323 #[v, .float .f64 b, .int .u8 102, .int .i64 (-1)] w fun e w' => ∃ v' b1 l1, e = .returned v' ∧ Wr w0 w' 5 h b1 l1 v' (fOf b) := by
  have hE : bits .and .i64 ((b : Int) / 4503599627370496) 2047 = (exB b : Int) := parts_e b hb
  have hM : bits .and .u64 (b : Int) 4503599627370495 = (mtB b : Int) := parts_m b hb
  have hN : ((b : Int) / 9223372036854775808 != 0) = negB b := parts_n b
  have hb1 : (b : Int) / 4503599627370496 ≤ 4095 := by omega
  have hmt : mtB b < 4503599627370496 := Nat.mod_lt _ (by omega)
  have hTab : ∀ W : World, Below w.heap.size w W → Lib.TabIs Tryz.prog W "internal/strconv.uint64pow10" .u64 Lib.pow10Tab := fun W hW => (hT.below hW).ten
  by_cases hz : zeroB b
  · have hO : fOf b = (if negB b then [45] else []) ++ [48] := by unfold fOf; rw [if_pos hz]
    rw [hz.1] at hE
    rw [hz.2] at hM
    rw [hO]
    cases hn : negB b with
    | false => exact (ftoa_f_z_p b hb1 (hN.trans hn) hE hM h w0 w b0 v l0 k).mono fun e w' ⟨v', h1, h2⟩ => ⟨v', _, _, h1, h2⟩
    | true => exact (ftoa_f_z_m b hb1 (hN.trans hn) hE hM h w0 w b0 v l0 k).mono fun e w' ⟨v', h1, h2⟩ => ⟨v', _, _, h1, h2⟩
  · by_cases he : exB b = 0
    · have hm1 : 1 ≤ mtB b := by
        rcases Nat.eq_zero_or_pos (mtB b) with h0 | h0
        · exact absurd ⟨he, h0⟩ hz
        · exact h0
      obtain ⟨⟨d1, d2, d3, d4⟩, dc⟩ := dec_sub (mtB b) hm1 hmt
      obtain ⟨B1, B2, B3⟩ := Lib.bitLenAux_bounds 64 (mtB b) (by omega) (by omega)
      have el : Lib.bitLen (mtB b) = Lib.bitLenAux 64 (mtB b) := rfl
      rw [← el] at B1 B2 B3
      have hL2 : Lib.bitLen (mtB b) ≤ 52 := by
        rcases Nat.lt_or_ge 52 (Lib.bitLen (mtB b)) with h | h
        · have := Nat.pow_le_pow_right (by omega : 0 < 2) (by omega : 52 ≤ Lib.bitLen (mtB b) - 1)
          omega
        · exact h
      have p2 : 2 ^ Lib.bitLen (mtB b) * 2 ^ (64 - Lib.bitLen (mtB b)) = 18446744073709551616 := by
        rw [← Nat.pow_add, show Lib.bitLen (mtB b) + (64 - Lib.bitLen (mtB b)) = 64 from by omega]
      have q2 : mtB b * 2 ^ (64 - Lib.bitLen (mtB b)) < 2 ^ Lib.bitLen (mtB b) * 2 ^ (64 - Lib.bitLen (mtB b)) := Nat.mul_lt_mul_of_pos_right (by omega) (Nat.pow_pos (by omega))
      have hSh : IntKind.u64.wrap ((mtB b : Int) * 2 ^ (64 - Lib.bitLen (mtB b))) = ((mtB b * 2 ^ (64 - Lib.bitLen (mtB b)) : Nat) : Int) := by
        have e3 : (mtB b : Int) * 2 ^ (64 - Lib.bitLen (mtB b)) = ((mtB b * 2 ^ (64 - Lib.bitLen (mtB b)) : Nat) : Int) := by
          rw [Int.natCast_mul]; simp
        rw [e3]
        exact IntWalk.u64_in _ (by omega)
      have hO : fOf b = fText (negB b) ((Lib.decDigits (decOf 0 (mtB b)).1).take (stripN (Lib.decDigits (decOf 0 (mtB b)).1))) (Lib.nDigits (decOf 0 (mtB b)).1 + (decOf 0 (mtB b)).2) := by
        unfold fOf digB dpB; rw [if_neg hz, he]
      have hbl : 1 ≤ Lib.bitLen (mtB b) := by omega
      rw [he] at hE
      rw [hO]
      cases hn : negB b with
      | false => exact (ftoa_f_s_p b 0 (mtB b) (mtB b) _ _ ((Lib.bitLen (mtB b) : Int) - 1138) hb1 (hN.trans hn) hE hM rfl rfl (by omega) rfl (by rw [beq_eq_false_iff_ne]; omega) rfl hbl (by omega) (by omega) hSh (by omega) _ _ d1 d2 ⟨d3, d4⟩ (strip_pos _ d1) h w0 w b0 v l0 k (fun W hW => dc W (hT.below hW)) hTab).mono fun e w' ⟨v', h1, h2⟩ => ⟨v', _, _, h1, h2⟩
      | true => exact (ftoa_f_s_m b 0 (mtB b) (mtB b) _ _ ((Lib.bitLen (mtB b) : Int) - 1138) hb1 (hN.trans hn) hE hM rfl rfl (by omega) rfl (by rw [beq_eq_false_iff_ne]; omega) rfl hbl (by omega) (by omega) hSh (by omega) _ _ d1 d2 ⟨d3, d4⟩ (strip_pos _ d1) h w0 w b0 v l0 k (fun W hW => dc W (hT.below hW)) hTab).mono fun e w' ⟨v', h1, h2⟩ => ⟨v', _, _, h1, h2⟩
    · obtain ⟨⟨d1, d2, d3, d4⟩, dc⟩ := dec_normal (exB b) (mtB b) (by omega) hx hmt
      have hO : fOf b = fText (negB b) ((Lib.decDigits (decOf (exB b) (mtB b)).1).take (stripN (Lib.decDigits (decOf (exB b) (mtB b)).1))) (Lib.nDigits (decOf (exB b) (mtB b)).1 + (decOf (exB b) (mtB b)).2) := by
        unfold fOf digB dpB; rw [if_neg hz]
      have hSh : IntKind.u64.wrap (((mtB b + 4503599627370496 : Nat) : Int) * 2 ^ (64 - 53)) = (((mtB b + 4503599627370496) * 2048 : Nat) : Int) := by
        rw [show (2 : Int) ^ (64 - 53) = 2048 from rfl, IntWalk.u64_in _ (by omega)]
        omega
      have hL : Lib.bitLen (mtB b + 4503599627370496) = 53 := bitLen_is _ 53 (by omega) (by omega) (by omega) (by omega)
      rw [hO]
      cases hn : negB b with
      | false => exact (ftoa_f_n_p b (exB b) (mtB b) (mtB b + 4503599627370496) 53 _ ((exB b : Int) - 1086) hb1 (hN.trans hn) hE hM (by rw [beq_eq_false_iff_ne]; omega) (by rw [beq_eq_false_iff_ne]; omega) hx (parts_or _ hmt) (by rw [beq_eq_false_iff_ne]; omega) hL (by omega) (by omega) (by omega) hSh (by omega) _ _ d1 d2 ⟨d3, d4⟩ (strip_pos _ d1) h w0 w b0 v l0 k (fun W hW => dc W (hT.below hW)) hTab).mono fun e w' ⟨v', h1, h2⟩ => ⟨v', _, _, h1, h2⟩
      | true => exact (ftoa_f_n_m b (exB b) (mtB b) (mtB b + 4503599627370496) 53 _ ((exB b : Int) - 1086) hb1 (hN.trans hn) hE hM (by rw [beq_eq_false_iff_ne]; omega) (by rw [beq_eq_false_iff_ne]; omega) hx (parts_or _ hmt) (by rw [beq_eq_false_iff_ne]; omega) hL (by omega) (by omega) (by omega) hSh (by omega) _ _ d1 d2 ⟨d3, d4⟩ (strip_pos _ d1) h w0 w b0 v l0 k (fun W hW => dc W (hT.below hW)) hTab).mono fun e w' ⟨v', h1, h2⟩ => ⟨v', _, _, h1, h2⟩

set_option maxRecDepth 100000 in
set_option maxHeartbeats 1000000 in
theorem form_e_in (b : Nat) (hb : b < 18446744073709551616) (hx : exB b ≤ 2046) (w : World) (hT : NumTabs w) :
    Calls Tryz.prog 295 #[.float .f64 b, .int .u8 101, .int .i64 (-1), .int .i64 64] w fun e w' => e = .returned (.string ⟨(eOf b).toArray⟩) ∧ Below w.heap.size w w' := by
  have hsz := hT.size
  obtain ⟨i0, hi, hz0, hz1, hz2⟩ := info_parts infoByte
  obtain ⟨W, hmk, hown, hg⟩ := run_make_own (P := Tryz.prog) w w.heap.size 58 5 i0 (.int .u8 0) 1 Tryz.underlying58 hi hz0 hz1 .i64 .i64 24 (by rw [hz2]; omega) (by simp [maxLen]) (Nat.le_refl _)
  have hbel : Below w.heap.size w W := (Below.refl _ w).grown hg (Nat.le_refl _) (fun k hk => by cases hk)
  have k : Wr w W 5 w.heap.size 0 [] (.slice (some ⟨w.heap.size, 0, none⟩) 0 24) [] := ⟨hown, by intro h; simp only [Value.ownBlock, Option.some.injEq] at h; omega, fun j hj => absurd hj (by simp), by have := hbel.size; omega, hbel.size, hbel⟩
  rw [show (((24 : Nat)) : Int) = max 3 24 from rfl] at hmk
  go_enter Tryz.func295, Tryz.ntmps295
  go_wp2_with fail
  refine (ftoa_e_all b hb hx w.heap.size w W 0 _ [] k (hT.below hbel)).mono ?_
  rintro e w' ⟨v', b1, l1, rfl, k'⟩
  have hst := arr_string (P := Tryz.prog) (Arr.of_own k'.own (Nat.le_refl _)) 58 9 5 Tryz.underlying58 Tryz.underlying5 Tryz.underlying9
  go_wp2
  go_ret
  exact ⟨rfl, k'.bel⟩
theorem form_e (b : Nat) (hb : b < 18446744073709551616) (hx : exB b ≤ 2046) (w : World) (hT : NumTabs w) :
    Calls Tryz.prog 231 #[.float .f64 b, .int .u8 101, .int .i64 (-1), .int .i64 64] w fun e w' => e = .returned (.string ⟨(eOf b).toArray⟩) ∧ Below w.heap.size w w' := by
  go_enter Tryz.func231, Tryz.ntmps231
  go_wp2_with fail
  refine (form_e_in b hb hx w hT).mono ?_
  rintro e w' ⟨rfl, hb'⟩
  go_wp2
  go_ret
  exact ⟨rfl, hb'⟩


set_option maxRecDepth 100000 in
set_option maxHeartbeats 1000000 in
theorem form_f_in (b : Nat) (hb : b < 18446744073709551616) (hx : exB b ≤ 2046) (w : World) (hT : NumTabs w) :
    Calls Tryz.prog 295 #[.float .f64 b, .int .u8 102, .int .i64 (-1), .int .i64 64] w fun e w' => e = .returned (.string ⟨(fOf b).toArray⟩) ∧ Below w.heap.size w w' := by
  have hsz := hT.size
  obtain ⟨i0, hi, hz0, hz1, hz2⟩ := info_parts infoByte
  obtain ⟨W, hmk, hown, hg⟩ := run_make_own (P := Tryz.prog) w w.heap.size 58 5 i0 (.int .u8 0) 1 Tryz.underlying58 hi hz0 hz1 .i64 .i64 24 (by rw [hz2]; omega) (by simp [maxLen]) (Nat.le_refl _)
  have hbel : Below w.heap.size w W := (Below.refl _ w).grown hg (Nat.le_refl _) (fun k hk => by cases hk)
  have k : Wr w W 5 w.heap.size 0 [] (.slice (some ⟨w.heap.size, 0, none⟩) 0 24) [] := ⟨hown, by intro h; simp only [Value.ownBlock, Option.some.injEq] at h; omega, fun j hj => absurd hj (by simp), by have := hbel.size; omega, hbel.size, hbel⟩
  rw [show (((24 : Nat)) : Int) = max 3 24 from rfl] at hmk
  go_enter Tryz.func295, Tryz.ntmps295
  go_wp2_with fail
  refine (ftoa_f_all b hb hx w.heap.size w W 0 _ [] k (hT.below hbel)).mono ?_
  rintro e w' ⟨v', b1, l1, rfl, k'⟩
  have hst := arr_string (P := Tryz.prog) (Arr.of_own k'.own (Nat.le_refl _)) 58 9 5 Tryz.underlying58 Tryz.underlying5 Tryz.underlying9
  go_wp2
  go_ret
  exact ⟨rfl, k'.bel⟩
theorem form_f (b : Nat) (hb : b < 18446744073709551616) (hx : exB b ≤ 2046) (w : World) (hT : NumTabs w) :
    Calls Tryz.prog 231 #[.float .f64 b, .int .u8 102, .int .i64 (-1), .int .i64 64] w fun e w' => e = .returned (.string ⟨(fOf b).toArray⟩) ∧ Below w.heap.size w w' := by
  go_enter Tryz.func231, Tryz.ntmps231
  go_wp2_with fail
  refine (form_f_in b hb hx w hT).mono ?_
  rintro e w' ⟨rfl, hb'⟩
  go_wp2
  go_ret
  exact ⟨rfl, hb'⟩

end Go.Proofs.YtpobdmkidopnnaaGreatDoor
namespace Go.Proofs.YtpobdmkidopnnaaGreatDoor
open Go Go.RowKit

/-- A magnitude's bits as a multiple of the least double. -/
def vN (r : Nat) : Nat := if r < 4503599627370496 then r else (4503599627370496 + r % 4503599627370496) * 2 ^ (r / 4503599627370496 - 1)
def szB (b : Nat) : Nat := b % 9223372036854775808
/-- The place of a double's bits in the order of the doubles. -/
def sv (b : Nat) : Int := if b / 9223372036854775808 % 2 = 1 then -(szB b : Int) else (szB b : Int)

theorem vN_succ (r : Nat) : vN r < vN (r + 1) := by
  unfold vN
  by_cases h : r + 1 < 4503599627370496
  · rw [if_pos (by omega), if_pos h]; omega
  · by_cases h2 : r + 1 = 4503599627370496
    · have e : r = 4503599627370495 := by omega
      subst e
      decide
    · rw [if_neg (by omega), if_neg h]
      by_cases h3 : r % 4503599627370496 + 1 < 4503599627370496
      · have e1 : (r + 1) % 4503599627370496 = r % 4503599627370496 + 1 := by omega
        have e2 : (r + 1) / 4503599627370496 = r / 4503599627370496 := by omega
        rw [e1, e2]
        exact Nat.mul_lt_mul_of_pos_right (by omega) (Nat.pow_pos (by omega))
      · have e1 : (r + 1) % 4503599627370496 = 0 := by omega
        have e2 : (r + 1) / 4503599627370496 - 1 = (r / 4503599627370496 - 1) + 1 := by omega
        rw [e1, e2, Nat.pow_succ]
        have hp : 0 < 2 ^ (r / 4503599627370496 - 1) := Nat.pow_pos (by omega)
        have e3 : (4503599627370496 + 0) * (2 ^ (r / 4503599627370496 - 1) * 2) = 9007199254740992 * 2 ^ (r / 4503599627370496 - 1) := by omega
        rw [e3]
        exact Nat.mul_lt_mul_of_pos_right (by omega) hp
theorem vN_mono {a b : Nat} (h : a < b) : vN a < vN b := by
  induction b with
  | zero => omega
  | succ n ih =>
    rcases Nat.lt_or_ge a n with h1 | h1
    · exact Nat.lt_trans (ih h1) (vN_succ n)
    · rw [show a = n from by omega]; exact vN_succ n
theorem vN_zero : vN 0 = 0 := rfl
theorem read_fin (b : Nat) (h : szB b < 9218868437227405312) : ∃ (m k : Nat), Ieee.double.read b = .number (b / 9223372036854775808 % 2 == 1) m (-1074 + (k : Int)) ∧ m * 2 ^ k = vN (szB b) := by
  unfold szB at h ⊢
  have d1 : Ieee.double.signWeight = 9223372036854775808 := rfl
  have d2 : Ieee.double.binade = 4503599627370496 := rfl
  have d3 : Ieee.double.infRung = 9218868437227405312 := rfl
  have d4 : Ieee.double.leastPlace = -1074 := rfl
  unfold Ieee.Format.read
  simp only [d1, d2, d3, d4]
  by_cases h1 : b % 9223372036854775808 < 4503599627370496
  · rw [if_pos h1]
    exact ⟨_, 0, rfl, by unfold vN; rw [if_pos h1]; omega⟩
  · rw [if_neg h1, if_pos h]
    exact ⟨_, _, rfl, by unfold vN; rw [if_neg h1]⟩
theorem read_inf (b : Nat) (h : szB b = 9218868437227405312) : Ieee.double.read b = .infinity (b / 9223372036854775808 % 2 == 1) := by
  unfold szB at h
  have d1 : Ieee.double.signWeight = 9223372036854775808 := rfl
  have d2 : Ieee.double.binade = 4503599627370496 := rfl
  have d3 : Ieee.double.infRung = 9218868437227405312 := rfl
  unfold Ieee.Format.read
  simp only [d1, d2, d3]
  rw [if_neg (by omega), if_neg (by omega), if_pos h]
theorem read_nan (b : Nat) (h : 9218868437227405312 < szB b) : ∃ s t, Ieee.double.read b = .nan s t := by
  unfold szB at h
  have d1 : Ieee.double.signWeight = 9223372036854775808 := rfl
  have d2 : Ieee.double.binade = 4503599627370496 := rfl
  have d3 : Ieee.double.infRung = 9218868437227405312 := rfl
  unfold Ieee.Format.read
  simp only [d1, d2, d3]
  rw [if_neg (by omega), if_neg (by omega), if_neg (by omega)]
  exact ⟨_, _, rfl⟩
theorem cmp_scale (x y : Int) (c : Nat) (hc : 0 < c) : compare x y = compare (x * c) (y * c) := by
  have hc' : (0 : Int) < c := by omega
  rcases Int.lt_trichotomy x y with h | h | h
  · have := Int.mul_lt_mul_of_pos_right h hc'
    simp only [compare, compareOfLessAndEq, if_pos h, if_pos this]
  · subst h; simp [compare, compareOfLessAndEq]
  · have := Int.mul_lt_mul_of_pos_right h hc'
    simp only [compare, compareOfLessAndEq]
    rw [if_neg (by omega), if_neg (by omega), if_neg (by omega), if_neg (by omega)]
def sg (s : Bool) (n : Nat) : Int := if s then -(n : Int) else n
theorem signed_scale (s : Bool) (m u c : Nat) : Ieee.signed s m u * ((2 ^ c : Nat) : Int) = sg s (m * 2 ^ (u + c)) := by
  unfold Ieee.signed sg
  rw [Nat.shiftLeft_eq, Nat.pow_add, ← Nat.mul_assoc]
  cases s <;> simp [Int.neg_mul]
theorem cmp_of {x y u v : Int} (h1 : x < y ↔ u < v) (h2 : x = y ↔ u = v) : compare x y = compare u v := by
  simp only [compare, compareOfLessAndEq, h1, h2]
theorem cmp_sg (s t : Bool) (a b : Nat) : compare (sg s (vN a)) (sg t (vN b)) = compare (sg s a) (sg t b) := by
  have hz := vN_zero
  have A0 : 0 < a → 0 < vN a := fun h => vN_mono h
  have A1 : a = 0 → vN a = 0 := fun h => by rw [h]; exact hz
  have B0 : 0 < b → 0 < vN b := fun h => vN_mono h
  have B1 : b = 0 → vN b = 0 := fun h => by rw [h]; exact hz
  have C0 : a < b → vN a < vN b := fun h => vN_mono h
  have C1 : b < a → vN b < vN a := fun h => vN_mono h
  have C2 : a = b → vN a = vN b := fun h => by rw [h]
  cases s <;> cases t <;> refine cmp_of ?_ ?_ <;> simp only [sg, Bool.false_eq_true, if_false, if_true] <;> omega
theorem sv_sg (b : Nat) : sv b = sg (b / 9223372036854775808 % 2 == 1) (szB b) := by
  unfold sv sg
  simp only [beq_iff_eq]
/-- The order of two doubles, neither of them not a number. -/
theorem order_is (a b : Nat) (ha : szB a ≤ 9218868437227405312) (hb : szB b ≤ 9218868437227405312) : Ieee.double.order a b = some (compare (sv a) (sv b)) := by
  unfold Ieee.Format.order
  rw [sv_sg, sv_sg]
  obtain ⟨s, hs⟩ : ∃ s, (a / 9223372036854775808 % 2 == 1) = s := ⟨_, rfl⟩
  obtain ⟨t, ht⟩ : ∃ t, (b / 9223372036854775808 % 2 == 1) = t := ⟨_, rfl⟩
  rcases Nat.lt_or_ge (szB a) 9218868437227405312 with h1 | h1
  · obtain ⟨m, k, e1, e2⟩ := read_fin a h1
    rcases Nat.lt_or_ge (szB b) 9218868437227405312 with h2 | h2
    · obtain ⟨n, l, e3, e4⟩ := read_fin b h2
      rw [e1, e3, hs, ht]
      unfold Ieee.Datum.order
      simp only [Option.some.injEq]
      rw [cmp_scale _ _ (2 ^ min k l) (Nat.pow_pos (by omega)), signed_scale, signed_scale]
      rw [show (-1074 + (k : Int) - min (-1074 + (k : Int)) (-1074 + (l : Int))).toNat + min k l = k from by omega, show (-1074 + (l : Int) - min (-1074 + (k : Int)) (-1074 + (l : Int))).toNat + min k l = l from by omega, e2, e4]
      exact cmp_sg _ _ _ _
    · rw [e1, read_inf b (by omega), hs, ht, show szB b = 9218868437227405312 from by omega]
      unfold Ieee.Datum.order
      cases s <;> cases t <;> simp only [sg, Bool.false_eq_true, if_false, if_true, Option.some.injEq] <;> symm <;> first | exact Int.compare_eq_lt.2 (by omega) | exact Int.compare_eq_gt.2 (by omega)
  · rcases Nat.lt_or_ge (szB b) 9218868437227405312 with h2 | h2
    · obtain ⟨n, l, e3, e4⟩ := read_fin b h2
      rw [e3, read_inf a (by omega), hs, ht, show szB a = 9218868437227405312 from by omega]
      unfold Ieee.Datum.order
      cases s <;> cases t <;> simp only [sg, Bool.false_eq_true, if_false, if_true, Option.some.injEq] <;> symm <;> first | exact Int.compare_eq_lt.2 (by omega) | exact Int.compare_eq_gt.2 (by omega)
    · rw [read_inf a (by omega), read_inf b (by omega), hs, ht, show szB a = 9218868437227405312 from by omega, show szB b = 9218868437227405312 from by omega]
      unfold Ieee.Datum.order
      cases s <;> cases t <;> simp [sg, compare, compareOfLessAndEq]
theorem order_nan (a b : Nat) (h : 9218868437227405312 < szB a ∨ 9218868437227405312 < szB b) : Ieee.double.order a b = none := by
  unfold Ieee.Format.order
  rcases h with h | h
  · obtain ⟨s, t, e⟩ := read_nan a h
    rw [e]
    rfl
  · obtain ⟨s, t, e⟩ := read_nan b h
    rw [e]
    cases Ieee.double.read a <;> rfl
end Go.Proofs.YtpobdmkidopnnaaGreatDoor
namespace Go.Proofs.YtpobdmkidopnnaaGreatDoor
open Go Go.RowKit

theorem andNot_top (b : Nat) (hb : b < 18446744073709551616) : bits .andNot .u64 (b : Int) 9223372036854775808 = ((szB b : Nat) : Int) := by
  have h := u64_andNot_nat b 9223372036854775808 hb (by omega)
  have e : b &&& 9223372036854775807 = b % 9223372036854775808 := Nat.and_two_pow_sub_one_eq_mod b 63
  unfold szB
  rw [← e]
  exact h
theorem absB_is (b : Nat) (hb : b < 18446744073709551616) : absB b = szB b := by
  unfold absB
  rw [andNot_top b hb]
  rfl
def ordF (a b : Nat) : Option Ordering := FloatKind.f64.format.order a b
theorem ordF_is (a b : Nat) (ha : szB a ≤ 9218868437227405312) (hb : szB b ≤ 9218868437227405312) : FloatKind.f64.format.order a b = some (compare (sv a) (sv b)) := order_is a b ha hb
theorem ordF_nan (a b : Nat) (h : 9218868437227405312 < szB a ∨ 9218868437227405312 < szB b) : FloatKind.f64.format.order a b = none := order_nan a b h
theorem eq_self (b : Nat) : (FloatKind.f64.format.order b b != some .eq) = decide (9218868437227405312 < szB b) := by
  rcases Nat.lt_or_ge 9218868437227405312 (szB b) with h | h
  · rw [ordF_nan b b (.inl h), decide_eq_true h]; rfl
  · rw [ordF_is b b h h, decide_eq_false (by omega), Int.compare_eq_eq.2 rfl]; rfl
theorem eq_cmp (a b : Nat) (hb : szB b ≤ 9218868437227405312) : (FloatKind.f64.format.order a b == some .eq) = decide (szB a ≤ 9218868437227405312 ∧ sv a = sv b) := by
  rcases Nat.lt_or_ge 9218868437227405312 (szB a) with h | h
  · rw [ordF_nan a b (.inl h), decide_eq_false (by omega)]; rfl
  · rw [ordF_is a b h hb, Bool.eq_iff_iff, beq_iff_eq, decide_eq_true_iff, Option.some.injEq, Int.compare_eq_eq]
    exact ⟨fun e => ⟨h, e⟩, fun e => e.2⟩
theorem lt_cmp (a b : Nat) (hb : szB b ≤ 9218868437227405312) : (FloatKind.f64.format.order a b == some .lt) = decide (szB a ≤ 9218868437227405312 ∧ sv a < sv b) := by
  rcases Nat.lt_or_ge 9218868437227405312 (szB a) with h | h
  · rw [ordF_nan a b (.inl h), decide_eq_false (by omega)]; rfl
  · rw [ordF_is a b h hb, Bool.eq_iff_iff, beq_iff_eq, decide_eq_true_iff, Option.some.injEq, Int.compare_eq_lt]
    exact ⟨fun e => ⟨h, e⟩, fun e => e.2⟩
theorem gt_cmp (a b : Nat) (hb : szB b ≤ 9218868437227405312) : (FloatKind.f64.format.order a b == some .gt) = decide (szB a ≤ 9218868437227405312 ∧ sv b < sv a) := by
  rcases Nat.lt_or_ge 9218868437227405312 (szB a) with h | h
  · rw [ordF_nan a b (.inl h), decide_eq_false (by omega)]; rfl
  · rw [ordF_is a b h hb, Bool.eq_iff_iff, beq_iff_eq, decide_eq_true_iff, Option.some.injEq, Int.compare_eq_gt]
    exact ⟨fun e => ⟨h, e⟩, fun e => e.2⟩

theorem sizeBits_any (b : Nat) (hb : b < 18446744073709551616) (w : World) : Calls Tryz.prog 250 #[.float .f64 b] w fun e w' => e = .returned (.int .u64 (szB b)) ∧ w = w' := by
  have h1 := bits_math
  have h2 := andNot_top b hb
  go_enter Tryz.func250, Tryz.ntmps250
  go_wp2_with fail
  go_ret
  exact ⟨rfl, rfl⟩
theorem isFinite_any (b : Nat) (hb : b < 18446744073709551616) (w : World) : Calls Tryz.prog 292 #[.float .f64 b] w fun e w' => e = .returned (.bool (decide (szB b < 9218868437227405312))) ∧ w = w' := by
  have hs : decide ((szB b : Int) < 9218868437227405312) = decide (szB b < 9218868437227405312) := by rw [decide_eq_decide]; omega
  go_enter Tryz.func292, Tryz.ntmps292
  go_wp2_with fail
  refine (sizeBits_any b hb w).mono ?_
  rintro e w' ⟨rfl, rfl⟩
  go_wp2_with fail
  go_ret
  exact ⟨rfl, rfl⟩
theorem isNumber_any (b : Nat) (hb : b < 18446744073709551616) (w : World) : Calls Tryz.prog 181 #[.float .f64 b] w fun e w' => e = .returned (.bool (decide (szB b ≤ 9218868437227405312))) ∧ w = w' := by
  have hs : decide ((szB b : Int) ≤ 9218868437227405312) = decide (szB b ≤ 9218868437227405312) := by rw [decide_eq_decide]; omega
  go_enter Tryz.func181, Tryz.ntmps181
  go_wp2_with fail
  refine (sizeBits_any b hb w).mono ?_
  rintro e w' ⟨rfl, rfl⟩
  go_wp2_with fail
  go_ret
  exact ⟨rfl, rfl⟩
theorem IsNaN_any (b : Nat) (w : World) : Calls Tryz.prog 98 #[.float .f64 b] w fun e w' => e = .returned (.bool (decide (9218868437227405312 < szB b))) ∧ w = w' := by
  have h := eq_self b
  go_enter Tryz.func98, Tryz.ntmps98
  go_wp2_with fail
  go_ret
  exact ⟨rfl, rfl⟩
theorem sv_low (b : Nat) (h : b < 9223372036854775808) : sv b = b := by
  unfold sv szB; rw [if_neg (by omega)]; omega
theorem IsInf_any (b : Nat) (hb : b < 18446744073709551616) (w : World) : Calls Tryz.prog 225 #[.float .f64 b, .int .i64 0] w fun e w' => e = .returned (.bool (decide (szB b = 9218868437227405312))) ∧ w = w' := by
  have hlt : szB b < 9223372036854775808 := Nat.mod_lt _ (by omega)
  have hzz : szB (szB b) = szB b := by show szB b % 9223372036854775808 = _; omega
  have h : (FloatKind.f64.format.order (szB b) 9218868437227405311 == some .gt) = decide (szB b = 9218868437227405312) := by
    rw [gt_cmp _ _ (by decide), hzz, sv_low _ hlt, sv_low _ (by omega), decide_eq_decide]; omega
  have ha := Abs_any b
  rw [absB_is b hb] at ha
  go_enter Tryz.func225, Tryz.ntmps225
  go_wp2_with fail
  refine (ha w).mono ?_
  rintro e w' ⟨rfl, rfl⟩
  go_wp2_with fail
  go_ret
  exact ⟨rfl, rfl⟩
end Go.Proofs.YtpobdmkidopnnaaGreatDoor
namespace Go.Proofs.YtpobdmkidopnnaaGreatDoor
open Go Go.RowKit

/-- The double without its fraction. -/
def trB (b : Nat) : Nat := Ieee.double.write ((Ieee.double.read b).integral .zero)
theorem trunc_ext (b : Nat) (hf : szB b < 9218868437227405312) (w : World) : (callFunc 251 #[.float .f64 b]).run Tryz.prog w = .ok (.value (.float .f64 (trB b))) w := by
  obtain ⟨m, k, e1, _⟩ := read_fin b hf
  rw [run_callFunc_extern Tryz.func251 (by kernel_rfl) (by kernel_rfl) (by kernel_rfl) (e := Extern.MathFloor.toIntegral "math.archTrunc" .zero) (by kernel_rfl)]
  have e : FloatKind.f64.decode b = .number (b / 9223372036854775808 % 2 == 1) m (-1074 + (k : Int)) := e1
  have e2 : Extern.MathFloor.toIntegral "math.archTrunc" .zero #[.float .f64 b] = pure (.float .f64 (trB b)) := by
    unfold trB
    rw [e1]
    delta Extern.MathFloor.toIntegral
    conv => lhs; whnf
    rw [e]
    rfl
  rw [e2]
  rfl
theorem Trunc_any (b : Nat) (hf : szB b < 9218868437227405312) (w : World) : Calls Tryz.prog 184 #[.float .f64 b] w fun e w' => e = .returned (.float .f64 (trB b)) ∧ w = w' := by
  have h := trunc_ext b hf
  go_enter Tryz.func184, Tryz.ntmps184
  go_wp2_with fail
  go_ret
  exact ⟨rfl, rfl⟩
theorem eq_turn (a b : Nat) : (FloatKind.f64.format.order a b == some .eq) = (FloatKind.f64.format.order b a == some .eq) := by
  rcases Nat.lt_or_ge 9218868437227405312 (szB a) with h | h
  · rw [ordF_nan a b (.inl h), ordF_nan b a (.inr h)]
  · rcases Nat.lt_or_ge 9218868437227405312 (szB b) with h' | h'
    · rw [ordF_nan a b (.inr h'), ordF_nan b a (.inl h')]
    · rw [ordF_is a b h h', ordF_is b a h' h, Bool.eq_iff_iff, beq_iff_eq, beq_iff_eq, Option.some.injEq, Option.some.injEq, Int.compare_eq_eq, Int.compare_eq_eq]
      exact ⟨Eq.symm, Eq.symm⟩
def wholeB (b : Nat) : Bool := decide (szB b < 9218868437227405312) && (FloatKind.f64.format.order b (trB b) == some .eq)
end Go.Proofs.YtpobdmkidopnnaaGreatDoor
namespace Go.Proofs.YtpobdmkidopnnaaGreatDoor
open Go Go.RowKit

theorem read_fin3 (b : Nat) (h : szB b < 9218868437227405312) : ∃ (m k : Nat), Ieee.double.read b = .number (b / 9223372036854775808 % 2 == 1) m (-1074 + (k : Int)) ∧ m * 2 ^ k = vN (szB b) ∧ m < 9007199254740992 := by
  unfold szB at h ⊢
  have d1 : Ieee.double.signWeight = 9223372036854775808 := rfl
  have d2 : Ieee.double.binade = 4503599627370496 := rfl
  have d3 : Ieee.double.infRung = 9218868437227405312 := rfl
  have d4 : Ieee.double.leastPlace = -1074 := rfl
  unfold Ieee.Format.read
  simp only [d1, d2, d3, d4]
  by_cases h1 : b % 9223372036854775808 < 4503599627370496
  · rw [if_pos h1]
    exact ⟨_, 0, rfl, by unfold vN; rw [if_pos h1]; omega, by omega⟩
  · rw [if_neg h1, if_pos h]
    exact ⟨_, _, rfl, by unfold vN; rw [if_neg h1], by omega⟩
theorem log_low (n : Nat) : n < 2 ^ (n.log2 + 2) := Nat.lt_of_lt_of_le Nat.lt_log2_self (Nat.pow_le_pow_right (by omega) (by omega))
theorem cut_gap (n d : Nat) : n / 2 ^ min d (n.log2 + 2) = n / 2 ^ d := by
  rcases Nat.le_total d (n.log2 + 2) with h | h
  · rw [Nat.min_eq_left h]
  · rw [Nat.min_eq_right h, Nat.div_eq_of_lt (log_low n), Nat.div_eq_of_lt (Nat.lt_of_lt_of_le (log_low n) (Nat.pow_le_pow_right (by omega) h))]
theorem cut_zero (s : Bool) (n d : Nat) : Ieee.Toward.zero.cut s n d = n / 2 ^ d := by
  unfold Ieee.Toward.cut
  simp only [Nat.one_shiftLeft]
  rw [cut_gap]
  simp
theorem cut_even (s : Bool) (n d : Nat) (hd : n % 2 ^ d = 0) : Ieee.Toward.even.cut s n d = n / 2 ^ d := by
  unfold Ieee.Toward.cut
  simp only [Nat.one_shiftLeft]
  have hz : n % 2 ^ min d (n.log2 + 2) = 0 := by
    rcases Nat.le_total d (n.log2 + 2) with h | h
    · rw [Nat.min_eq_left h, hd]
    · have : n < 2 ^ d := Nat.lt_of_lt_of_le (log_low n) (Nat.pow_le_pow_right (by omega) h)
      rw [Nat.mod_eq_of_lt this] at hd
      rw [hd, Nat.zero_mod]
  have hp : 0 < 2 ^ min d (n.log2 + 2) := Nat.pow_pos (by omega)
  rw [hz, cut_gap]
  have e1 : decide (2 ^ min d (n.log2 + 2) < 2 * 0) = false := decide_eq_false (by omega)
  have e2 : (2 ^ min d (n.log2 + 2) == 2 * 0) = false := by rw [beq_eq_false_iff_ne]; omega
  rw [e1, e2]
  simp
set_option exponentiation.threshold 2000 in
theorem toInt_num (s : Bool) (m k N : Nat) (h : m * 2 ^ k = N) : (Ieee.Datum.number s m (-1074 + (k : Int))).toInt .zero = some (sg s (N / 2 ^ 1074)) ∧ (Ieee.Datum.number s m (-1074 + (k : Int))).integral .zero = .number s (N / 2 ^ 1074) 0 := by
  have hi : (Ieee.Datum.number s m (-1074 + (k : Int))).integral .zero = .number s (N / 2 ^ 1074) 0 := by
    unfold Ieee.Datum.integral
    simp only [Ieee.Datum.number.injEq, and_true, true_and]
    rw [cut_zero, Nat.shiftLeft_eq, ← h]
    rcases Nat.le_total 1074 k with hk | hk
    · rw [show (-1074 + (k : Int)).toNat = k - 1074 from by omega, show (-(-1074 + (k : Int))).toNat = 0 from by omega]
      have e : 2 ^ k = 2 ^ (k - 1074) * 2 ^ 1074 := by rw [← Nat.pow_add, show k - 1074 + 1074 = k from by omega]
      rw [e, ← Nat.mul_assoc, Nat.mul_div_cancel _ (Nat.pow_pos (by omega)), Nat.pow_zero, Nat.div_one]
    · rw [show (-1074 + (k : Int)).toNat = 0 from by omega, show (-(-1074 + (k : Int))).toNat = 1074 - k from by omega]
      have e : 2 ^ 1074 = 2 ^ (1074 - k) * 2 ^ k := by rw [← Nat.pow_add, show 1074 - k + k = 1074 from by omega]
      rw [e, Nat.mul_div_mul_right _ _ (Nat.pow_pos (by omega)), Nat.pow_zero, Nat.mul_one]
  refine ⟨?_, hi⟩
  unfold Ieee.Datum.toInt
  rw [hi]
  simp only [Option.some.injEq]
  unfold Ieee.signed sg
  rw [Nat.shiftLeft_zero]
set_option exponentiation.threshold 2000 in
/-- An integer of at most 53 digits is written and read as itself. -/
theorem near_int (s : Bool) (M : Nat) (hM : M < 9223372036854775808) (hx : 52 < M.log2 → M % 2 ^ (M.log2 - 52) = 0) : (Ieee.double.read (Ieee.double.nearest s M 0)).toInt .zero = some (sg s M) := by
  have d1 : Ieee.double.signWeight = 9223372036854775808 := rfl
  have d2 : Ieee.double.binade = 4503599627370496 := rfl
  have d3 : Ieee.double.infRung = 9218868437227405312 := rfl
  have d4 : Ieee.double.leastPlace = -1074 := rfl
  have d5 : Ieee.double.fractionBits = 52 := rfl
  by_cases h0 : M = 0
  · subst h0
    have e : Ieee.double.nearest s 0 0 = if s then 9223372036854775808 else 0 := by unfold Ieee.Format.nearest Ieee.Format.word; rw [if_pos rfl, d1]
    rw [e]
    cases s <;> decide +kernel
  · have l1 : 2 ^ M.log2 ≤ M := Nat.log2_self_le h0
    have l2 : M < 2 ^ (M.log2 + 1) := Nat.lt_log2_self
    obtain ⟨L, hL⟩ : ∃ L, M.log2 = L := ⟨_, rfl⟩
    rw [hL] at l1 l2 hx
    have l3 : L ≤ 62 := by
      rcases Nat.lt_or_ge 62 L with h | h
      · have := Nat.pow_le_pow_right (by omega : 0 < 2) h
        omega
      · exact h
    obtain ⟨K, hK⟩ : ∃ K, Ieee.Toward.even.cut s (M <<< (0 - ((L : Int) - 52)).toNat) (((L : Int) - 52) - 0).toNat = K := ⟨_, rfl⟩
    have hKK : K * 2 ^ (L + 1022) = M * 2 ^ 1074 ∧ 4503599627370496 ≤ K ∧ K < 9007199254740992 := by
      rcases Nat.lt_or_ge 52 L with h | h
      · rw [show (0 - ((L : Int) - 52)).toNat = 0 from by omega, show (((L : Int) - 52) - 0).toNat = L - 52 from by omega, Nat.shiftLeft_zero, cut_even _ _ _ (hx h)] at hK
        have e : K * 2 ^ (L - 52) = M := by
          rw [← hK]
          exact Nat.div_mul_cancel (Nat.dvd_of_mod_eq_zero (hx h))
        have e1 : 2 ^ L = 4503599627370496 * 2 ^ (L - 52) := by
          rw [show L = 52 + (L - 52) from by omega, Nat.pow_add, show 52 + (L - 52) - 52 = L - 52 from by omega]
        have hp : 0 < 2 ^ (L - 52) := Nat.pow_pos (by omega)
        refine ⟨?_, ?_, ?_⟩
        · rw [show L + 1022 = (L - 52) + 1074 from by omega, Nat.pow_add, ← Nat.mul_assoc, e]
        · rw [e1, ← e] at l1
          exact Nat.le_of_mul_le_mul_right l1 hp
        · rw [Nat.pow_succ, e1, ← e] at l2
          have l4 : K * 2 ^ (L - 52) < 9007199254740992 * 2 ^ (L - 52) := by omega
          exact Nat.lt_of_mul_lt_mul_right l4
      · rw [show (0 - ((L : Int) - 52)).toNat = 52 - L from by omega, show (((L : Int) - 52) - 0).toNat = 0 from by omega, Nat.shiftLeft_eq, cut_even _ _ _ (by rw [Nat.pow_zero, Nat.mod_one]), Nat.pow_zero, Nat.div_one] at hK
        have e1 : 2 ^ L * 2 ^ (52 - L) = 4503599627370496 := by rw [← Nat.pow_add, show L + (52 - L) = 52 from by omega]
        have hp : 0 < 2 ^ (52 - L) := Nat.pow_pos (by omega)
        refine ⟨?_, ?_, ?_⟩
        · rw [← hK, Nat.mul_assoc, ← Nat.pow_add, show 52 - L + (L + 1022) = 1074 from by omega]
        · rw [← hK, ← e1]; exact Nat.mul_le_mul_right _ l1
        · have := Nat.mul_lt_mul_of_pos_right l2 hp
          rw [Nat.pow_succ, Nat.mul_right_comm, e1] at this
          omega
    obtain ⟨k1, k2, k3⟩ := hKK
    have e : Ieee.double.nearest s M 0 = (if s then 9223372036854775808 else 0) + ((L + 1022) * 4503599627370496 + K) := by
      unfold Ieee.Format.nearest Ieee.Format.word
      rw [if_neg h0]
      simp only [d1, d2, d3, d4, d5, hL]
      rw [show max (0 + (L : Int) - ((52 : Nat) : Int)) (-1074) = (L : Int) - 52 from by omega, hK, show ((L : Int) - 52 - -1074).toNat = L + 1022 from by omega]
      rw [Nat.min_eq_left (by omega)]
      cases s <;> simp
    rw [e]
    have hsz : szB ((if s then 9223372036854775808 else 0) + ((L + 1022) * 4503599627370496 + K)) = (L + 1022) * 4503599627370496 + K := by
      unfold szB
      cases s <;> simp only [Bool.false_eq_true, if_false, if_true] <;> omega
    have hv : vN ((L + 1022) * 4503599627370496 + K) = M * 2 ^ 1074 := by
      unfold vN
      rw [if_neg (by omega), show ((L + 1022) * 4503599627370496 + K) / 4503599627370496 - 1 = L + 1022 from by omega, show 4503599627370496 + ((L + 1022) * 4503599627370496 + K) % 4503599627370496 = K from by omega, k1]
    have hsg : (((if s then 9223372036854775808 else 0) + ((L + 1022) * 4503599627370496 + K)) / 9223372036854775808 % 2 == 1) = s := by
      cases s <;> simp only [Bool.false_eq_true, if_false, if_true]
      · rw [beq_eq_false_iff_ne]; omega
      · rw [beq_iff_eq]; omega
    obtain ⟨m, k, r1, r2, _⟩ := read_fin3 _ (by rw [hsz]; omega : szB ((if s then 9223372036854775808 else 0) + ((L + 1022) * 4503599627370496 + K)) < 9218868437227405312)
    rw [r1, hsg, (toInt_num s m k _ r2).1, hsz, hv, Nat.mul_div_cancel _ (Nat.pow_pos (by omega))]
end Go.Proofs.YtpobdmkidopnnaaGreatDoor
namespace Go.Proofs.YtpobdmkidopnnaaGreatDoor
open Go Go.RowKit

def sgB (b : Nat) : Bool := b / 9223372036854775808 % 2 == 1
/-- The magnitude without its fraction. -/
def mB (b : Nat) : Nat := vN (szB b) / 2 ^ 1074
def iB (b : Nat) : Int := sg (sgB b) (mB b)
set_option exponentiation.threshold 2000 in
theorem vN_63 : vN 4890909195324358656 = 9223372036854775808 * 2 ^ 1074 := by decide +kernel
set_option exponentiation.threshold 2000 in
theorem mB_lt (b : Nat) (h : szB b < 4890909195324358656) : mB b < 9223372036854775808 := by
  have hv := vN_mono h
  rw [vN_63] at hv
  unfold mB
  exact Nat.div_lt_of_lt_mul (by rw [Nat.mul_comm]; exact hv)
set_option exponentiation.threshold 2000 in
theorem mB_63 (b : Nat) (h : szB b = 4890909195324358656) : mB b = 9223372036854775808 := by
  unfold mB
  rw [h, vN_63, Nat.mul_div_cancel _ (Nat.pow_pos (by omega))]
theorem toInt_is (b : Nat) (h : szB b < 9218868437227405312) : (Ieee.double.read b).toInt .zero = some (iB b) := by
  obtain ⟨m, k, e1, e2, _⟩ := read_fin3 b h
  rw [e1]
  exact (toInt_num _ m k _ e2).1
theorem trB_is (b : Nat) (h : szB b < 9218868437227405312) : trB b = Ieee.double.nearest (sgB b) (mB b) 0 := by
  obtain ⟨m, k, e1, e2, _⟩ := read_fin3 b h
  unfold trB
  rw [e1, (toInt_num _ m k _ e2).2]
  rfl
set_option exponentiation.threshold 2000 in
theorem mB_exact (b : Nat) (h : szB b < 9218868437227405312) (h52 : 52 < (mB b).log2) : mB b % 2 ^ ((mB b).log2 - 52) = 0 := by
  obtain ⟨m, k, _, e2, e3⟩ := read_fin3 b h
  have h0 : mB b ≠ 0 := by
    intro e
    rw [e] at h52
    simp at h52
  have l1 := Nat.log2_self_le h0
  obtain ⟨L, hL⟩ : ∃ L, (mB b).log2 = L := ⟨_, rfl⟩
  rw [hL] at h52 l1 ⊢
  rcases Nat.lt_or_ge k 1074 with hk | hk
  · exfalso
    have e : 2 ^ 1074 = 2 ^ (1074 - k) * 2 ^ k := by rw [← Nat.pow_add, show 1074 - k + k = 1074 from by omega]
    have hm : mB b ≤ m := by
      unfold mB
      rw [← e2, e, Nat.mul_div_mul_right _ _ (Nat.pow_pos (by omega))]
      exact Nat.div_le_self _ _
    have := Nat.pow_le_pow_right (by omega : 0 < 2) h52
    omega
  · have e : 2 ^ k = 2 ^ (k - 1074) * 2 ^ 1074 := by rw [← Nat.pow_add, show k - 1074 + 1074 = k from by omega]
    have hm : mB b = m * 2 ^ (k - 1074) := by
      unfold mB
      rw [← e2, e, ← Nat.mul_assoc, Nat.mul_div_cancel _ (Nat.pow_pos (by omega))]
    have hLk : L - 52 ≤ k - 1074 := by
      rcases Nat.lt_or_ge (k - 1074) (L - 52) with hlt | hge
      · exfalso
        have h1 : m * 2 ^ (k - 1074) < 9007199254740992 * 2 ^ (k - 1074) := Nat.mul_lt_mul_of_pos_right e3 (Nat.pow_pos (by omega))
        have h2 : 9007199254740992 * 2 ^ (k - 1074) = 2 ^ (53 + (k - 1074)) := by rw [Nat.pow_add]
        have h3 := Nat.pow_le_pow_right (by omega : 0 < 2) (by omega : 53 + (k - 1074) ≤ L)
        omega
      · exact hge
    rw [hm, show k - 1074 = (k - 1074 - (L - 52)) + (L - 52) from by omega, Nat.pow_add, ← Nat.mul_assoc, Nat.mul_mod_left]
theorem toInt_tr (b : Nat) (h : szB b < 4890909195324358656) : (Ieee.double.read (trB b)).toInt .zero = some (iB b) := by
  rw [trB_is b (by omega)]
  exact near_int _ _ (mB_lt b h) (mB_exact b (by omega))
theorem tr_63 : (Ieee.double.read (Ieee.double.nearest true 9223372036854775808 0)).toInt .zero = some (-9223372036854775808) := by decide +kernel
theorem val_of (b : Nat) (n : Int) (h : (Ieee.double.read b).toInt .zero = some n) (h1 : -9223372036854775808 ≤ n) (h2 : n ≤ 9223372036854775807) : floatToIntVal .f64 b .i64 = some n := by
  have h' : (FloatKind.f64.decode b).toInt .zero = some n := h
  unfold floatToIntVal
  rw [h']
  have e1 : IntKind.i64.min = -9223372036854775808 := by decide
  have e2 : IntKind.i64.max = 9223372036854775807 := by decide
  simp only [e1, e2]
  rw [if_pos ⟨h1, h2⟩]
theorem iB_in (b : Nat) (h : szB b < 4890909195324358656) : -9223372036854775808 ≤ iB b ∧ iB b ≤ 9223372036854775807 := by
  have := mB_lt b h
  unfold iB sg
  split <;> omega
def intB (b : Nat) : Int :=
  if 9218868437227405312 < szB b then 0
  else if 4890909195324358656 ≤ sv b then 9223372036854775807
  else if sv b ≤ -4890909195324358656 then -9223372036854775808
  else iB b
theorem sv_lt (b : Nat) (h1 : sv b < 4890909195324358656) (h2 : -4890909195324358656 < sv b) : szB b < 4890909195324358656 := by
  unfold sv at h1 h2
  split at h1 <;> omega
theorem Int_any (b : Nat) (hb : b < 18446744073709551616) (w : World) : Calls Tryz.prog 118 #[.float .f64 b] w fun e w' => e = .returned (.int .i64 (intB b)) ∧ w = w' := by
  have s1 : sv 4890909195324358656 = 4890909195324358656 := by decide
  have s2 : sv 14114281232179134464 = -4890909195324358656 := by decide
  have z1 : szB 4890909195324358656 ≤ 9218868437227405312 := by decide
  have z2 : szB 14114281232179134464 ≤ 9218868437227405312 := by decide
  have g1 := gt_cmp b 4890909195324358656 z1
  have g2 := eq_cmp b 4890909195324358656 z1
  have g3 := lt_cmp b 14114281232179134464 z2
  have g4 := eq_cmp b 14114281232179134464 z2
  rw [s1] at g1 g2
  rw [s2] at g3 g4
  go_enter Tryz.func118, Tryz.ntmps118
  by_cases hn : 9218868437227405312 < szB b
  · have hd : decide (szB b ≤ 9218868437227405312) = false := decide_eq_false (by omega)
    have hi : intB b = 0 := by unfold intB; rw [if_pos hn]
    go_wp2_with fail
    refine (isNumber_any b hb w).mono ?_
    rintro e w' ⟨rfl, rfl⟩
    go_wp2_with fail
    go_ret
    exact ⟨by rw [hi]; rfl, rfl⟩
  · have hd : decide (szB b ≤ 9218868437227405312) = true := decide_eq_true (by omega)
    by_cases h1 : 4890909195324358656 ≤ sv b
    · have hi : intB b = 9223372036854775807 := by unfold intB; rw [if_neg hn, if_pos h1]
      have t1 : (FloatKind.f64.format.order b 4890909195324358656 == some .gt || FloatKind.f64.format.order b 4890909195324358656 == some .eq) = true := by
        rw [g1, g2, Bool.or_eq_true, decide_eq_true_iff, decide_eq_true_iff]; omega
      clear g1 g2 g3 g4
      go_wp2_with fail
      refine (isNumber_any b hb w).mono ?_
      rintro e w' ⟨rfl, rfl⟩
      go_wp2_with fail
      go_ret
      exact ⟨by rw [hi]; rfl, rfl⟩
    · have t1 : (FloatKind.f64.format.order b 4890909195324358656 == some .gt || FloatKind.f64.format.order b 4890909195324358656 == some .eq) = false := by
        rw [g1, g2, Bool.or_eq_false_iff, decide_eq_false_iff_not, decide_eq_false_iff_not]; omega
      by_cases h2 : sv b ≤ -4890909195324358656
      · have hi : intB b = -9223372036854775808 := by unfold intB; rw [if_neg hn, if_neg h1, if_pos h2]
        have t2 : (FloatKind.f64.format.order b 14114281232179134464 == some .lt || FloatKind.f64.format.order b 14114281232179134464 == some .eq) = true := by
          rw [g3, g4, Bool.or_eq_true, decide_eq_true_iff, decide_eq_true_iff]; omega
        clear g1 g2 g3 g4
        go_wp2_with fail
        refine (isNumber_any b hb w).mono ?_
        rintro e w' ⟨rfl, rfl⟩
        go_wp2_with fail
        go_ret
        exact ⟨by rw [hi]; rfl, rfl⟩
      · have hi : intB b = iB b := by unfold intB; rw [if_neg hn, if_neg h1, if_neg h2]
        have t2 : (FloatKind.f64.format.order b 14114281232179134464 == some .lt || FloatKind.f64.format.order b 14114281232179134464 == some .eq) = false := by
          rw [g3, g4, Bool.or_eq_false_iff, decide_eq_false_iff_not, decide_eq_false_iff_not]; omega
        have hz := sv_lt b (by omega) (by omega)
        have hbd := iB_in b hz
        have hc := fun w => run_convert_float_int (P := Tryz.prog) w 23 3 .f64 .i64 b (iB b) (by kernel_rfl) Tryz.underlying3 (val_of b (iB b) (toInt_is b (by omega)) hbd.1 hbd.2)
        clear g1 g2 g3 g4
        go_wp2_with fail
        refine (isNumber_any b hb w).mono ?_
        rintro e w' ⟨rfl, rfl⟩
        go_wp2_with fail
        go_ret
        exact ⟨by rw [hi]; rfl, rfl⟩
end Go.Proofs.YtpobdmkidopnnaaGreatDoor
namespace Go.Proofs.YtpobdmkidopnnaaGreatDoor
open Go Go.RowKit

theorem dec_digit (d : Nat) : ∀ x ∈ Lib.decDigits d, 48 ≤ x.toNat ∧ x.toNat ≤ 57 := by
  induction d using Nat.strongRecOn with
  | _ d ih =>
    have hd : ∀ k : Nat, k < 10 → 48 ≤ (UInt8.ofNat (48 + k)).toNat ∧ (UInt8.ofNat (48 + k)).toNat ≤ 57 := by
      intro k hk
      rw [UInt8.toNat_ofNat']
      omega
    by_cases h10 : d < 10
    · have e : Lib.decDigits d = [UInt8.ofNat (48 + d)] := by rw [Lib.decDigits, dif_pos h10]
      rw [e]
      intro x hx
      rw [List.mem_singleton] at hx
      rw [hx]
      exact hd d h10
    · have e : Lib.decDigits d = Lib.decDigits (d / 10) ++ [UInt8.ofNat (48 + d % 10)] := by rw [Lib.decDigits, dif_neg h10]
      rw [e]
      intro x hx
      rcases List.mem_append.1 hx with h | h
      · exact ih (d / 10) (by omega) x h
      · rw [List.mem_singleton] at h
        rw [h]
        exact hd _ (Nat.mod_lt _ (by omega))
theorem drop_head (l : List UInt8) : l.dropWhile (· == 48) = [] ∨ ∃ c r, l.dropWhile (· == 48) = c :: r ∧ c ≠ 48 := by
  induction l with
  | nil => exact .inl rfl
  | cons a t ih =>
    by_cases h : a = 48
    · subst h
      exact ih
    · refine .inr ⟨a, t, ?_, h⟩
      rw [List.dropWhile_cons]
      rw [if_neg (by simpa using h)]
theorem strip_last (l : List UInt8) (h : 1 ≤ stripN l) : ∃ p c, l.take (stripN l) = p ++ [c] ∧ c ≠ 48 := by
  have hs : (l.reverse.dropWhile (· == 48)).reverse <+: l := by
    have := (List.dropWhile_suffix (l := l.reverse) (· == 48))
    have h2 := List.reverse_prefix.2 this
    rwa [List.reverse_reverse] at h2
  have ht : l.take (stripN l) = (l.reverse.dropWhile (· == 48)).reverse := by
    have := List.prefix_iff_eq_take.1 hs
    rw [List.length_reverse] at this
    exact this.symm
  rw [ht]
  rcases drop_head l.reverse with h0 | ⟨c, r, e, hc⟩
  · unfold stripN at h
    rw [h0] at h
    exact absurd h (by simp)
  · rw [e]
    exact ⟨r.reverse, c, by simp, hc⟩
theorem cut_one (pre post : List UInt8) (c : UInt8) (h : c ∉ pre) : Lib.index (pre ++ c :: post) [c] = (pre.length : Int) ∧ Lib.cut (pre ++ c :: post) [c] = (pre, post, true) := by
  have hi : Lib.index (pre ++ c :: post) [c] = (pre.length : Int) := by
    refine Lib.index_first (by simp) ?_ ?_
    · unfold Lib.occAt
      rw [List.drop_left]
      simp
    · intro j hj
      unfold Lib.occAt
      have e : (pre ++ c :: post).drop j = pre[j] :: ((pre ++ c :: post).drop (j + 1)) := by
        rw [List.drop_eq_getElem_cons (by simp; omega), List.getElem_append_left hj]
      rw [e]
      have hne : c ≠ pre[j] := fun e => h (by rw [e]; exact List.getElem_mem hj)
      show ((c == pre[j]) && _) = false
      rw [beq_eq_false_iff_ne.2 hne, Bool.false_and]
  refine ⟨hi, ?_⟩
  unfold Lib.cut
  rw [hi, if_pos (by omega), Int.toNat_natCast, List.take_left, List.length_singleton, ← List.drop_drop, List.drop_left]
  rfl
theorem index_absent (l : List UInt8) (c : UInt8) (h : c ∉ l) : Lib.index l [c] = -1 := by
  refine Lib.index_none fun j hj => ?_
  unfold Lib.occAt
  rcases Nat.lt_or_ge j l.length with hl | hl
  · have e : l.drop j = l[j] :: l.drop (j + 1) := List.drop_eq_getElem_cons hl
    rw [e]
    have hne : c ≠ l[j] := fun e => h (by rw [e]; exact List.getElem_mem hl)
    show ((c == l[j]) && _) = false
    rw [beq_eq_false_iff_ne.2 hne, Bool.false_and]
  · rw [List.drop_of_length_le hl]
    rfl
/-- A point behind the first digit, taken out. -/
theorem point_out (l : List UInt8) (h1 : 1 ≤ l.length) (h : (46 : UInt8) ∉ l) : Lib.replace (l.take 1 ++ (if l.length ≤ 1 then [] else 46 :: l.drop 1)) [46] [] 1 = l := by
  unfold Lib.replace
  rw [if_neg (by decide)]
  obtain ⟨a, t, rfl⟩ : ∃ a t, l = a :: t := by
    cases l with
    | nil => simp at h1
    | cons a t => exact ⟨a, t, rfl⟩
  by_cases hl : (a :: t).length ≤ 1
  · obtain rfl : t = [] := by cases t with
      | nil => rfl
      | cons b u => simp at hl
    rw [if_pos hl]
    have ha : Lib.index [a] [46] = -1 := index_absent [a] 46 h
    have hc : Lib.count [a] [46] = 0 := by
      unfold Lib.count
      simp [Lib.countFrom, ha]
    simp only [List.take_succ_cons, List.take_zero, List.append_nil]
    unfold Lib.replaceNum
    rw [hc, if_pos (.inr (by omega))]
    rfl
  · rw [if_neg hl]
    have ha : (46 : UInt8) ∉ [a] := by
      intro hm
      exact h (by rw [List.mem_singleton] at hm; rw [hm]; exact List.mem_cons_self)
    have hi := (cut_one [a] t 46 ha).1
    have e : (a :: t).take 1 ++ 46 :: (a :: t).drop 1 = [a] ++ 46 :: t := rfl
    rw [e]
    have hc : 1 ≤ Lib.count ([a] ++ 46 :: t) [46] := by
      unfold Lib.count
      rw [Lib.countFrom, hi]
      rw [if_neg (by simp)]
      omega
    unfold Lib.replaceNum
    rw [if_neg (by omega)]
    have e1 : (1 : Int).toNat = 0 + 1 := rfl
    rw [e1, Lib.replaceK_hit _ _ _ _ 1 hi]
    rfl
theorem exp_plus : ∀ k : Fin 500, Lib.atoi (43 :: expD k.val) = some (k.val : Int) := by decide +kernel
theorem exp_minus : ∀ k : Fin 500, Lib.atoi (45 :: expD k.val) = some (-(k.val : Int)) := by decide +kernel
theorem exp_len : ∀ k : Fin 500, (expD k.val).length ≤ 3 := by decide +kernel
theorem exp_reads (x : Int) (h1 : -400 ≤ x) (h2 : x ≤ 400) : Lib.atoi ((if x < 0 then [45] else [43]) ++ expD x.natAbs) = some x ∧ ((if x < 0 then [45] else [43]) ++ expD x.natAbs).length ≤ 4 := by
  have hl := exp_len ⟨x.natAbs, by omega⟩
  simp only at hl
  by_cases h : x < 0
  · rw [if_pos h]
    have := exp_minus ⟨x.natAbs, by omega⟩
    simp only at this
    refine ⟨?_, by simp; omega⟩
    show Lib.atoi (45 :: expD x.natAbs) = some x
    rw [this]
    congr 1
    omega
  · rw [if_neg h]
    have := exp_plus ⟨x.natAbs, by omega⟩
    simp only at this
    refine ⟨?_, by simp; omega⟩
    show Lib.atoi (43 :: expD x.natAbs) = some x
    rw [this]
    congr 1
    omega
end Go.Proofs.YtpobdmkidopnnaaGreatDoor
namespace Go.Proofs.YtpobdmkidopnnaaGreatDoor
open Go Go.RowKit

structure NumW (w : World) : Prop where
  tabs : NumTabs w
  max : ∃ m, w.cell? ⟨2, 0, none⟩ = some (.int .i64 m)
theorem NumW.below {w w' : World} (h : NumW w) (hb : Below w.heap.size w w') : NumW w' := by
  refine ⟨h.tabs.below hb, ?_⟩
  obtain ⟨m, hm⟩ := h.max
  exact ⟨m, by rw [hb.cell (p := ⟨2, 0, none⟩) (by have := h.tabs.size; show 2 < _; omega)]; exact hm⟩
/-- The digits of a double, and its exponent. -/
def digF (b : Nat) : List UInt8 := if zeroB (szB b) then [48] else digB (szB b)
def expF (b : Nat) : Int := if zeroB (szB b) then 0 else dpB (szB b) - 1
def preF (b : Nat) : List UInt8 := (digF b).take 1 ++ (if (digF b).length ≤ 1 then [] else 46 :: (digF b).drop 1)
def postF (b : Nat) : List UInt8 := (if expF b < 0 then [45] else [43]) ++ expD (expF b).natAbs
theorem sz_twice (b : Nat) : szB (szB b) = szB b := by unfold szB; omega
theorem dec_all (ex mt : Nat) (h : ¬ (ex = 0 ∧ mt = 0)) (hx : ex ≤ 2046) (hm : mt < 4503599627370496) : 1 ≤ (decOf ex mt).1 ∧ (decOf ex mt).1 < 18446744073709551616 ∧ -360 ≤ (decOf ex mt).2 ∧ (decOf ex mt).2 ≤ 360 := by
  by_cases he : ex = 0
  · subst he
    exact (dec_sub mt (by omega) hm).1
  · exact (dec_normal ex mt (by omega) hx hm).1
theorem parts_of (b : Nat) (h : szB b < 9218868437227405312) : eOf (szB b) = preF b ++ 101 :: postF b ∧ 1 ≤ (digF b).length ∧ (digF b).length ≤ 20 ∧ (∀ c ∈ digF b, 48 ≤ c.toNat ∧ c.toNat ≤ 57) ∧ (digF b = [48] ∨ ∃ p c, digF b = p ++ [c] ∧ c ≠ 48) ∧ -400 ≤ expF b ∧ expF b ≤ 400 := by
  have hlt : szB b < 9223372036854775808 := Nat.mod_lt _ (by omega)
  have hn : negB (szB b) = false := by unfold negB; rw [decide_eq_false_iff_not]; omega
  by_cases hz : zeroB (szB b)
  · have e1 : digF b = [48] := by unfold digF; rw [if_pos hz]
    have e2 : expF b = 0 := by unfold expF; rw [if_pos hz]
    refine ⟨?_, by rw [e1]; decide, by rw [e1]; decide, by rw [e1]; decide, .inl e1, by omega, by omega⟩
    unfold eOf preF postF
    rw [if_pos hz, hn, e1, e2]
    decide
  · have e1 : digF b = digB (szB b) := by unfold digF; rw [if_neg hz]
    have e2 : expF b = dpB (szB b) - 1 := by unfold expF; rw [if_neg hz]
    have hx : exB (szB b) ≤ 2046 := by unfold exB; omega
    have hm : mtB (szB b) < 4503599627370496 := Nat.mod_lt _ (by omega)
    obtain ⟨d1, d2, d3, d4⟩ := dec_all _ _ hz hx hm
    have s1 := strip_pos _ d1
    have s2 := strip_le (Lib.decDigits (decOf (exB (szB b)) (mtB (szB b))).1)
    have s3 := nine_digits _ d2
    rw [Lib.decDigits_length] at s2
    have hlen : (digB (szB b)).length = stripN (Lib.decDigits (decOf (exB (szB b)) (mtB (szB b))).1) := by
      unfold digB
      rw [List.length_take, Lib.decDigits_length]
      omega
    refine ⟨?_, by rw [e1]; omega, by rw [e1]; omega, ?_, ?_, ?_, ?_⟩
    · unfold eOf preF postF
      rw [if_neg hz, hn, e1, e2]
      unfold eText
      simp only [Bool.false_eq_true, if_false, List.nil_append, List.append_assoc, List.cons_append]
    · rw [e1]
      intro c hc
      exact dec_digit _ c (List.mem_of_mem_take hc)
    · rw [e1]
      exact .inr (strip_last _ s1)
    · rw [e2]; unfold dpB; omega
    · rw [e2]; unfold dpB; omega
theorem contains_low {l : List UInt8} (h : ∀ c ∈ l, 48 ≤ c.toNat ∧ c.toNat ≤ 57) (x : UInt8) (hx : x.toNat < 48 ∨ 57 < x.toNat) : x ∉ l := by
  intro hm
  have := h x hm
  omega
theorem pre_no (b : Nat) (h : szB b < 9218868437227405312) : (101 : UInt8) ∉ preF b := by
  obtain ⟨_, _, _, hd, _⟩ := parts_of b h
  have h101 := contains_low hd 101 (.inr (by decide))
  unfold preF
  intro hm
  rcases List.mem_append.1 hm with hm | hm
  · exact h101 (List.mem_of_mem_take hm)
  · split at hm
    · cases hm
    · rcases List.mem_cons.1 hm with e | hm
      · exact absurd e (by decide)
      · exact h101 (List.mem_of_mem_drop hm)
theorem pre_len (b : Nat) (h : szB b < 9218868437227405312) : (preF b).length ≤ 30 ∧ (postF b).length ≤ 4 := by
  obtain ⟨_, h1, h2, hd, _, x1, x2⟩ := parts_of b h
  refine ⟨?_, (exp_reads _ x1 x2).2⟩
  unfold preF
  rw [List.length_append, List.length_take]
  split
  · simp; omega
  · rw [List.length_cons, List.length_drop]; omega

set_option maxRecDepth 100000 in
set_option maxHeartbeats 1000000 in
theorem Digits_fin (b : Nat) (hb : b < 18446744073709551616) (hf : szB b < 9218868437227405312) (w : World) (hW : NumW w) :
    Calls Tryz.prog 230 #[.float .f64 b] w fun e w' => e = .returned (.tuple #[.string ⟨(digF b).toArray⟩, .int .i64 (expF b)]) ∧ Below w.heap.size w w' := by
  obtain ⟨p1, p2, p3, p4, _, p6, p7⟩ := parts_of b hf
  have hno := pre_no b hf
  obtain ⟨l1, l2⟩ := pre_len b hf
  obtain ⟨c1, c2⟩ := cut_one (preF b) (postF b) 101 hno
  have hat := (exp_reads _ p6 p7).1
  have hout := point_out (digF b) p2 (contains_low p4 46 (.inl (by decide)))
  have hlt : szB b < 9223372036854775808 := Nat.mod_lt _ (by omega)
  have hx : exB (szB b) ≤ 2046 := by unfold exB; omega
  have hd : decide (szB b < 9218868437227405312) = true := decide_eq_true hf
  have hAbs := Abs_any b
  rw [absB_is b hb] at hAbs
  go_enter Tryz.func230, Tryz.ntmps230
  go_wp2_with fail
  refine (isFinite_any b hb w).mono ?_
  rintro e w0 ⟨rfl, rfl⟩
  go_wp2_with fail
  refine (hAbs w).mono ?_
  rintro e w0 ⟨rfl, rfl⟩
  go_wp2_with fail
  refine (form_e (szB b) (by omega) hx w hW.tabs).mono ?_
  rintro e w1 ⟨rfl, hb1⟩
  have hW1 := hW.below hb1
  obtain ⟨m, hm⟩ := hW1.max
  rw [p1]
  go_wp2_with fail
  have hcut := Tryz.strings_Cut ⟨(preF b ++ 101 :: postF b).toArray⟩ ⟨#[101]⟩ m w1 (by simp [ByteArray.size]; omega) hm
  have hc2 : Lib.cut (⟨(preF b ++ 101 :: postF b).toArray⟩ : ByteArray).data.toList (⟨#[101]⟩ : ByteArray).data.toList = (preF b, postF b, true) := by exact c2
  rw [hc2] at hcut
  refine hcut.mono ?_
  rintro e w2 ⟨rfl, n2, rfl⟩
  have hb2 : Below w.heap.size w (w1.drewN n2) := hb1.trans ⟨rfl, rfl, rfl, Nat.le_refl _, fun _ _ => rfl⟩
  go_wp2_with fail
  refine (Tryz.strconv_Atoi ⟨(postF b).toArray⟩ (expF b) (by simp [ByteArray.size]; omega) (by exact hat) _).mono ?_
  rintro e w3 ⟨rfl, t3, rfl⟩
  have hb3 : Below w.heap.size w (Lib.bytesWorld (w1.drewN n2) 5 t3) := hb2.trans ((Lib.bytesWorld_below _ _ _).mono hb2.size)
  obtain ⟨m3, hm3⟩ := (hW.below hb3).max
  go_wp2_with fail
  have hrep := Tryz.strings_Replace ⟨(preF b).toArray⟩ ⟨#[46]⟩ ⟨#[]⟩ 1 m3 _ (by simp [ByteArray.size]; omega) hm3 (by decide) (by simp [ByteArray.size]; omega)
  have hr2 : Lib.replace (⟨(preF b).toArray⟩ : ByteArray).data.toList (⟨#[46]⟩ : ByteArray).data.toList (⟨#[]⟩ : ByteArray).data.toList 1 = digF b := by exact hout
  rw [hr2] at hrep
  refine hrep.mono ?_
  rintro e w4 ⟨rfl, hb4⟩
  go_wp2_with fail
  go_ret2
  exact ⟨rfl, hb3.trans (hb4.mono hb3.size)⟩
/-- .. of any double: of what is not finite, a nought. -/
def digA (b : Nat) : List UInt8 := if szB b < 9218868437227405312 then digF b else [48]
def expA (b : Nat) : Int := if szB b < 9218868437227405312 then expF b else 0
theorem Digits_any (b : Nat) (hb : b < 18446744073709551616) (w : World) (hW : NumW w) :
    Calls Tryz.prog 230 #[.float .f64 b] w fun e w' => e = .returned (.tuple #[.string ⟨(digA b).toArray⟩, .int .i64 (expA b)]) ∧ Below w.heap.size w w' := by
  unfold digA expA
  by_cases hf : szB b < 9218868437227405312
  · rw [if_pos hf, if_pos hf]
    exact Digits_fin b hb hf w hW
  · rw [if_neg hf, if_neg hf]
    have hd : decide (szB b < 9218868437227405312) = false := decide_eq_false hf
    go_enter Tryz.func230, Tryz.ntmps230
    go_wp2_with fail
    refine (isFinite_any b hb w).mono ?_
    rintro e w0 ⟨rfl, rfl⟩
    go_wp2_with fail
    go_ret2
    exact ⟨rfl, Below.refl _ _⟩
end Go.Proofs.YtpobdmkidopnnaaGreatDoor
namespace Go.Proofs.YtpobdmkidopnnaaGreatDoor
open Go Go.RowKit

def minB (b : Nat) : Nat := if sv b < 9218868437227405311 then b else 9218868437227405311
def clampB (b : Nat) : Nat := if -9218868437227405311 < sv (minB b) then minB b else if sv (minB b) = -9218868437227405311 then minB b else 18442240474082181119
theorem run_min_float {P : Program} {w : World} (ts : Array TypeId) (t : TypeId) (b : Nat) (hb : b < 18446744073709551616) (h : szB b ≤ 9218868437227405312) : (Builtin.min_ ts t #[.float .f64 b, .float .f64 9218868437227405311]).run P w = .ok (.float .f64 (minB b)) w := by
  have e := ordF_is b 9218868437227405311 h (by decide)
  have s1 : sv 9218868437227405311 = 9218868437227405311 := by decide
  rw [s1] at e
  unfold minB
  rcases Int.lt_trichotomy (sv b) 9218868437227405311 with h1 | h1 | h1
  · rw [Int.compare_eq_lt.2 h1] at e
    rw [if_pos h1]
    simp [Builtin.min_, Builtin.min2, e]
  · rw [Int.compare_eq_eq.2 h1] at e
    rw [if_neg (by omega)]
    have hb2 : b = 9218868437227405311 := by
      unfold sv szB at h1
      split at h1 <;> omega
    subst hb2
    simp [Builtin.min_, Builtin.min2, e]
  · rw [Int.compare_eq_gt.2 h1] at e
    rw [if_neg (by omega)]
    simp [Builtin.min_, Builtin.min2, e]
theorem run_max_float {P : Program} {w : World} (ts : Array TypeId) (t : TypeId) (b : Nat) (_hb : b < 18446744073709551616) (h : szB b ≤ 9218868437227405312) : (Builtin.max_ ts t #[.float .f64 18442240474082181119, .float .f64 b]).run P w = .ok (.float .f64 (if -9218868437227405311 < sv b then b else if sv b = -9218868437227405311 then b else 18442240474082181119)) w := by
  have e := ordF_is 18442240474082181119 b (by decide) h
  have s1 : sv 18442240474082181119 = -9218868437227405311 := by decide
  rw [s1] at e
  rcases Int.lt_trichotomy (-9218868437227405311) (sv b) with h1 | h1 | h1
  · rw [Int.compare_eq_lt.2 h1] at e
    rw [if_pos h1]
    simp [Builtin.max_, Builtin.max2, e]
  · rw [Int.compare_eq_eq.2 h1] at e
    rw [if_neg (by omega), if_pos h1.symm]
    have hn : (FloatKind.f64.decode 18442240474082181119).neg = true := by decide +kernel
    simp [Builtin.max_, Builtin.max2, e, hn]
  · rw [Int.compare_eq_gt.2 h1] at e
    rw [if_neg (by omega), if_neg (by omega)]
    simp [Builtin.max_, Builtin.max2, e]
theorem min_in (b : Nat) (hb : b < 18446744073709551616) (h : szB b ≤ 9218868437227405312) : minB b < 18446744073709551616 ∧ szB (minB b) ≤ 9218868437227405312 := by
  unfold minB
  split
  · exact ⟨hb, h⟩
  · exact ⟨by omega, by decide⟩
theorem clamp_in (b : Nat) (hb : b < 18446744073709551616) (h : szB b ≤ 9218868437227405312) : clampB b < 18446744073709551616 ∧ szB (clampB b) < 9218868437227405312 := by
  have hm := min_in b hb h
  have hs : sv (minB b) ≤ 9218868437227405311 := by
    unfold minB
    split
    · omega
    · decide
  unfold clampB
  split
  · refine ⟨hm.1, ?_⟩
    rename_i h1
    unfold sv at h1 hs
    split at h1 <;> split at hs <;> omega
  · split
    · refine ⟨hm.1, ?_⟩
      rename_i h1
      unfold sv at h1
      split at h1 <;> omega
    · exact ⟨by omega, by decide⟩
def longB (b : Nat) : Bool := decide (-4 ≤ expF b) && decide (expF b ≤ ((digF b).length : Int) + 14)
def textB (b : Nat) : List UInt8 := if 9218868437227405312 < szB b then [110, 117, 108, 108] else if longB (clampB b) then fOf (clampB b) else eOf (clampB b)

set_option maxRecDepth 100000 in
set_option maxHeartbeats 1000000 in
theorem Text_any (b : Nat) (hb : b < 18446744073709551616) (w : World) (hW : NumW w) :
    Calls Tryz.prog 161 #[.float .f64 b] w fun e w' => e = .returned (.string ⟨(textB b).toArray⟩) ∧ Below w.heap.size w w' := by
  by_cases hn : 9218868437227405312 < szB b
  · have hd : decide (szB b ≤ 9218868437227405312) = false := decide_eq_false (by omega)
    have ht : textB b = [110, 117, 108, 108] := by unfold textB; rw [if_pos hn]
    rw [ht]
    go_enter Tryz.func161, Tryz.ntmps161
    go_wp2_with fail
    refine (isNumber_any b hb w).mono ?_
    rintro e w0 ⟨rfl, rfl⟩
    go_wp2_with fail
    go_ret
    exact ⟨rfl, Below.refl _ _⟩
  · have hd : decide (szB b ≤ 9218868437227405312) = true := decide_eq_true (by omega)
    have hm1 := fun ts t => @run_min_float Tryz.prog w ts t b hb (by omega)
    have hmi := min_in b hb (by omega)
    have hm2 := fun ts t => @run_max_float Tryz.prog w ts t (minB b) hmi.1 hmi.2
    have hci := clamp_in b hb (by omega)
    have hcl : (if -9218868437227405311 < sv (minB b) then minB b else if sv (minB b) = -9218868437227405311 then minB b else 18442240474082181119) = clampB b := rfl
    rw [hcl] at hm2
    have ht : textB b = if longB (clampB b) then fOf (clampB b) else eOf (clampB b) := by unfold textB; rw [if_neg hn]
    rw [ht]
    obtain ⟨c, hc⟩ : ∃ c, clampB b = c := ⟨_, rfl⟩
    rw [hc] at hm2 hci ⊢
    clear hcl ht hc
    have hx : exB c ≤ 2046 := by
      have h2 := hci.2
      unfold szB at h2
      unfold exB; omega
    obtain ⟨_, _, p3, _, _, p6, p7⟩ := parts_of c hci.2
    have hsz : ((⟨(digF c).toArray⟩ : ByteArray).size : Int) = ((digF c).length : Int) := by simp [ByteArray.size]
    have hL : longB c = (decide (-4 ≤ expF c) && decide (expF c ≤ ((digF c).length : Int) + 14)) := rfl
    by_cases h1 : -4 ≤ expF c
    · have d1 : decide (-4 ≤ expF c) = true := decide_eq_true h1
      by_cases h2 : expF c ≤ ((digF c).length : Int) + 14
      · have d2 : decide (expF c ≤ ((digF c).length : Int) + 14) = true := decide_eq_true h2
        rw [hL, d1, d2, Bool.and_true, if_pos rfl]
        go_enter Tryz.func161, Tryz.ntmps161
        go_wp2_with fail
        refine (isNumber_any b hb w).mono ?_
        rintro e w0 ⟨rfl, rfl⟩
        go_wp2_with fail
        refine (Digits_fin c hci.1 hci.2 w hW).mono ?_
        rintro e w1 ⟨rfl, hb1⟩
        go_wp2_with fail
        refine (form_f c hci.1 hx w1 (hW.tabs.below hb1)).mono ?_
        rintro e w2 ⟨rfl, hb2⟩
        go_wp2_with fail
        go_ret
        exact ⟨rfl, hb1.trans (hb2.mono hb1.size)⟩
      · have d2 : decide (expF c ≤ ((digF c).length : Int) + 14) = false := decide_eq_false h2
        rw [hL, d1, d2, Bool.and_false, if_neg (by simp)]
        go_enter Tryz.func161, Tryz.ntmps161
        go_wp2_with fail
        refine (isNumber_any b hb w).mono ?_
        rintro e w0 ⟨rfl, rfl⟩
        go_wp2_with fail
        refine (Digits_fin c hci.1 hci.2 w hW).mono ?_
        rintro e w1 ⟨rfl, hb1⟩
        go_wp2_with fail
        refine (form_e c hci.1 hx w1 (hW.tabs.below hb1)).mono ?_
        rintro e w2 ⟨rfl, hb2⟩
        go_wp2_with fail
        go_ret
        exact ⟨rfl, hb1.trans (hb2.mono hb1.size)⟩
    · have d1 : decide (-4 ≤ expF c) = false := decide_eq_false h1
      rw [hL, d1, Bool.false_and, if_neg (by simp)]
      go_enter Tryz.func161, Tryz.ntmps161
      go_wp2_with fail
      refine (isNumber_any b hb w).mono ?_
      rintro e w0 ⟨rfl, rfl⟩
      go_wp2_with fail
      refine (Digits_fin c hci.1 hci.2 w hW).mono ?_
      rintro e w1 ⟨rfl, hb1⟩
      go_wp2_with fail
      refine (form_e c hci.1 hx w1 (hW.tabs.below hb1)).mono ?_
      rintro e w2 ⟨rfl, hb2⟩
      go_wp2_with fail
      go_ret
      exact ⟨rfl, hb1.trans (hb2.mono hb1.size)⟩
end Go.Proofs.YtpobdmkidopnnaaGreatDoor

/- FormatFloat at 'e' and 'f', as short as may be: every finite double. -/
import Derived.Test.YtamgdmmijlbjjaaGreatDoorNFin
import Derived.Test.YtamgdmmijlbjjaaGreatDoorNFtoaF
namespace Go.Proofs.YtamgdmmijlbjjaaGreatDoor
open Go Go.RowKit

def negB (b : Nat) : Bool := decide (9223372036854775808 ≤ b)
def exB (b : Nat) : Nat := b / 4503599627370496 % 2048
def mtB (b : Nat) : Nat := b % 4503599627370496
/-- The digits, the last one not a nought. -/
def digB (b : Nat) : List UInt8 := (Lib.decDigits (decOf (exB b) (mtB b)).1).take (stripN (Lib.decDigits (decOf (exB b) (mtB b)).1))
/-- How many digits stand ahead of the point. -/
def dpB (b : Nat) : Int := Lib.nDigits (decOf (exB b) (mtB b)).1 + (decOf (exB b) (mtB b)).2
def zeroB (b : Nat) : Prop := exB b = 0 ∧ mtB b = 0
instance (b : Nat) : Decidable (zeroB b) := by unfold zeroB; exact inferInstance
def eOf (b : Nat) : List UInt8 := if zeroB b then (if negB b then [45] else []) ++ [48, 101, 43, 48, 48] else eText (negB b) (digB b) (dpB b - 1)
def fOf (b : Nat) : List UInt8 := if zeroB b then (if negB b then [45] else []) ++ [48] else fText (negB b) (digB b) (dpB b)

theorem bitLen_is (m L : Nat) (h0 : 1 ≤ L) (h1 : 2 ^ (L - 1) ≤ m) (h2 : m < 2 ^ L) (h3 : m < 18446744073709551616) : Lib.bitLen m = L := by
  have hp : 0 < 2 ^ (L - 1) := Nat.pow_pos (by omega)
  obtain ⟨b1, b2, b3⟩ := Lib.bitLenAux_bounds 64 m (by omega) (by omega)
  have e : Lib.bitLen m = Lib.bitLenAux 64 m := rfl
  rw [e]
  rcases Nat.lt_trichotomy (Lib.bitLenAux 64 m) L with h | h | h
  · have := Nat.pow_le_pow_right (by omega : 0 < 2) (by omega : Lib.bitLenAux 64 m ≤ L - 1)
    omega
  · exact h
  · have := Nat.pow_le_pow_right (by omega : 0 < 2) (by omega : L ≤ Lib.bitLenAux 64 m - 1)
    omega
theorem nine_digits (d : Nat) (h : d < 18446744073709551616) : Lib.nDigits d ≤ 20 := nDigits_le 20 d (by omega) (by omega)

/-- A normal double's digits. -/
theorem dec_normal (ex mt : Nat) (h1 : 1 ≤ ex) (h2 : ex ≤ 2046) (hm : mt < 4503599627370496) :
    (1 ≤ (decOf ex mt).1 ∧ (decOf ex mt).1 < 18446744073709551616 ∧ -360 ≤ (decOf ex mt).2 ∧ (decOf ex mt).2 ≤ 360) ∧
    ∀ W : World, NumTabs W → Calls Tryz.prog 230 #[.int .u64 (((mt + 4503599627370496) * 2048 : Nat) : Int), .int .i64 ((ex : Int) - 1086)] W fun e' w' => e' = .returned (.tuple #[.int .u64 (decOf ex mt).1, .int .i64 (decOf ex mt).2]) ∧ Below W.heap.size W w' := by
  unfold decOf
  rw [if_neg (by omega : ¬ ex = 0)]
  by_cases hone : mt = 0 ∧ 1 < ex
  · obtain ⟨rfl, hx⟩ := hone
    rw [if_pos ⟨rfl, hx⟩]
    obtain ⟨q1, q2, q3, q4⟩ := one_at ((ex : Int) - 1086) (by omega) (by omega)
    have ho := and_one (9223372036854775808 / 2048) (by omega)
    have e0 : (((9223372036854775808 / 2048 : Nat) : Int)) = (9223372036854775808 : Int) / 2048 := by decide
    rw [e0] at ho
    have h := short_of 9223372036854775808 (-skewP ((ex : Int) - 1086 + 11)) ((ex : Int) - 1086) (9223372036854775808 - 512) (9223372036854775808 + 1024) (bits .and .i64 ((9223372036854775808 : Int) / 2048) 1) ⟨by omega, by omega⟩ (by omega) (by omega) (by omega) (by omega) (by omega) ho
      (fun hi lo s hs s63 hh hl W hW c1 c2 => short_one 9223372036854775808 ((ex : Int) - 1086) (-skewP ((ex : Int) - 1086 + 11)) hi lo s (9223372036854775808 - 512) (9223372036854775808 + 1024) _ (by decide) (by omega) (by omega) (by omega) (by omega) (by omega) rfl (by omega) (by omega) (by omega) (by omega) (by omega) ho ⟨by omega, by omega⟩ hs s63 hh hl W hW c1 c2)
    refine ⟨⟨h.1.1, h.1.2.1, by rcases h.1.2.2 with e | e <;> rw [e] <;> omega, by rcases h.1.2.2 with e | e <;> rw [e] <;> omega⟩, ?_⟩
    intro W hW
    have hc := h.2 W hW
    have e1 : (((0 + 4503599627370496) * 2048 : Nat) : Int) = ((9223372036854775808 : Nat) : Int) := rfl
    rw [e1]
    exact hc
  · rw [if_neg hone]
    obtain ⟨q1, q2, q3, q4⟩ := two_at ((ex : Int) - 1086) (by omega) (by omega)
    obtain ⟨M, hM⟩ : ∃ M, (mt + 4503599627370496) * 2048 = M := ⟨_, rfl⟩
    rw [hM]
    have ho := and_one (M / 2048) (by omega)
    have e0 : (((M / 2048 : Nat) : Int)) = (M : Int) / 2048 := by omega
    rw [e0] at ho
    have h := short_of M (-l10P ((ex : Int) - 1086 + 11)) ((ex : Int) - 1086) (M - 1024) (M + 1024) (bits .and .i64 ((M : Int) / 2048) 1) ⟨by omega, by omega⟩ (by omega) (by omega) (by omega) (by omega) (by omega) ho
      (fun hi lo s hs s63 hh hl W hW c1 c2 => by
        by_cases hmt : mt = 0
        · have hx1 : ex = 1 := by omega
          have hy : (ex : Int) - 1086 = -1085 := by omega
          rw [hy] at hs q1 q2 c1 c2 ⊢
          exact short_edge M (-1085) (-l10P (-1085 + 11)) hi lo s (M - 1024) (M + 1024) _ (by rw [beq_iff_eq]; omega) rfl (by decide) (by omega) (by omega) rfl (by omega) (by omega) (by omega) (by omega) (by omega) ho ⟨by omega, by omega⟩ hs s63 hh hl W hW c1 c2
        · exact short_two M ((ex : Int) - 1086) (-l10P ((ex : Int) - 1086 + 11)) hi lo s (M - 1024) (M + 1024) _ (by rw [beq_eq_false_iff_ne]; omega) (by omega) (by omega) (by omega) (by omega) (by omega) rfl (by omega) (by omega) (by omega) (by omega) (by omega) ho ⟨by omega, by omega⟩ hs s63 hh hl W hW c1 c2)
    exact ⟨⟨h.1.1, h.1.2.1, by rcases h.1.2.2 with e | e <;> rw [e] <;> omega, by rcases h.1.2.2 with e | e <;> rw [e] <;> omega⟩, h.2⟩
theorem sub_way (mt k : Nat) (y : Int) (k0 : 12 ≤ k) (k1 : k ≤ 63) (hy : y = -1074 - (k : Int)) (h1 : 9223372036854775808 ≤ mt * 2 ^ k) (h2 : mt * 2 ^ k + 2 ^ k ≤ 18446744073709551616) :
    (1 ≤ (shortOf (mt * 2 ^ k) 324 y (mt * 2 ^ k - 2 ^ (k - 1)) (mt * 2 ^ k + 2 ^ (k - 1)) (bits .and .i64 (wrap64 (((mt * 2 ^ k : Nat) : Int) / 2 ^ k)) 1)).1 ∧ (shortOf (mt * 2 ^ k) 324 y (mt * 2 ^ k - 2 ^ (k - 1)) (mt * 2 ^ k + 2 ^ (k - 1)) (bits .and .i64 (wrap64 (((mt * 2 ^ k : Nat) : Int) / 2 ^ k)) 1)).1 < 18446744073709551616 ∧ ((shortOf (mt * 2 ^ k) 324 y (mt * 2 ^ k - 2 ^ (k - 1)) (mt * 2 ^ k + 2 ^ (k - 1)) (bits .and .i64 (wrap64 (((mt * 2 ^ k : Nat) : Int) / 2 ^ k)) 1)).2 = -324 ∨ (shortOf (mt * 2 ^ k) 324 y (mt * 2 ^ k - 2 ^ (k - 1)) (mt * 2 ^ k + 2 ^ (k - 1)) (bits .and .i64 (wrap64 (((mt * 2 ^ k : Nat) : Int) / 2 ^ k)) 1)).2 = -(324 - 1))) ∧
    ∀ W : World, NumTabs W → Calls Tryz.prog 230 #[.int .u64 ((mt * 2 ^ k : Nat) : Int), .int .i64 y] W fun e' w' => e' = .returned (.tuple #[.int .u64 (shortOf (mt * 2 ^ k) 324 y (mt * 2 ^ k - 2 ^ (k - 1)) (mt * 2 ^ k + 2 ^ (k - 1)) (bits .and .i64 (wrap64 (((mt * 2 ^ k : Nat) : Int) / 2 ^ k)) 1)).1, .int .i64 (shortOf (mt * 2 ^ k) 324 y (mt * 2 ^ k - 2 ^ (k - 1)) (mt * 2 ^ k + 2 ^ (k - 1)) (bits .and .i64 (wrap64 (((mt * 2 ^ k : Nat) : Int) / 2 ^ k)) 1)).2]) ∧ Below W.heap.size W w' := by
  have hk : (2 : Nat) ^ k = 2 * 2 ^ (k - 1) := by
    rw [show k = (k - 1) + 1 from by omega, Nat.pow_succ]
    simp only [Nat.add_sub_cancel]
    omega
  have hb : (2 : Nat) ^ (k - 1) ≤ 4611686018427387904 := by
    have := Nat.pow_le_pow_right (by omega : 0 < 2) (by omega : k - 1 ≤ 62)
    omega
  have hpos : 0 < (2 : Nat) ^ (k - 1) := Nat.pow_pos (by omega)
  have hq : ((mt * 2 ^ k : Nat) : Int) / 2 ^ k = (mt : Int) := by
    rw [div_pow, Nat.mul_div_cancel _ (Nat.pow_pos (by omega))]
  have hmt : mt < 9223372036854775808 := by
    have h3 : mt * 4096 ≤ mt * 2 ^ k := Nat.mul_le_mul_left mt (Nat.le_trans (by omega : 4096 ≤ 2 ^ 12) (Nat.pow_le_pow_right (by omega) k0))
    omega
  have ho : bits .and .i64 (wrap64 (((mt * 2 ^ k : Nat) : Int) / 2 ^ k)) 1 = 0 ∨ bits .and .i64 (wrap64 (((mt * 2 ^ k : Nat) : Int) / 2 ^ k)) 1 = 1 := by
    rw [hq, show wrap64 (mt : Int) = (mt : Int) from by unfold wrap64; omega]
    exact and_one mt hmt
  have hw : IntKind.u64.wrap (2 ^ (k - 1)) = ((2 ^ (k - 1) : Nat) : Int) := by
    rw [show ((2 : Int) ^ (k - 1)) = ((2 ^ (k - 1) : Nat) : Int) from by simp]
    exact IntWalk.u64_in _ (by omega)
  obtain ⟨od, hod⟩ : ∃ od, bits .and .i64 (wrap64 (((mt * 2 ^ k : Nat) : Int) / 2 ^ k)) 1 = od := ⟨_, rfl⟩
  rw [hod] at ho ⊢
  obtain ⟨P, hP⟩ : ∃ P, 2 ^ (k - 1) = P := ⟨_, rfl⟩
  obtain ⟨M, hM⟩ : ∃ M, mt * 2 ^ k = M := ⟨_, rfl⟩
  rw [hP] at hw hk hb hpos
  rw [hM] at hod h1 h2
  rw [hP, hM]
  have hz : (11 + (-1085 - y)).toNat = k := by omega
  have w1 : ((M - P : Nat) : Int) = IntKind.u64.wrap ((M : Int) - IntKind.u64.wrap (2 ^ ((11 + (-1085 - y)).toNat - 1))) := by
    rw [hz, hw, IntWalk.u64_in _ (by omega)]; omega
  have w2 : ((M + P : Nat) : Int) = IntKind.u64.wrap ((M : Int) + IntKind.u64.wrap (2 ^ ((11 + (-1085 - y)).toNat - 1))) := by
    rw [hz, hw, IntWalk.u64_in _ (by omega)]; omega
  have w3 : od = bits .and .i64 (wrap64 ((M : Int) / 2 ^ (11 + (-1085 - y)).toNat)) 1 := by
    rw [hz, hod]
  have hl := sub_l
  have hsp : -(324 : Int) = l10P (-1074) := by have := sub_p; omega
  refine short_of M 324 y (M - P) (M + P) od ⟨by omega, by omega⟩ (by omega) (by omega) ⟨by omega, by omega⟩ ⟨by omega, by omega⟩ ⟨by omega, by omega⟩ ho
    (fun hi lo s hs s63 hh hl W hW c1 c2 => ?_)
  by_cases hM2 : M = 9223372036854775808
  · exact short_four M y 324 hi lo s (M - P) (M + P) od (by rw [beq_iff_eq]; omega) (decide_eq_false (by omega)) (decide_eq_false (by omega)) (-1085 - y) rfl (by omega) (by omega) (by omega) hsp w1 w2 w3 h1 (by omega) (by omega) (by omega) ho ⟨by omega, by omega⟩ hs s63 hh hl W hW c1 c2
  · exact short_three M y 324 hi lo s (M - P) (M + P) od (by rw [beq_eq_false_iff_ne]; omega) (decide_eq_false (by omega)) (-1085 - y) rfl (by omega) (by omega) (by omega) hsp w1 w2 w3 h1 (by omega) (by omega) (by omega) ho ⟨by omega, by omega⟩ hs s63 hh hl W hW c1 c2
/-- A subnormal double's digits. -/
theorem dec_sub (mt : Nat) (h0 : 1 ≤ mt) (hm : mt < 4503599627370496) :
    (1 ≤ (decOf 0 mt).1 ∧ (decOf 0 mt).1 < 18446744073709551616 ∧ -360 ≤ (decOf 0 mt).2 ∧ (decOf 0 mt).2 ≤ 360) ∧
    ∀ W : World, NumTabs W → Calls Tryz.prog 230 #[.int .u64 ((mt * 2 ^ (64 - Lib.bitLen mt) : Nat) : Int), .int .i64 ((Lib.bitLen mt : Int) - 1138)] W fun e' w' => e' = .returned (.tuple #[.int .u64 (decOf 0 mt).1, .int .i64 (decOf 0 mt).2]) ∧ Below W.heap.size W w' := by
  obtain ⟨b1, b2, b3⟩ := Lib.bitLenAux_bounds 64 mt (by omega) (by omega)
  have e : Lib.bitLen mt = Lib.bitLenAux 64 mt := rfl
  rw [← e] at b1 b2 b3
  have hL : 1 ≤ Lib.bitLen mt := by omega
  have hL2 : Lib.bitLen mt ≤ 52 := by
    rcases Nat.lt_or_ge 52 (Lib.bitLen mt) with h | h
    · have := Nat.pow_le_pow_right (by omega : 0 < 2) (by omega : 52 ≤ Lib.bitLen mt - 1)
      omega
    · exact h
  obtain ⟨L, hLe⟩ : ∃ L, Lib.bitLen mt = L := ⟨_, rfl⟩
  unfold decOf
  rw [if_pos rfl]
  clear e
  rw [hLe] at b2 b3 hL hL2 ⊢
  have p1 : 2 ^ (L - 1) * 2 ^ (64 - L) = 9223372036854775808 := by
    rw [← Nat.pow_add, show L - 1 + (64 - L) = 63 from by omega]
  have p2 : 2 ^ L * 2 ^ (64 - L) = 18446744073709551616 := by
    rw [← Nat.pow_add, show L + (64 - L) = 64 from by omega]
  have q1 : 2 ^ (L - 1) * 2 ^ (64 - L) ≤ mt * 2 ^ (64 - L) := Nat.mul_le_mul_right _ (by omega)
  have q2 : (mt + 1) * 2 ^ (64 - L) ≤ 2 ^ L * 2 ^ (64 - L) := Nat.mul_le_mul_right _ (by omega)
  rw [Nat.add_mul, Nat.one_mul] at q2
  have h := sub_way mt (64 - L) ((L : Int) - 1138) (by omega) (by omega) (by omega) (by omega) (by omega)
  rw [show 64 - L - 1 = 63 - L from by omega] at h
  exact ⟨⟨h.1.1, h.1.2.1, by rcases h.1.2.2 with e | e <;> rw [e] <;> omega, by rcases h.1.2.2 with e | e <;> rw [e] <;> omega⟩, h.2⟩

end Go.Proofs.YtamgdmmijlbjjaaGreatDoor

/- The digits of every finite double: which of shortFloat's ways it goes, and what comes out. -/
import Derived.Test.YtamgdmmijlbjjaaGreatDoorNPos
namespace Go.Proofs.YtamgdmmijlbjjaaGreatDoor
open Go Go.RowKit

/-- What strconv's tables hold, in memory. -/
structure NumTabs (w : World) : Prop where
  pow : ∀ (k hi lo : Nat), Go.Pinned.pow10Rows[k]? = some (hi, lo) → w.cell? ⟨8, k * 2, none⟩ = some (.int .u64 hi) ∧ w.cell? ⟨8, k * 2 + 1, none⟩ = some (.int .u64 lo)
  ten : Lib.TabIs Tryz.prog w "internal/strconv.uint64pow10" .u64 Lib.pow10Tab
  size : 16 < w.heap.size
theorem NumTabs.below {w w' : World} (h : NumTabs w) (hb : Below w.heap.size w w') : NumTabs w' := by
  have hs := h.size
  refine ⟨fun k hi lo hk => ?_, ?_, by have := hb.size; omega⟩
  · rw [hb.cell (p := ⟨8, k * 2, none⟩) (by show 8 < _; omega), hb.cell (p := ⟨8, k * 2 + 1, none⟩) (by show 8 < _; omega)]
    exact h.pow k hi lo hk
  · have ht := h.ten
    unfold Lib.TabIs World.var? at ht ⊢
    have hg : Tryz.prog.globalNamed "internal/strconv.uint64pow10" = some 7 := by kernel_rfl
    rw [hg] at ht ⊢
    simp only [Option.bind_some] at ht ⊢
    rw [hb.block 7 (by omega)]
    exact ht

def tabRow (p : Int) : Nat × Nat := (Go.Pinned.pow10Rows[(p + 348).toNat]?).getD (0, 0)
def shortOf (M : Nat) (p y : Int) (mn mx : Nat) (odd : Int) : Nat × Int :=
  ((shortP M p mn mx odd (tabRow p).1 (tabRow p).2 (-(y + l2P p + 3)).toNat).1.toNat, (shortP M p mn mx odd (tabRow p).1 (tabRow p).2 (-(y + l2P p + 3)).toNat).2)
/-- The digits, as a number, of the double with these parts, and their power of ten. -/
def decOf (ex mt : Nat) : Nat × Int :=
  if ex = 0 then
    shortOf (mt * 2 ^ (64 - Lib.bitLen mt)) 324 ((Lib.bitLen mt : Int) - 1138) (mt * 2 ^ (64 - Lib.bitLen mt) - 2 ^ (63 - Lib.bitLen mt)) (mt * 2 ^ (64 - Lib.bitLen mt) + 2 ^ (63 - Lib.bitLen mt))
      (bits .and .i64 (wrap64 (((mt * 2 ^ (64 - Lib.bitLen mt) : Nat) : Int) / 2 ^ (64 - Lib.bitLen mt))) 1)
  else if mt = 0 ∧ 1 < ex then
    shortOf 9223372036854775808 (-skewP ((ex : Int) - 1086 + 11)) ((ex : Int) - 1086) (9223372036854775808 - 512) (9223372036854775808 + 1024) (bits .and .i64 ((9223372036854775808 : Int) / 2048) 1)
  else shortOf ((mt + 4503599627370496) * 2048) (-l10P ((ex : Int) - 1086 + 11)) ((ex : Int) - 1086) ((mt + 4503599627370496) * 2048 - 1024) ((mt + 4503599627370496) * 2048 + 1024) (bits .and .i64 ((((mt + 4503599627370496) * 2048 : Nat) : Int) / 2048) 1)

theorem and_one (n : Nat) (h : n < 9223372036854775808) : bits .and .i64 (n : Int) 1 = 0 ∨ bits .and .i64 (n : Int) 1 = 1 := by
  have h2 := bits_and_i64_nat n 1 h (by omega)
  have h3 : n &&& 1 ≤ 1 := Nat.and_le_right
  have e1 : (((1 : Nat) : Int)) = 1 := rfl
  rw [e1] at h2
  rw [h2]
  omega
/-- What a call of shortFloat gives, from what its ways give. -/
theorem short_of (M : Nat) (p y : Int) (mn mx : Nat) (odd : Int) (hp : -348 ≤ p ∧ p ≤ 347) (h5 : 5 ≤ -(y + l2P p + 3)) (h58 : -(y + l2P p + 3) ≤ 58) (hm : 4611686018427387904 ≤ M ∧ M < 18446744073709551616) (hmn : 4611686018427387904 ≤ mn ∧ mn < 18446744073709551616) (hmx : 4611686018427387904 ≤ mx ∧ mx < 18446744073709551616) (ho : odd = 0 ∨ odd = 1)
    (H : ∀ (hi lo s : Nat), -(y + l2P p + 3) = (s : Int) → s ≤ 63 → hi < 18446744073709551616 → lo < 18446744073709551616 → ∀ W : World, 8 < W.heap.size → W.cell? ⟨8, (p + 348).toNat * 2, none⟩ = some (.int .u64 hi) → W.cell? ⟨8, (p + 348).toNat * 2 + 1, none⟩ = some (.int .u64 lo) →
      Calls Tryz.prog 230 #[.int .u64 M, .int .i64 y] W fun e' w' => e' = .returned (.tuple #[.int .u64 (shortP M p mn mx odd hi lo s).1, .int .i64 (shortP M p mn mx odd hi lo s).2]) ∧ Below W.heap.size W w') :
    (1 ≤ (shortOf M p y mn mx odd).1 ∧ (shortOf M p y mn mx odd).1 < 18446744073709551616 ∧ ((shortOf M p y mn mx odd).2 = -p ∨ (shortOf M p y mn mx odd).2 = -(p - 1))) ∧
    ∀ W : World, NumTabs W → Calls Tryz.prog 230 #[.int .u64 M, .int .i64 y] W fun e' w' => e' = .returned (.tuple #[.int .u64 (shortOf M p y mn mx odd).1, .int .i64 (shortOf M p y mn mx odd).2]) ∧ Below W.heap.size W w' := by
  obtain ⟨hi, lo, hr, r1, r2, r3⟩ := row_at p hp
  have ht : tabRow p = (hi, lo) := by unfold tabRow; rw [hr]; rfl
  obtain ⟨s, hs⟩ : ∃ s : Nat, -(y + l2P p + 3) = (s : Int) := ⟨(-(y + l2P p + 3)).toNat, by omega⟩
  have hb := short_pos M p mn mx odd hi lo s hm hmn hmx ho r1 r2 (by omega) (by omega)
  have he : shortOf M p y mn mx odd = ((shortP M p mn mx odd hi lo s).1.toNat, (shortP M p mn mx odd hi lo s).2) := by
    unfold shortOf
    rw [ht, hs, Int.toNat_natCast]
  rw [he]
  refine ⟨⟨by show 1 ≤ Int.toNat _; omega, by show Int.toNat _ < _; omega, hb.2.2⟩, fun W hW => ?_⟩
  have hc := hW.pow _ hi lo hr
  have h := H hi lo s hs (by omega) r2 r3 W (by have := hW.size; omega) hc.1 hc.2
  have e1 : (((shortP M p mn mx odd hi lo s).1.toNat : Nat) : Int) = (shortP M p mn mx odd hi lo s).1 := by omega
  simp only
  rw [e1]
  exact h
end Go.Proofs.YtamgdmmijlbjjaaGreatDoor

/- prescale, uscale. -/
import Derived.Test.YtamgdmmijlbjjaaGreatDoorNSmall
import Derived.Test.YtamgdmmijlbjjaaGreatDoorShelf
import Derived.Deep.QuietTactic
import Derived.BigQuiet
import GoSem.PinnedTables
namespace Go.Proofs.YtamgdmmijlbjjaaGreatDoor
open Go Go.RowKit

/-- The table of powers of ten, in memory. -/
def PowTab (w : World) : Prop := ∀ (k : Nat) (x : Nat × Nat), Go.Pinned.pow10Rows[k]? = some x → w.cell? ⟨8, 2 * k, none⟩ = some (.int .u64 x.1) ∧ w.cell? ⟨8, 2 * k + 1, none⟩ = some (.int .u64 x.2)

theorem row3 {w : World} {b : Nat} {u0 u1 u2 : Value} {t : TypeId} (hb : w.heap[b]? = some (.cells #[u0, u1, u2] t (0, 0))) :
    w.cell? ⟨b, 0, none⟩ = some u0 ∧ w.cell? ⟨b, 1, none⟩ = some u1 ∧ w.cell? ⟨b, 2, none⟩ = some u2 ∧ w.frozen? ⟨b, 0, none⟩ = false ∧ w.frozen? ⟨b, 1, none⟩ = false ∧ w.frozen? ⟨b, 2, none⟩ = false := by
  simp [World.cell?, World.frozen?, hb]
set_option maxHeartbeats 1000000 in
theorem prescale_any (b : Nat) (e p lp : Int) (hi lo : Nat) (he : -100000 ≤ e ∧ e ≤ 100000) (hp : -348 ≤ p ∧ p ≤ 347) (hl : -100000 ≤ lp ∧ lp ≤ 100000) (w : World) (u0 u1 u2 : Value) (t : TypeId) (hne : b ≠ 8)
    (hb : w.heap[b]? = some (.cells #[u0, u1, u2] t (0, 0))) (h1 : w.cell? ⟨8, (p + 348).toNat * 2, none⟩ = some (.int .u64 hi)) (h2 : w.cell? ⟨8, (p + 348).toNat * 2 + 1, none⟩ = some (.int .u64 lo)) :
    Calls Tryz.prog 283 #[.pointer (some ⟨b, 0, none⟩), .int .i64 e, .int .i64 p, .int .i64 lp] w fun e' w' => e' = .returned (.tuple #[]) ∧ w' = ((w.setCell ⟨b, 0, none⟩ (.int .u64 hi)).setCell ⟨b, 1, none⟩ (.int .u64 lo)).setCell ⟨b, 2, none⟩ (.int .i64 (-(e + lp + 3))) := by
  obtain ⟨c0, c1, c2, f0, f1, f2⟩ := row3 hb
  have hne' : ¬ (8 = b) := fun h => hne h.symm
  clear hb
  go_enter Tryz.func283, Tryz.ntmps283
  go_wp2
  go_end0
  exact ⟨rfl, rfl⟩
theorem prescale_own (b : Nat) (e p lp : Int) (hi lo : Nat) (s : Nat) (he : -100000 ≤ e ∧ e ≤ 100000) (hp : -348 ≤ p ∧ p ≤ 347) (hl : -100000 ≤ lp ∧ lp ≤ 100000) (hs : -(e + lp + 3) = (s : Int)) (w : World) (u0 u1 u2 : Value) (t : TypeId) (hne : b ≠ 8)
    (hb : w.heap[b]? = some (.cells #[u0, u1, u2] t (0, 0))) (h1 : w.cell? ⟨8, (p + 348).toNat * 2, none⟩ = some (.int .u64 hi)) (h2 : w.cell? ⟨8, (p + 348).toNat * 2 + 1, none⟩ = some (.int .u64 lo)) :
    Calls Tryz.prog 283 #[.pointer (some ⟨b, 0, none⟩), .int .i64 e, .int .i64 p, .int .i64 lp] w fun e' w' => e' = .returned (.tuple #[]) ∧ w'.cell? ⟨b, 0, none⟩ = some (.int .u64 hi) ∧ w'.cell? ⟨b, 1, none⟩ = some (.int .u64 lo) ∧ w'.cell? ⟨b, 2, none⟩ = some (.int .i64 s) ∧ Below b w w' := by
  refine (prescale_any b e p lp hi lo he hp hl w u0 u1 u2 t hne hb h1 h2).mono ?_
  rintro e' w' ⟨rfl, rfl⟩
  rw [hs]
  obtain ⟨c0, c1, c2, _⟩ := row3 hb
  refine ⟨rfl, ?_, ?_, ?_, (((Below.refl b w).setCell (by simp) _).setCell (by simp) _).setCell (by simp) _⟩
  all_goals simp [World.cell?, World.setCell, Array.getElem?_modify, hb]

/-- x times a power of ten, unrounded: its floor in quarters, the last bit telling of what is left. -/
def uscU (H M M2 s : Nat) : Int :=
  if IntKind.u64.wrap ((H : Int) / 2 ^ s * 2 ^ s) != (H : Int) then bits .or .u64 ((H : Int) / 2 ^ s) 1
  else bits .or .u64 (IntKind.u64.wrap ((H : Int) - (if (M : Int) < (M2 : Int) then 1 else 0)) / 2 ^ s) (if 1 < IntKind.u64.wrap ((M : Int) - (M2 : Int)) then 1 else 0)
def uscaleP (x hi lo s : Nat) : Int := uscU (x * hi / 18446744073709551616) (x * hi % 18446744073709551616) (x * lo / 18446744073709551616) s

set_option maxRecDepth 100000 in
set_option maxHeartbeats 1000000 in
theorem uscale_any (b : Nat) (x hi lo : Nat) (s : Nat) (hx : x < 18446744073709551616) (hhi : hi < 18446744073709551616) (hlo : lo < 18446744073709551616) (hs : s ≤ 63) (w : World) 
    (h0 : w.cell? ⟨b, 0, none⟩ = some (.int .u64 hi)) (h1 : w.cell? ⟨b, 1, none⟩ = some (.int .u64 lo)) (h2 : w.cell? ⟨b, 2, none⟩ = some (.int .i64 s)) :
    Calls Tryz.prog 285 #[.int .u64 x, .pointer (some ⟨b, 0, none⟩)] w fun e' w' => e' = .returned (.int .u64 (uscaleP x hi lo s)) ∧ ∃ n, w' = w.drewN n := by
  have hm : bits .and .i64 (s : Int) 63 = s := by
    have : ∀ k : Fin 64, bits .and .i64 (k.val : Int) 63 = k.val := by decide +kernel
    exact this ⟨s, by omega⟩
  have HM := Tryz.bits_Mul64 x hi hx hhi w
  have HL := Tryz.bits_Mul64 x lo hx hlo w
  have kH : x * hi / 18446744073709551616 < 18446744073709551616 := by
    refine Nat.div_lt_of_lt_mul (Nat.mul_lt_mul'' hx hhi)
  have kM : x * hi % 18446744073709551616 < 18446744073709551616 := Nat.mod_lt _ (by omega)
  have kL : x * lo / 18446744073709551616 < 18446744073709551616 := by
    refine Nat.div_lt_of_lt_mul (Nat.mul_lt_mul'' hx hlo)
  unfold uscaleP
  revert HM HL kH kM kL
  generalize x * hi / 18446744073709551616 = H
  generalize x * hi % 18446744073709551616 = M
  generalize x * lo / 18446744073709551616 = M2
  generalize x * lo % 18446744073709551616 = M3
  intro HM HL kH kM kL
  cases hc : (IntKind.u64.wrap ((H : Int) / 2 ^ s * 2 ^ s) != (H : Int))
  · have hu : uscU H M M2 s = bits .or .u64 (IntKind.u64.wrap ((H : Int) - (if (M : Int) < (M2 : Int) then 1 else 0)) / 2 ^ s) (if 1 < IntKind.u64.wrap ((M : Int) - (M2 : Int)) then 1 else 0) := by
      unfold uscU; rw [hc]; rfl
    have Hu := Lib.hid hu
    have Hc := Lib.hid hc
    have hH : IntKind.u64.wrap (H : Int) = H := IntWalk.u64_in _ (by omega)
    have HH := Lib.hid hH
    clear hH
    clear hu
    by_cases h3 : (M : Int) < (M2 : Int)
    all_goals
      go_enter Tryz.func285, Tryz.ntmps285
      go_wp2_with fail
      refine HM.mono ?_
      rintro e' w' ⟨rfl, rfl⟩
      go_wp2_with fail
      refine HL.mono ?_
      rintro e' w'' ⟨rfl, rfl⟩
      go_wp2_with fail
      refine (bool2u_any _ _).mono ?_
      rintro e' w'' ⟨rfl, rfl⟩
      go_wp2_with fail
      go_quiet ((go_at_call 322; exact Calls.quiet_of_same (bool2u_w _ _)))
      all_goals
        go_wp2_with fail
      all_goals
        go_ret
        refine ⟨?_, nq, rfl⟩
        rw [Hu.out]
        first
          | (simp [HH.out, *]; done)
          | (simp [h3]; split <;> first | rfl | omega)
          | (have hd := IntWalk.u64_in ((M : Int) - M2) (by omega); rw [if_neg (by omega : ¬ (M : Int) < (M2 : Int)), Int.sub_zero, HH.out, hd, if_pos (by omega)]; rfl)
          | (have hd := IntWalk.u64_in ((M : Int) - M2) (by omega); rw [if_neg (by omega : ¬ (M : Int) < (M2 : Int)), Int.sub_zero, HH.out, hd, if_neg (by omega)]; rfl)
  · have hu : uscU H M M2 s = bits .or .u64 ((H : Int) / 2 ^ s) 1 := by unfold uscU; rw [hc]; rfl
    go_enter Tryz.func285, Tryz.ntmps285
    go_wp2_with fail
    refine HM.mono ?_
    rintro e' w' ⟨rfl, rfl⟩
    go_wp2_with fail
    go_ret
    exact ⟨by rw [hu]; rfl, 0, rfl⟩
end Go.Proofs.YtamgdmmijlbjjaaGreatDoor

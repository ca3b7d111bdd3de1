/- prescale, uscale. -/
import Derived.Test.YtpobdmkidopnnaaGreatDoorGAA
import Derived.Test.YtpobdmkidopnnaaGreatDoorShelf
import Derived.Deep.QuietTactic
import Derived.BigQuiet
import GoSem.PinnedTables
import Derived.Lib.ItoaMem
import Derived.Laws.Bits64b
namespace Go.Proofs.YtpobdmkidopnnaaGreatDoor
open Go Go.RowKit

/-- The table of powers of ten, in memory. -/
def PowTab (w : World) : Prop := ∀ (k : Nat) (x : Nat × Nat), Go.Pinned.pow10Rows[k]? = some x → w.cell? ⟨9, 2 * k, none⟩ = some (.int .u64 x.1) ∧ w.cell? ⟨9, 2 * k + 1, none⟩ = some (.int .u64 x.2)

theorem row3 {w : World} {b : Nat} {u0 u1 u2 : Value} {t : TypeId} (hb : w.heap[b]? = some (.cells #[u0, u1, u2] t (0, 0))) :
    w.cell? ⟨b, 0, none⟩ = some u0 ∧ w.cell? ⟨b, 1, none⟩ = some u1 ∧ w.cell? ⟨b, 2, none⟩ = some u2 ∧ w.frozen? ⟨b, 0, none⟩ = false ∧ w.frozen? ⟨b, 1, none⟩ = false ∧ w.frozen? ⟨b, 2, none⟩ = false := by
  simp [World.cell?, World.frozen?, hb]
set_option maxHeartbeats 1000000 in
theorem prescale_any (b : Nat) (e p lp : Int) (hi lo : Nat) (he : -100000 ≤ e ∧ e ≤ 100000) (hp : -348 ≤ p ∧ p ≤ 347) (hl : -100000 ≤ lp ∧ lp ≤ 100000) (w : World) (u0 u1 u2 : Value) (t : TypeId) (hne : b ≠ 9)
    (hb : w.heap[b]? = some (.cells #[u0, u1, u2] t (0, 0))) (h1 : w.cell? ⟨9, (p + 348).toNat * 2, none⟩ = some (.int .u64 hi)) (h2 : w.cell? ⟨9, (p + 348).toNat * 2 + 1, none⟩ = some (.int .u64 lo)) :
    Calls Tryz.prog 374 #[.pointer (some ⟨b, 0, none⟩), .int .i64 e, .int .i64 p, .int .i64 lp] w fun e' w' => e' = .returned (.tuple #[]) ∧ w' = ((w.setCell ⟨b, 0, none⟩ (.int .u64 hi)).setCell ⟨b, 1, none⟩ (.int .u64 lo)).setCell ⟨b, 2, none⟩ (.int .i64 (-(e + lp + 3))) := by
  obtain ⟨c0, c1, c2, f0, f1, f2⟩ := row3 hb
  have hne' : ¬ (9 = b) := fun h => hne h.symm
  clear hb
  go_enter Tryz.func374, Tryz.ntmps374
  go_wp2
  go_end0
  exact ⟨rfl, rfl⟩
theorem prescale_own (b : Nat) (e p lp : Int) (hi lo : Nat) (s : Nat) (he : -100000 ≤ e ∧ e ≤ 100000) (hp : -348 ≤ p ∧ p ≤ 347) (hl : -100000 ≤ lp ∧ lp ≤ 100000) (hs : -(e + lp + 3) = (s : Int)) (w : World) (u0 u1 u2 : Value) (t : TypeId) (hne : b ≠ 9)
    (hb : w.heap[b]? = some (.cells #[u0, u1, u2] t (0, 0))) (h1 : w.cell? ⟨9, (p + 348).toNat * 2, none⟩ = some (.int .u64 hi)) (h2 : w.cell? ⟨9, (p + 348).toNat * 2 + 1, none⟩ = some (.int .u64 lo)) :
    Calls Tryz.prog 374 #[.pointer (some ⟨b, 0, none⟩), .int .i64 e, .int .i64 p, .int .i64 lp] w fun e' w' => e' = .returned (.tuple #[]) ∧ w'.cell? ⟨b, 0, none⟩ = some (.int .u64 hi) ∧ w'.cell? ⟨b, 1, none⟩ = some (.int .u64 lo) ∧ w'.cell? ⟨b, 2, none⟩ = some (.int .i64 s) ∧ Below b w w' := by
  refine (prescale_any b e p lp hi lo he hp hl w u0 u1 u2 t hne hb h1 h2).mono ?_
  rintro e' w' ⟨rfl, rfl⟩
  rw [hs]
  obtain ⟨c0, c1, c2, _⟩ := row3 hb
  refine ⟨rfl, ?_, ?_, ?_, (((Below.refl b w).setCell (by simp) _).setCell (by simp) _).setCell (by simp) _⟩
  all_goals simp [World.cell?, World.setCell, Array.getElem?_modify, hb]

/-- x times a power of ten, unrounded: its floor in quarters, the last bit telling of what is left. -/
def uscU (H M M2 s : Nat) : Int :=
  if IntKind.u64.wrap ((H : Int) / 2 ^ s * 2 ^ s) != (H : Int) then bits .or .u64 ((H : Int) / 2 ^ s) 1
  else bits .or .u64 (IntKind.u64.wrap ((H : Int) - (if (M : Int) < (M2 : Int) then 1 else 0)) / 2 ^ s) (if 1 < IntKind.u64.wrap ((M : Int) - (M2 : Int)) then 1 else 0)
def uscaleP (x hi lo s : Nat) : Int := uscU (x * hi / 18446744073709551616) (x * hi % 18446744073709551616) (x * lo / 18446744073709551616) s

set_option maxRecDepth 100000 in
set_option maxHeartbeats 1000000 in
theorem uscale_any (b : Nat) (x hi lo : Nat) (s : Nat) (hx : x < 18446744073709551616) (hhi : hi < 18446744073709551616) (hlo : lo < 18446744073709551616) (hs : s ≤ 63) (w : World) 
    (h0 : w.cell? ⟨b, 0, none⟩ = some (.int .u64 hi)) (h1 : w.cell? ⟨b, 1, none⟩ = some (.int .u64 lo)) (h2 : w.cell? ⟨b, 2, none⟩ = some (.int .i64 s)) :
    Calls Tryz.prog 376 #[.int .u64 x, .pointer (some ⟨b, 0, none⟩)] w fun e' w' => e' = .returned (.int .u64 (uscaleP x hi lo s)) ∧ ∃ n, w' = w.drewN n := by
  have hm : bits .and .i64 (s : Int) 63 = s := by
    have : ∀ k : Fin 64, bits .and .i64 (k.val : Int) 63 = k.val := by decide +kernel
    exact this ⟨s, by omega⟩
  have HM := Tryz.bits_Mul64 x hi hx hhi w
  have HL := Tryz.bits_Mul64 x lo hx hlo w
  have kH : x * hi / 18446744073709551616 < 18446744073709551616 := by
    refine Nat.div_lt_of_lt_mul (Nat.mul_lt_mul'' hx hhi)
  have kM : x * hi % 18446744073709551616 < 18446744073709551616 := Nat.mod_lt _ (by omega)
  have kL : x * lo / 18446744073709551616 < 18446744073709551616 := by
    refine Nat.div_lt_of_lt_mul (Nat.mul_lt_mul'' hx hlo)
  unfold uscaleP
  revert HM HL kH kM kL
  generalize x * hi / 18446744073709551616 = H
  generalize x * hi % 18446744073709551616 = M
  generalize x * lo / 18446744073709551616 = M2
  generalize x * lo % 18446744073709551616 = M3
  intro HM HL kH kM kL
  cases hc : (IntKind.u64.wrap ((H : Int) / 2 ^ s * 2 ^ s) != (H : Int))
  · have hu : uscU H M M2 s = bits .or .u64 (IntKind.u64.wrap ((H : Int) - (if (M : Int) < (M2 : Int) then 1 else 0)) / 2 ^ s) (if 1 < IntKind.u64.wrap ((M : Int) - (M2 : Int)) then 1 else 0) := by
      unfold uscU; rw [hc]; rfl
    have Hu := Lib.hid hu
    have Hc := Lib.hid hc
    have hH : IntKind.u64.wrap (H : Int) = H := IntWalk.u64_in _ (by omega)
    have HH := Lib.hid hH
    clear hH
    clear hu
    by_cases h3 : (M : Int) < (M2 : Int)
    all_goals
      go_enter Tryz.func376, Tryz.ntmps376
      go_wp2_with fail
      refine HM.mono ?_
      rintro e' w' ⟨rfl, rfl⟩
      go_wp2_with fail
      refine HL.mono ?_
      rintro e' w'' ⟨rfl, rfl⟩
      go_wp2_with fail
      refine (bool2u_any _ _).mono ?_
      rintro e' w'' ⟨rfl, rfl⟩
      go_wp2_with fail
      go_quiet ((go_at_call 393; exact Calls.quiet_of_same (bool2u_w _ _)))
      all_goals
        go_wp2_with fail
      all_goals
        go_ret
        refine ⟨?_, nq, rfl⟩
        rw [Hu.out]
        first
          | (simp [HH.out, *]; done)
          | (simp [h3]; split <;> first | rfl | omega)
          | (have hd := IntWalk.u64_in ((M : Int) - M2) (by omega); rw [if_neg (by omega : ¬ (M : Int) < (M2 : Int)), Int.sub_zero, HH.out, hd, if_pos (by omega)]; rfl)
          | (have hd := IntWalk.u64_in ((M : Int) - M2) (by omega); rw [if_neg (by omega : ¬ (M : Int) < (M2 : Int)), Int.sub_zero, HH.out, hd, if_neg (by omega)]; rfl)
  · have hu : uscU H M M2 s = bits .or .u64 ((H : Int) / 2 ^ s) 1 := by unfold uscU; rw [hc]; rfl
    go_enter Tryz.func376, Tryz.ntmps376
    go_wp2_with fail
    refine HM.mono ?_
    rintro e' w' ⟨rfl, rfl⟩
    go_wp2_with fail
    go_ret
    exact ⟨by rw [hu]; rfl, 0, rfl⟩
end Go.Proofs.YtpobdmkidopnnaaGreatDoor
namespace Go.Proofs.YtpobdmkidopnnaaGreatDoor
open Go Go.RowKit

/-- The digits as a number, and the power of ten. -/
def shortP (m : Nat) (p : Int) (mn mx : Nat) (odd : Int) (hi lo s : Nat) : Int × Int :=
  if ceilU (nudgeU (uscaleP mn hi lo s) odd) ≤ IntKind.u64.wrap (floorU (nudgeU (uscaleP mx hi lo s) (-odd)) / 10 * 10) then (floorU (nudgeU (uscaleP mx hi lo s) (-odd)) / 10, -(p - 1))
  else if ceilU (nudgeU (uscaleP mn hi lo s) odd) < floorU (nudgeU (uscaleP mx hi lo s) (-odd)) then (roundU (uscaleP m hi lo s), -p)
  else (ceilU (nudgeU (uscaleP mn hi lo s) odd), -p)
theorem wrap_u (x : Int) : 0 ≤ IntKind.u64.wrap x ∧ IntKind.u64.wrap x < 18446744073709551616 := by
  simp [IntKind.wrap, IntKind.bits, IntKind.signed]; omega
theorem bits_u (op : BinOp) (x y : Int) : 0 ≤ bits op .u64 x y ∧ bits op .u64 x y < 18446744073709551616 := by
  unfold bits
  split <;> exact wrap_u _
theorem uscale_u (x hi lo s : Nat) : 0 ≤ uscaleP x hi lo s ∧ uscaleP x hi lo s < 18446744073709551616 := by
  unfold uscaleP uscU
  split <;> exact bits_u _ _ _
theorem nudge_u (x d : Int) : 0 ≤ nudgeU x d ∧ nudgeU x d < 18446744073709551616 := wrap_u _
theorem ceil_u (x : Int) : 0 ≤ ceilU x ∧ ceilU x < 18446744073709551616 := by
  have := wrap_u (x + 3)
  unfold ceilU
  omega
theorem floor_u (x d : Int) : 0 ≤ floorU (nudgeU x d) ∧ floorU (nudgeU x d) < 18446744073709551616 := by
  have := nudge_u x d
  unfold floorU
  omega

set_option maxRecDepth 100000 in
set_option maxHeartbeats 400000 in
theorem short_two (m : Nat) (e : Int) (p : Int) (hi lo s : Nat) (mn mx : Nat) (odd : Int) (hb : ((m : Int) == 9223372036854775808) = false) (he : -1085 ≤ e) (he1 : e ≤ 90000) (hpd : -p = l10P (e + 11)) (hmnd : (mn : Int) = (m : Int) - 1024) (hmxd : (mx : Int) = (m : Int) + 1024) (hodd' : odd = bits .and .i64 ((m : Int) / 2048) 1) (mB : (m : Int) + 1024 ≤ 18446744073709551615)
    (hm0 : 9223372036854775808 ≤ m) (hm1 : m < 18446744073709551616) (hmn : mn < 18446744073709551616) (hmx : mx < 18446744073709551616) (hodd : odd = 0 ∨ odd = 1) (hp : -348 ≤ p ∧ p ≤ 347) (hs : -(e + l2P p + 3) = (s : Int)) (hs1 : s ≤ 63)
    (hhi : hi < 18446744073709551616) (hlo : lo < 18446744073709551616) (w : World) (hsz : 9 < w.heap.size) (h1 : w.cell? ⟨9, (p + 348).toNat * 2, none⟩ = some (.int .u64 hi)) (h2 : w.cell? ⟨9, (p + 348).toNat * 2 + 1, none⟩ = some (.int .u64 lo)) :
    Calls Tryz.prog 356 #[.int .u64 m, .int .i64 e] w fun e' w' => e' = .returned (.tuple #[.int .u64 (shortP m p mn mx odd hi lo s).1, .int .i64 (shortP m p mn mx odd hi lo s).2]) ∧ Below w.heap.size w w' := by
  have m0 : (0 : Int) ≤ (m : Int) := by omega
  have m1 : (m : Int) ≤ 18446744073709551615 := by omega
  have Hp := Lib.hid hpd
  have Hmn := Lib.hid hmnd
  have Hmx := Lib.hid hmxd
  have Hod := Lib.hid hodd'
  have Hs := Lib.hid hs
  have hl : -100000 ≤ l2P p ∧ l2P p ≤ 100000 := by unfold l2P; omega
  clear hpd hmnd hmxd hodd' hs
  go_enter Tryz.func356, Tryz.ntmps356
  go_wp2_with fail
  refine (log10Pow2_any (e + 11) (by omega) (by omega) _).mono ?_
  rintro e' w' ⟨rfl, rfl⟩
  rw [← Hp.out]
  go_wp2_with fail
  rw [← Hmn.out, ← Hmx.out, ← Hod.out]
  clear Hmn Hmx Hod
  refine (log2Pow10_any p (by omega) (by omega) _).mono ?_
  rintro e' w' ⟨rfl, rfl⟩
  go_wp2_with fail
  refine (prescale_own _ e p (l2P p) hi lo s ⟨by omega, by omega⟩ hp hl Hs.out _ (.int .u64 0) (.int .u64 0) (.int .i64 0) _ (by omega) (heap_alloc_new _ _) (by rw [World.cell?_alloc_lt _ _ _ (by simpa using hsz)]; exact h1) (by rw [World.cell?_alloc_lt _ _ _ (by simpa using hsz)]; exact h2)).mono ?_
  rintro e' W ⟨rfl, k0, k1, k2, bW⟩
  have BW : Below w.heap.size w W := ((Below.refl _ w).alloc (Nat.le_refl _) _).trans bW
  clear bW h1 h2
  go_wp2_with fail
  refine (uscale_any _ mn hi lo s hmn hhi hlo hs1 _ k0 k1 k2).mono ?_
  rintro e' w' ⟨rfl, n1, rfl⟩
  have U1 := uscale_u mn hi lo s
  obtain ⟨a1, ha1⟩ : ∃ a, uscaleP mn hi lo s = a := ⟨_, rfl⟩
  rw [ha1] at U1 ⊢
  have HA1 := Lib.hid ha1
  clear ha1
  go_wp2_with fail
  refine (nudge_any a1 odd U1.1 U1.2 _).mono ?_
  rintro e' w' ⟨rfl, rfl⟩
  have U2 := nudge_u a1 odd
  obtain ⟨a2, ha2⟩ : ∃ a, nudgeU a1 odd = a := ⟨_, rfl⟩
  rw [ha2] at U2 ⊢
  have HA2 := Lib.hid ha2
  clear ha2
  go_wp2_with fail
  refine (ceil_any a2 U2.1 U2.2 _).mono ?_
  rintro e' w' ⟨rfl, rfl⟩
  have U3 := ceil_u a2
  obtain ⟨a3, ha3⟩ : ∃ a, ceilU a2 = a := ⟨_, rfl⟩
  rw [ha3] at U3 ⊢
  have HA3 := Lib.hid ha3
  clear ha3
  go_wp2_with fail
  refine (uscale_any _ mx hi lo s hmx hhi hlo hs1 (W.drewN n1) k0 k1 k2).mono ?_
  rintro e' w' ⟨rfl, n2, rfl⟩
  have U4 := uscale_u mx hi lo s
  obtain ⟨a4, ha4⟩ : ∃ a, uscaleP mx hi lo s = a := ⟨_, rfl⟩
  rw [ha4] at U4 ⊢
  have HA4 := Lib.hid ha4
  clear ha4
  go_wp2_with fail
  refine (nudge_any a4 (-odd) U4.1 U4.2 _).mono ?_
  rintro e' w' ⟨rfl, rfl⟩
  have U5 := nudge_u a4 (-odd)
  have U6 := floor_u a4 (-odd)
  obtain ⟨a5, ha5⟩ : ∃ a, nudgeU a4 (-odd) = a := ⟨_, rfl⟩
  rw [ha5] at U5 U6 ⊢
  have HA5 := Lib.hid ha5
  clear ha5
  go_wp2_with fail
  refine (floor_any a5 U5.1 U5.2 _).mono ?_
  rintro e' w' ⟨rfl, rfl⟩
  obtain ⟨a6, ha6⟩ : ∃ a, floorU a5 = a := ⟨_, rfl⟩
  rw [ha6] at U6 ⊢
  have HA6 := Lib.hid ha6
  clear ha6
  have hsp : shortP m p mn mx odd hi lo s = (if a3 ≤ IntKind.u64.wrap (a6 / 10 * 10) then (a6 / 10, -(p - 1)) else if a3 < a6 then (roundU (uscaleP m hi lo s), -p) else (a3, -p)) := by
    unfold shortP
    rw [HA1.out, HA2.out, HA3.out, HA4.out, HA5.out, HA6.out]
  have Hsp := Lib.hid hsp
  clear hsp
  have hw : IntKind.u64.wrap (a6 / 10 * 10) = a6 / 10 * 10 := IntWalk.u64_in _ (by omega)
  have Hw := Lib.hid hw
  clear hw
  rcases (by omega : a6 / 10 * 10 < a3 ∨ a3 ≤ a6 / 10 * 10) with c1 | c1
  · have d1 : decide (a3 ≤ a6 / 10 * 10) = false := decide_eq_false (by omega)
    have C1 := Lib.hid c1
    clear c1 HA1 HA2 HA3 HA4 HA5 HA6 U1 U2 U4 U5
    rcases (by omega : a3 < a6 ∨ a6 ≤ a3) with c2 | c2
    · go_wp2_with fail
      refine (uscale_any _ m hi lo s hm1 hhi hlo hs1 (W.drewN (n1 + n2)) k0 k1 k2).mono ?_
      rintro e' w' ⟨rfl, n3, rfl⟩
      have U7 := uscale_u m hi lo s
      go_wp2_with fail
      refine (round_any _ U7.1 U7.2 _).mono ?_
      rintro e' w' ⟨rfl, rfl⟩
      go_wp2_with fail
      go_ret2
      refine ⟨?_, below_drewN BW _⟩
      have := C1.out
      rw [Hsp.out, Hw.out, if_neg (by omega), if_pos c2]
      rfl
    · have d2 : decide (a3 < a6) = false := decide_eq_false (by omega)
      have C2 := Lib.hid c2
      clear c2
      go_wp2_with fail
      go_ret2
      refine ⟨?_, below_drewN BW _⟩
      have := C2.out
      have := C1.out
      rw [Hsp.out, Hw.out, if_neg (by omega), if_neg (by omega)]
      rfl
  · go_wp2_with fail
    go_ret2
    refine ⟨?_, below_drewN BW _⟩
    rw [Hsp.out, Hw.out, if_pos (by omega)]
    rfl

set_option maxRecDepth 100000 in
set_option maxHeartbeats 400000 in
theorem short_edge (m : Nat) (e : Int) (p : Int) (hi lo s : Nat) (mn mx : Nat) (odd : Int) (hb : ((m : Int) == 9223372036854775808) = true) (he : e = -1085) (hpd : -p = l10P (-1074)) (hmnd : (mn : Int) = (m : Int) - 1024) (hmxd : (mx : Int) = (m : Int) + 1024) (hodd' : odd = bits .and .i64 ((m : Int) / 2048) 1) (mB : (m : Int) + 1024 ≤ 18446744073709551615)
    (hm0 : 9223372036854775808 ≤ m) (hm1 : m < 18446744073709551616) (hmn : mn < 18446744073709551616) (hmx : mx < 18446744073709551616) (hodd : odd = 0 ∨ odd = 1) (hp : -348 ≤ p ∧ p ≤ 347) (hs : -(e + l2P p + 3) = (s : Int)) (hs1 : s ≤ 63)
    (hhi : hi < 18446744073709551616) (hlo : lo < 18446744073709551616) (w : World) (hsz : 9 < w.heap.size) (h1 : w.cell? ⟨9, (p + 348).toNat * 2, none⟩ = some (.int .u64 hi)) (h2 : w.cell? ⟨9, (p + 348).toNat * 2 + 1, none⟩ = some (.int .u64 lo)) :
    Calls Tryz.prog 356 #[.int .u64 m, .int .i64 e] w fun e' w' => e' = .returned (.tuple #[.int .u64 (shortP m p mn mx odd hi lo s).1, .int .i64 (shortP m p mn mx odd hi lo s).2]) ∧ Below w.heap.size w w' := by
  subst he
  have m0 : (0 : Int) ≤ (m : Int) := by omega
  have m1 : (m : Int) ≤ 18446744073709551615 := by omega
  have Hp := Lib.hid hpd
  have Hmn := Lib.hid hmnd
  have Hmx := Lib.hid hmxd
  have Hod := Lib.hid hodd'
  have Hs := Lib.hid hs
  have hl : -100000 ≤ l2P p ∧ l2P p ≤ 100000 := by unfold l2P; omega
  clear hpd hmnd hmxd hodd' hs
  go_enter Tryz.func356, Tryz.ntmps356
  go_wp2_with fail
  refine (log10Pow2_any (-1074) (by omega) (by omega) _).mono ?_
  rintro e' w' ⟨rfl, rfl⟩
  rw [← Hp.out]
  go_wp2_with fail
  rw [← Hmn.out, ← Hmx.out, ← Hod.out]
  clear Hmn Hmx Hod
  refine (log2Pow10_any p (by omega) (by omega) _).mono ?_
  rintro e' w' ⟨rfl, rfl⟩
  go_wp2_with fail
  refine (prescale_own _ (-1085) p (l2P p) hi lo s ⟨by omega, by omega⟩ hp hl Hs.out _ (.int .u64 0) (.int .u64 0) (.int .i64 0) _ (by omega) (heap_alloc_new _ _) (by rw [World.cell?_alloc_lt _ _ _ (by simpa using hsz)]; exact h1) (by rw [World.cell?_alloc_lt _ _ _ (by simpa using hsz)]; exact h2)).mono ?_
  rintro e' W ⟨rfl, k0, k1, k2, bW⟩
  have BW : Below w.heap.size w W := ((Below.refl _ w).alloc (Nat.le_refl _) _).trans bW
  clear bW h1 h2
  go_wp2_with fail
  refine (uscale_any _ mn hi lo s hmn hhi hlo hs1 _ k0 k1 k2).mono ?_
  rintro e' w' ⟨rfl, n1, rfl⟩
  have U1 := uscale_u mn hi lo s
  obtain ⟨a1, ha1⟩ : ∃ a, uscaleP mn hi lo s = a := ⟨_, rfl⟩
  rw [ha1] at U1 ⊢
  have HA1 := Lib.hid ha1
  clear ha1
  go_wp2_with fail
  refine (nudge_any a1 odd U1.1 U1.2 _).mono ?_
  rintro e' w' ⟨rfl, rfl⟩
  have U2 := nudge_u a1 odd
  obtain ⟨a2, ha2⟩ : ∃ a, nudgeU a1 odd = a := ⟨_, rfl⟩
  rw [ha2] at U2 ⊢
  have HA2 := Lib.hid ha2
  clear ha2
  go_wp2_with fail
  refine (ceil_any a2 U2.1 U2.2 _).mono ?_
  rintro e' w' ⟨rfl, rfl⟩
  have U3 := ceil_u a2
  obtain ⟨a3, ha3⟩ : ∃ a, ceilU a2 = a := ⟨_, rfl⟩
  rw [ha3] at U3 ⊢
  have HA3 := Lib.hid ha3
  clear ha3
  go_wp2_with fail
  refine (uscale_any _ mx hi lo s hmx hhi hlo hs1 (W.drewN n1) k0 k1 k2).mono ?_
  rintro e' w' ⟨rfl, n2, rfl⟩
  have U4 := uscale_u mx hi lo s
  obtain ⟨a4, ha4⟩ : ∃ a, uscaleP mx hi lo s = a := ⟨_, rfl⟩
  rw [ha4] at U4 ⊢
  have HA4 := Lib.hid ha4
  clear ha4
  go_wp2_with fail
  refine (nudge_any a4 (-odd) U4.1 U4.2 _).mono ?_
  rintro e' w' ⟨rfl, rfl⟩
  have U5 := nudge_u a4 (-odd)
  have U6 := floor_u a4 (-odd)
  obtain ⟨a5, ha5⟩ : ∃ a, nudgeU a4 (-odd) = a := ⟨_, rfl⟩
  rw [ha5] at U5 U6 ⊢
  have HA5 := Lib.hid ha5
  clear ha5
  go_wp2_with fail
  refine (floor_any a5 U5.1 U5.2 _).mono ?_
  rintro e' w' ⟨rfl, rfl⟩
  obtain ⟨a6, ha6⟩ : ∃ a, floorU a5 = a := ⟨_, rfl⟩
  rw [ha6] at U6 ⊢
  have HA6 := Lib.hid ha6
  clear ha6
  have hsp : shortP m p mn mx odd hi lo s = (if a3 ≤ IntKind.u64.wrap (a6 / 10 * 10) then (a6 / 10, -(p - 1)) else if a3 < a6 then (roundU (uscaleP m hi lo s), -p) else (a3, -p)) := by
    unfold shortP
    rw [HA1.out, HA2.out, HA3.out, HA4.out, HA5.out, HA6.out]
  have Hsp := Lib.hid hsp
  clear hsp
  have hw : IntKind.u64.wrap (a6 / 10 * 10) = a6 / 10 * 10 := IntWalk.u64_in _ (by omega)
  have Hw := Lib.hid hw
  clear hw
  rcases (by omega : a6 / 10 * 10 < a3 ∨ a3 ≤ a6 / 10 * 10) with c1 | c1
  · have d1 : decide (a3 ≤ a6 / 10 * 10) = false := decide_eq_false (by omega)
    have C1 := Lib.hid c1
    clear c1 HA1 HA2 HA3 HA4 HA5 HA6 U1 U2 U4 U5
    rcases (by omega : a3 < a6 ∨ a6 ≤ a3) with c2 | c2
    · go_wp2_with fail
      refine (uscale_any _ m hi lo s hm1 hhi hlo hs1 (W.drewN (n1 + n2)) k0 k1 k2).mono ?_
      rintro e' w' ⟨rfl, n3, rfl⟩
      have U7 := uscale_u m hi lo s
      go_wp2_with fail
      refine (round_any _ U7.1 U7.2 _).mono ?_
      rintro e' w' ⟨rfl, rfl⟩
      go_wp2_with fail
      go_ret2
      refine ⟨?_, below_drewN BW _⟩
      have := C1.out
      rw [Hsp.out, Hw.out, if_neg (by omega), if_pos c2]
      rfl
    · have d2 : decide (a3 < a6) = false := decide_eq_false (by omega)
      have C2 := Lib.hid c2
      clear c2
      go_wp2_with fail
      go_ret2
      refine ⟨?_, below_drewN BW _⟩
      have := C2.out
      have := C1.out
      rw [Hsp.out, Hw.out, if_neg (by omega), if_neg (by omega)]
      rfl
  · go_wp2_with fail
    go_ret2
    refine ⟨?_, below_drewN BW _⟩
    rw [Hsp.out, Hw.out, if_pos (by omega)]
    rfl

set_option maxRecDepth 100000 in
set_option maxHeartbeats 400000 in
theorem short_one (m : Nat) (e : Int) (p : Int) (hi lo s : Nat) (mn mx : Nat) (odd : Int) (hb : ((m : Int) == 9223372036854775808) = true) (he : -1085 < e) (he1 : e ≤ 90000) (hpd : -p = skewP (e + 11)) (hmnd : (mn : Int) = (m : Int) - 512) (hmxd : (mx : Int) = (m : Int) + 1024) (hodd' : odd = bits .and .i64 ((m : Int) / 2048) 1) (mB : (m : Int) + 1024 ≤ 18446744073709551615)
    (hm0 : 9223372036854775808 ≤ m) (hm1 : m < 18446744073709551616) (hmn : mn < 18446744073709551616) (hmx : mx < 18446744073709551616) (hodd : odd = 0 ∨ odd = 1) (hp : -348 ≤ p ∧ p ≤ 347) (hs : -(e + l2P p + 3) = (s : Int)) (hs1 : s ≤ 63)
    (hhi : hi < 18446744073709551616) (hlo : lo < 18446744073709551616) (w : World) (hsz : 9 < w.heap.size) (h1 : w.cell? ⟨9, (p + 348).toNat * 2, none⟩ = some (.int .u64 hi)) (h2 : w.cell? ⟨9, (p + 348).toNat * 2 + 1, none⟩ = some (.int .u64 lo)) :
    Calls Tryz.prog 356 #[.int .u64 m, .int .i64 e] w fun e' w' => e' = .returned (.tuple #[.int .u64 (shortP m p mn mx odd hi lo s).1, .int .i64 (shortP m p mn mx odd hi lo s).2]) ∧ Below w.heap.size w w' := by
  have m0 : (0 : Int) ≤ (m : Int) := by omega
  have m1 : (m : Int) ≤ 18446744073709551615 := by omega
  have Hp := Lib.hid hpd
  have Hmn := Lib.hid hmnd
  have Hmx := Lib.hid hmxd
  have Hod := Lib.hid hodd'
  have Hs := Lib.hid hs
  have hl : -100000 ≤ l2P p ∧ l2P p ≤ 100000 := by unfold l2P; omega
  clear hpd hmnd hmxd hodd' hs
  go_enter Tryz.func356, Tryz.ntmps356
  go_wp2_with fail
  refine (skewed_any (e + 11) (by omega) (by omega) _).mono ?_
  rintro e' w' ⟨rfl, rfl⟩
  rw [← Hp.out]
  go_wp2_with fail
  rw [← Hmn.out, ← Hmx.out, ← Hod.out]
  clear Hmn Hmx Hod
  refine (log2Pow10_any p (by omega) (by omega) _).mono ?_
  rintro e' w' ⟨rfl, rfl⟩
  go_wp2_with fail
  refine (prescale_own _ e p (l2P p) hi lo s ⟨by omega, by omega⟩ hp hl Hs.out _ (.int .u64 0) (.int .u64 0) (.int .i64 0) _ (by omega) (heap_alloc_new _ _) (by rw [World.cell?_alloc_lt _ _ _ (by simpa using hsz)]; exact h1) (by rw [World.cell?_alloc_lt _ _ _ (by simpa using hsz)]; exact h2)).mono ?_
  rintro e' W ⟨rfl, k0, k1, k2, bW⟩
  have BW : Below w.heap.size w W := ((Below.refl _ w).alloc (Nat.le_refl _) _).trans bW
  clear bW h1 h2
  go_wp2_with fail
  refine (uscale_any _ mn hi lo s hmn hhi hlo hs1 _ k0 k1 k2).mono ?_
  rintro e' w' ⟨rfl, n1, rfl⟩
  have U1 := uscale_u mn hi lo s
  obtain ⟨a1, ha1⟩ : ∃ a, uscaleP mn hi lo s = a := ⟨_, rfl⟩
  rw [ha1] at U1 ⊢
  have HA1 := Lib.hid ha1
  clear ha1
  go_wp2_with fail
  refine (nudge_any a1 odd U1.1 U1.2 _).mono ?_
  rintro e' w' ⟨rfl, rfl⟩
  have U2 := nudge_u a1 odd
  obtain ⟨a2, ha2⟩ : ∃ a, nudgeU a1 odd = a := ⟨_, rfl⟩
  rw [ha2] at U2 ⊢
  have HA2 := Lib.hid ha2
  clear ha2
  go_wp2_with fail
  refine (ceil_any a2 U2.1 U2.2 _).mono ?_
  rintro e' w' ⟨rfl, rfl⟩
  have U3 := ceil_u a2
  obtain ⟨a3, ha3⟩ : ∃ a, ceilU a2 = a := ⟨_, rfl⟩
  rw [ha3] at U3 ⊢
  have HA3 := Lib.hid ha3
  clear ha3
  go_wp2_with fail
  refine (uscale_any _ mx hi lo s hmx hhi hlo hs1 (W.drewN n1) k0 k1 k2).mono ?_
  rintro e' w' ⟨rfl, n2, rfl⟩
  have U4 := uscale_u mx hi lo s
  obtain ⟨a4, ha4⟩ : ∃ a, uscaleP mx hi lo s = a := ⟨_, rfl⟩
  rw [ha4] at U4 ⊢
  have HA4 := Lib.hid ha4
  clear ha4
  go_wp2_with fail
  refine (nudge_any a4 (-odd) U4.1 U4.2 _).mono ?_
  rintro e' w' ⟨rfl, rfl⟩
  have U5 := nudge_u a4 (-odd)
  have U6 := floor_u a4 (-odd)
  obtain ⟨a5, ha5⟩ : ∃ a, nudgeU a4 (-odd) = a := ⟨_, rfl⟩
  rw [ha5] at U5 U6 ⊢
  have HA5 := Lib.hid ha5
  clear ha5
  go_wp2_with fail
  refine (floor_any a5 U5.1 U5.2 _).mono ?_
  rintro e' w' ⟨rfl, rfl⟩
  obtain ⟨a6, ha6⟩ : ∃ a, floorU a5 = a := ⟨_, rfl⟩
  rw [ha6] at U6 ⊢
  have HA6 := Lib.hid ha6
  clear ha6
  have hsp : shortP m p mn mx odd hi lo s = (if a3 ≤ IntKind.u64.wrap (a6 / 10 * 10) then (a6 / 10, -(p - 1)) else if a3 < a6 then (roundU (uscaleP m hi lo s), -p) else (a3, -p)) := by
    unfold shortP
    rw [HA1.out, HA2.out, HA3.out, HA4.out, HA5.out, HA6.out]
  have Hsp := Lib.hid hsp
  clear hsp
  have hw : IntKind.u64.wrap (a6 / 10 * 10) = a6 / 10 * 10 := IntWalk.u64_in _ (by omega)
  have Hw := Lib.hid hw
  clear hw
  rcases (by omega : a6 / 10 * 10 < a3 ∨ a3 ≤ a6 / 10 * 10) with c1 | c1
  · have d1 : decide (a3 ≤ a6 / 10 * 10) = false := decide_eq_false (by omega)
    have C1 := Lib.hid c1
    clear c1 HA1 HA2 HA3 HA4 HA5 HA6 U1 U2 U4 U5
    rcases (by omega : a3 < a6 ∨ a6 ≤ a3) with c2 | c2
    · go_wp2_with fail
      refine (uscale_any _ m hi lo s hm1 hhi hlo hs1 (W.drewN (n1 + n2)) k0 k1 k2).mono ?_
      rintro e' w' ⟨rfl, n3, rfl⟩
      have U7 := uscale_u m hi lo s
      go_wp2_with fail
      refine (round_any _ U7.1 U7.2 _).mono ?_
      rintro e' w' ⟨rfl, rfl⟩
      go_wp2_with fail
      go_ret2
      refine ⟨?_, below_drewN BW _⟩
      have := C1.out
      rw [Hsp.out, Hw.out, if_neg (by omega), if_pos c2]
      rfl
    · have d2 : decide (a3 < a6) = false := decide_eq_false (by omega)
      have C2 := Lib.hid c2
      clear c2
      go_wp2_with fail
      go_ret2
      refine ⟨?_, below_drewN BW _⟩
      have := C2.out
      have := C1.out
      rw [Hsp.out, Hw.out, if_neg (by omega), if_neg (by omega)]
      rfl
  · go_wp2_with fail
    go_ret2
    refine ⟨?_, below_drewN BW _⟩
    rw [Hsp.out, Hw.out, if_pos (by omega)]
    rfl

set_option maxRecDepth 100000 in
set_option maxHeartbeats 400000 in
theorem short_three (m : Nat) (e : Int) (p : Int) (hi lo s : Nat) (mn mx : Nat) (odd : Int) (hb : ((m : Int) == 9223372036854775808) = false) (he : decide (-1085 ≤ e) = false) (z : Int) (hz : -1085 - e = z) (hz2 : e + (11 + z) = -1074) (hz0 : 1 ≤ z) (hz1 : z ≤ 52) (hpd : -p = l10P (-1074)) (hmnd : (mn : Int) = IntKind.u64.wrap ((m : Int) - IntKind.u64.wrap (2 ^ ((11 + z).toNat - 1)))) (hmxd : (mx : Int) = IntKind.u64.wrap ((m : Int) + IntKind.u64.wrap (2 ^ ((11 + z).toNat - 1)))) (hodd' : odd = bits .and .i64 (wrap64 ((m : Int) / 2 ^ (11 + z).toNat)) 1)
    (hm0 : 9223372036854775808 ≤ m) (hm1 : m < 18446744073709551616) (hmn : mn < 18446744073709551616) (hmx : mx < 18446744073709551616) (hodd : odd = 0 ∨ odd = 1) (hp : -348 ≤ p ∧ p ≤ 347) (hs : -(e + l2P p + 3) = (s : Int)) (hs1 : s ≤ 63)
    (hhi : hi < 18446744073709551616) (hlo : lo < 18446744073709551616) (w : World) (hsz : 9 < w.heap.size) (h1 : w.cell? ⟨9, (p + 348).toNat * 2, none⟩ = some (.int .u64 hi)) (h2 : w.cell? ⟨9, (p + 348).toNat * 2 + 1, none⟩ = some (.int .u64 lo)) :
    Calls Tryz.prog 356 #[.int .u64 m, .int .i64 e] w fun e' w' => e' = .returned (.tuple #[.int .u64 (shortP m p mn mx odd hi lo s).1, .int .i64 (shortP m p mn mx odd hi lo s).2]) ∧ Below w.heap.size w w' := by
  have m0 : (0 : Int) ≤ (m : Int) := by omega
  have m1 : (m : Int) ≤ 18446744073709551615 := by omega
  have Hp := Lib.hid hpd
  have Hmn := Lib.hid hmnd
  have Hmx := Lib.hid hmxd
  have Hod := Lib.hid hodd'
  have Hs := Lib.hid hs
  have hl : -100000 ≤ l2P p ∧ l2P p ≤ 100000 := by unfold l2P; omega
  clear hpd hmnd hmxd hodd' hs
  go_enter Tryz.func356, Tryz.ntmps356
  go_wp2_with fail
  refine (log10Pow2_any (-1074) (by omega) (by omega) _).mono ?_
  rintro e' w' ⟨rfl, rfl⟩
  rw [← Hp.out]
  go_wp2_with fail
  rw [← Hmn.out, ← Hmx.out, ← Hod.out]
  clear Hmn Hmx Hod
  refine (log2Pow10_any p (by omega) (by omega) _).mono ?_
  rintro e' w' ⟨rfl, rfl⟩
  go_wp2_with fail
  refine (prescale_own _ e p (l2P p) hi lo s ⟨by omega, by omega⟩ hp hl Hs.out _ (.int .u64 0) (.int .u64 0) (.int .i64 0) _ (by omega) (heap_alloc_new _ _) (by rw [World.cell?_alloc_lt _ _ _ (by simpa using hsz)]; exact h1) (by rw [World.cell?_alloc_lt _ _ _ (by simpa using hsz)]; exact h2)).mono ?_
  rintro e' W ⟨rfl, k0, k1, k2, bW⟩
  have BW : Below w.heap.size w W := ((Below.refl _ w).alloc (Nat.le_refl _) _).trans bW
  clear bW h1 h2
  go_wp2_with fail
  refine (uscale_any _ mn hi lo s hmn hhi hlo hs1 _ k0 k1 k2).mono ?_
  rintro e' w' ⟨rfl, n1, rfl⟩
  have U1 := uscale_u mn hi lo s
  obtain ⟨a1, ha1⟩ : ∃ a, uscaleP mn hi lo s = a := ⟨_, rfl⟩
  rw [ha1] at U1 ⊢
  have HA1 := Lib.hid ha1
  clear ha1
  go_wp2_with fail
  refine (nudge_any a1 odd U1.1 U1.2 _).mono ?_
  rintro e' w' ⟨rfl, rfl⟩
  have U2 := nudge_u a1 odd
  obtain ⟨a2, ha2⟩ : ∃ a, nudgeU a1 odd = a := ⟨_, rfl⟩
  rw [ha2] at U2 ⊢
  have HA2 := Lib.hid ha2
  clear ha2
  go_wp2_with fail
  refine (ceil_any a2 U2.1 U2.2 _).mono ?_
  rintro e' w' ⟨rfl, rfl⟩
  have U3 := ceil_u a2
  obtain ⟨a3, ha3⟩ : ∃ a, ceilU a2 = a := ⟨_, rfl⟩
  rw [ha3] at U3 ⊢
  have HA3 := Lib.hid ha3
  clear ha3
  go_wp2_with fail
  refine (uscale_any _ mx hi lo s hmx hhi hlo hs1 (W.drewN n1) k0 k1 k2).mono ?_
  rintro e' w' ⟨rfl, n2, rfl⟩
  have U4 := uscale_u mx hi lo s
  obtain ⟨a4, ha4⟩ : ∃ a, uscaleP mx hi lo s = a := ⟨_, rfl⟩
  rw [ha4] at U4 ⊢
  have HA4 := Lib.hid ha4
  clear ha4
  go_wp2_with fail
  refine (nudge_any a4 (-odd) U4.1 U4.2 _).mono ?_
  rintro e' w' ⟨rfl, rfl⟩
  have U5 := nudge_u a4 (-odd)
  have U6 := floor_u a4 (-odd)
  obtain ⟨a5, ha5⟩ : ∃ a, nudgeU a4 (-odd) = a := ⟨_, rfl⟩
  rw [ha5] at U5 U6 ⊢
  have HA5 := Lib.hid ha5
  clear ha5
  go_wp2_with fail
  refine (floor_any a5 U5.1 U5.2 _).mono ?_
  rintro e' w' ⟨rfl, rfl⟩
  obtain ⟨a6, ha6⟩ : ∃ a, floorU a5 = a := ⟨_, rfl⟩
  rw [ha6] at U6 ⊢
  have HA6 := Lib.hid ha6
  clear ha6
  have hsp : shortP m p mn mx odd hi lo s = (if a3 ≤ IntKind.u64.wrap (a6 / 10 * 10) then (a6 / 10, -(p - 1)) else if a3 < a6 then (roundU (uscaleP m hi lo s), -p) else (a3, -p)) := by
    unfold shortP
    rw [HA1.out, HA2.out, HA3.out, HA4.out, HA5.out, HA6.out]
  have Hsp := Lib.hid hsp
  clear hsp
  have hw : IntKind.u64.wrap (a6 / 10 * 10) = a6 / 10 * 10 := IntWalk.u64_in _ (by omega)
  have Hw := Lib.hid hw
  clear hw
  rcases (by omega : a6 / 10 * 10 < a3 ∨ a3 ≤ a6 / 10 * 10) with c1 | c1
  · have d1 : decide (a3 ≤ a6 / 10 * 10) = false := decide_eq_false (by omega)
    have C1 := Lib.hid c1
    clear c1 HA1 HA2 HA3 HA4 HA5 HA6 U1 U2 U4 U5
    rcases (by omega : a3 < a6 ∨ a6 ≤ a3) with c2 | c2
    · go_wp2_with fail
      refine (uscale_any _ m hi lo s hm1 hhi hlo hs1 (W.drewN (n1 + n2)) k0 k1 k2).mono ?_
      rintro e' w' ⟨rfl, n3, rfl⟩
      have U7 := uscale_u m hi lo s
      go_wp2_with fail
      refine (round_any _ U7.1 U7.2 _).mono ?_
      rintro e' w' ⟨rfl, rfl⟩
      go_wp2_with fail
      go_ret2
      refine ⟨?_, below_drewN BW _⟩
      have := C1.out
      rw [Hsp.out, Hw.out, if_neg (by omega), if_pos c2]
      rfl
    · have d2 : decide (a3 < a6) = false := decide_eq_false (by omega)
      have C2 := Lib.hid c2
      clear c2
      go_wp2_with fail
      go_ret2
      refine ⟨?_, below_drewN BW _⟩
      have := C2.out
      have := C1.out
      rw [Hsp.out, Hw.out, if_neg (by omega), if_neg (by omega)]
      rfl
  · go_wp2_with fail
    go_ret2
    refine ⟨?_, below_drewN BW _⟩
    rw [Hsp.out, Hw.out, if_pos (by omega)]
    rfl

set_option maxRecDepth 100000 in
set_option maxHeartbeats 400000 in
theorem short_four (m : Nat) (e : Int) (p : Int) (hi lo s : Nat) (mn mx : Nat) (odd : Int) (hb : ((m : Int) == 9223372036854775808) = true) (hez : decide (-1085 < e) = false) (he : decide (-1085 ≤ e) = false) (z : Int) (hz : -1085 - e = z) (hz2 : e + (11 + z) = -1074) (hz0 : 1 ≤ z) (hz1 : z ≤ 52) (hpd : -p = l10P (-1074)) (hmnd : (mn : Int) = IntKind.u64.wrap ((m : Int) - IntKind.u64.wrap (2 ^ ((11 + z).toNat - 1)))) (hmxd : (mx : Int) = IntKind.u64.wrap ((m : Int) + IntKind.u64.wrap (2 ^ ((11 + z).toNat - 1)))) (hodd' : odd = bits .and .i64 (wrap64 ((m : Int) / 2 ^ (11 + z).toNat)) 1)
    (hm0 : 9223372036854775808 ≤ m) (hm1 : m < 18446744073709551616) (hmn : mn < 18446744073709551616) (hmx : mx < 18446744073709551616) (hodd : odd = 0 ∨ odd = 1) (hp : -348 ≤ p ∧ p ≤ 347) (hs : -(e + l2P p + 3) = (s : Int)) (hs1 : s ≤ 63)
    (hhi : hi < 18446744073709551616) (hlo : lo < 18446744073709551616) (w : World) (hsz : 9 < w.heap.size) (h1 : w.cell? ⟨9, (p + 348).toNat * 2, none⟩ = some (.int .u64 hi)) (h2 : w.cell? ⟨9, (p + 348).toNat * 2 + 1, none⟩ = some (.int .u64 lo)) :
    Calls Tryz.prog 356 #[.int .u64 m, .int .i64 e] w fun e' w' => e' = .returned (.tuple #[.int .u64 (shortP m p mn mx odd hi lo s).1, .int .i64 (shortP m p mn mx odd hi lo s).2]) ∧ Below w.heap.size w w' := by
  have m0 : (0 : Int) ≤ (m : Int) := by omega
  have m1 : (m : Int) ≤ 18446744073709551615 := by omega
  have Hp := Lib.hid hpd
  have Hmn := Lib.hid hmnd
  have Hmx := Lib.hid hmxd
  have Hod := Lib.hid hodd'
  have Hs := Lib.hid hs
  have hl : -100000 ≤ l2P p ∧ l2P p ≤ 100000 := by unfold l2P; omega
  clear hpd hmnd hmxd hodd' hs
  go_enter Tryz.func356, Tryz.ntmps356
  go_wp2_with fail
  refine (log10Pow2_any (-1074) (by omega) (by omega) _).mono ?_
  rintro e' w' ⟨rfl, rfl⟩
  rw [← Hp.out]
  go_wp2_with fail
  rw [← Hmn.out, ← Hmx.out, ← Hod.out]
  clear Hmn Hmx Hod
  refine (log2Pow10_any p (by omega) (by omega) _).mono ?_
  rintro e' w' ⟨rfl, rfl⟩
  go_wp2_with fail
  refine (prescale_own _ e p (l2P p) hi lo s ⟨by omega, by omega⟩ hp hl Hs.out _ (.int .u64 0) (.int .u64 0) (.int .i64 0) _ (by omega) (heap_alloc_new _ _) (by rw [World.cell?_alloc_lt _ _ _ (by simpa using hsz)]; exact h1) (by rw [World.cell?_alloc_lt _ _ _ (by simpa using hsz)]; exact h2)).mono ?_
  rintro e' W ⟨rfl, k0, k1, k2, bW⟩
  have BW : Below w.heap.size w W := ((Below.refl _ w).alloc (Nat.le_refl _) _).trans bW
  clear bW h1 h2
  go_wp2_with fail
  refine (uscale_any _ mn hi lo s hmn hhi hlo hs1 _ k0 k1 k2).mono ?_
  rintro e' w' ⟨rfl, n1, rfl⟩
  have U1 := uscale_u mn hi lo s
  obtain ⟨a1, ha1⟩ : ∃ a, uscaleP mn hi lo s = a := ⟨_, rfl⟩
  rw [ha1] at U1 ⊢
  have HA1 := Lib.hid ha1
  clear ha1
  go_wp2_with fail
  refine (nudge_any a1 odd U1.1 U1.2 _).mono ?_
  rintro e' w' ⟨rfl, rfl⟩
  have U2 := nudge_u a1 odd
  obtain ⟨a2, ha2⟩ : ∃ a, nudgeU a1 odd = a := ⟨_, rfl⟩
  rw [ha2] at U2 ⊢
  have HA2 := Lib.hid ha2
  clear ha2
  go_wp2_with fail
  refine (ceil_any a2 U2.1 U2.2 _).mono ?_
  rintro e' w' ⟨rfl, rfl⟩
  have U3 := ceil_u a2
  obtain ⟨a3, ha3⟩ : ∃ a, ceilU a2 = a := ⟨_, rfl⟩
  rw [ha3] at U3 ⊢
  have HA3 := Lib.hid ha3
  clear ha3
  go_wp2_with fail
  refine (uscale_any _ mx hi lo s hmx hhi hlo hs1 (W.drewN n1) k0 k1 k2).mono ?_
  rintro e' w' ⟨rfl, n2, rfl⟩
  have U4 := uscale_u mx hi lo s
  obtain ⟨a4, ha4⟩ : ∃ a, uscaleP mx hi lo s = a := ⟨_, rfl⟩
  rw [ha4] at U4 ⊢
  have HA4 := Lib.hid ha4
  clear ha4
  go_wp2_with fail
  refine (nudge_any a4 (-odd) U4.1 U4.2 _).mono ?_
  rintro e' w' ⟨rfl, rfl⟩
  have U5 := nudge_u a4 (-odd)
  have U6 := floor_u a4 (-odd)
  obtain ⟨a5, ha5⟩ : ∃ a, nudgeU a4 (-odd) = a := ⟨_, rfl⟩
  rw [ha5] at U5 U6 ⊢
  have HA5 := Lib.hid ha5
  clear ha5
  go_wp2_with fail
  refine (floor_any a5 U5.1 U5.2 _).mono ?_
  rintro e' w' ⟨rfl, rfl⟩
  obtain ⟨a6, ha6⟩ : ∃ a, floorU a5 = a := ⟨_, rfl⟩
  rw [ha6] at U6 ⊢
  have HA6 := Lib.hid ha6
  clear ha6
  have hsp : shortP m p mn mx odd hi lo s = (if a3 ≤ IntKind.u64.wrap (a6 / 10 * 10) then (a6 / 10, -(p - 1)) else if a3 < a6 then (roundU (uscaleP m hi lo s), -p) else (a3, -p)) := by
    unfold shortP
    rw [HA1.out, HA2.out, HA3.out, HA4.out, HA5.out, HA6.out]
  have Hsp := Lib.hid hsp
  clear hsp
  have hw : IntKind.u64.wrap (a6 / 10 * 10) = a6 / 10 * 10 := IntWalk.u64_in _ (by omega)
  have Hw := Lib.hid hw
  clear hw
  rcases (by omega : a6 / 10 * 10 < a3 ∨ a3 ≤ a6 / 10 * 10) with c1 | c1
  · have d1 : decide (a3 ≤ a6 / 10 * 10) = false := decide_eq_false (by omega)
    have C1 := Lib.hid c1
    clear c1 HA1 HA2 HA3 HA4 HA5 HA6 U1 U2 U4 U5
    rcases (by omega : a3 < a6 ∨ a6 ≤ a3) with c2 | c2
    · go_wp2_with fail
      refine (uscale_any _ m hi lo s hm1 hhi hlo hs1 (W.drewN (n1 + n2)) k0 k1 k2).mono ?_
      rintro e' w' ⟨rfl, n3, rfl⟩
      have U7 := uscale_u m hi lo s
      go_wp2_with fail
      refine (round_any _ U7.1 U7.2 _).mono ?_
      rintro e' w' ⟨rfl, rfl⟩
      go_wp2_with fail
      go_ret2
      refine ⟨?_, below_drewN BW _⟩
      have := C1.out
      rw [Hsp.out, Hw.out, if_neg (by omega), if_pos c2]
      rfl
    · have d2 : decide (a3 < a6) = false := decide_eq_false (by omega)
      have C2 := Lib.hid c2
      clear c2
      go_wp2_with fail
      go_ret2
      refine ⟨?_, below_drewN BW _⟩
      have := C2.out
      have := C1.out
      rw [Hsp.out, Hw.out, if_neg (by omega), if_neg (by omega)]
      rfl
  · go_wp2_with fail
    go_ret2
    refine ⟨?_, below_drewN BW _⟩
    rw [Hsp.out, Hw.out, if_pos (by omega)]
    rfl
end Go.Proofs.YtpobdmkidopnnaaGreatDoor
namespace Go.Proofs.YtpobdmkidopnnaaGreatDoor
open Go Go.RowKit Go.Lib Go.Sort

theorem nDigits_le : ∀ (k u : Nat), 1 ≤ k → u < 10 ^ k → nDigits u ≤ k := by
  intro k
  induction k with
  | zero => intro u h; omega
  | succ k ih =>
    intro u _ hu
    by_cases h : u < 10
    · rw [nDigits_small h]; omega
    · rw [nDigits_big h]
      have hk : 1 ≤ k := by
        rcases Nat.eq_zero_or_pos k with rfl | hk
        · simp at hu; omega
        · exact hk
      have := ih (u / 10) hk (by rw [Nat.pow_succ] at hu; omega)
      omega
/-- How many bytes are left when the noughts behind are taken away. -/
def stripN (l : List UInt8) : Nat := (l.reverse.dropWhile (· == 48)).length
theorem strip_nought (l : List UInt8) : stripN (l ++ [48]) = stripN l := by
  unfold stripN
  rw [List.reverse_append]
  simp
theorem strip_other (l : List UInt8) (c : UInt8) (h : c ≠ 48) : stripN (l ++ [c]) = l.length + 1 := by
  unfold stripN
  rw [List.reverse_append]
  simp [h]
theorem take_succ_get (l : List UInt8) (k : Nat) (h : k < l.length) : l.take (k + 1) = l.take k ++ [l[k]] := by
  rw [List.take_succ_eq_append_getElem h]

theorem below_row (w : World) (b : Nat) (d : Array UInt8) : Below b w (putRow (fun (b : UInt8) => Value.int .u8 (b.toNat : Int)) w b 0 d) :=
  ⟨rfl, rfl, rfl, by simp, fun k hk => by
    unfold putRow mapBlock
    simp only [Array.getElem?_modify]
    rw [if_neg (by omega)]⟩
/-- Sixteen and sixteen noughts. -/
def zeros32 : Array Value := Array.replicate 32 (Value.int .u8 0)

set_option maxRecDepth 100000 in
set_option maxHeartbeats 400000 in
theorem setDigits_any (b : Nat) (d : Nat) (p : Int) (h1 : 1 ≤ d) (h2 : d < 18446744073709551616) (hp : -100000 ≤ p ∧ p ≤ 100000) (w : World)
    (hz : ∀ j, j < 32 → w.cell? ⟨b, j, none⟩ = some (.int .u8 0) ∧ w.frozen? ⟨b, j, none⟩ = false) :
    Calls Tryz.prog 350 #[.slice (some ⟨b, 0, none⟩) 32 32, .int .u64 d, .int .i64 p, .int .i64 (nDigits d)] w fun e w' =>
      e = .returned (.tuple #[.int .i64 (nDigits d + p), .int .i64 (stripN (decDigits d))]) ∧ (∀ j (hj : j < (decDigits d).length), w'.cell? ⟨b, j, none⟩ = some (.int .u8 ((decDigits d)[j].toNat : Int))) ∧ Below b w w' := by
  have hn20 := nDigits_le 20 d (by omega) (by omega)
  have hn1 := nDigits_pos d
  have hnl := decDigits_length d
  have hlt := lt_pow_nDigits d
  obtain ⟨d0, hd0, hH⟩ : ∃ d0 : Array UInt8, d0.size = nDigits d ∧ Holds (fun (b : UInt8) => Value.int .u8 (b.toNat : Int)) w b 0 d0 := by
    refine ⟨Array.replicate (nDigits d) 0, by simp, fun j hj => ?_⟩
    have hj' : j < nDigits d := by simpa using hj
    have := hz j (by omega)
    rw [Nat.zero_add]
    refine ⟨?_, this.2⟩
    rw [this.1, getElem!_pos _ j hj]
    simp
  have hrow := fun (v' : Nat) (dk : Array UInt8) => @row_is_numeral d v' dk
  obtain ⟨n, hn⟩ : ∃ n, nDigits d = n := ⟨_, rfl⟩
  rw [hn] at hn20 hn1 hnl hlt hd0 ⊢
  have HC := Tryz.internal_strconv_formatBase10 b 0 32 d d0 w hH (by rw [hd0]; exact hlt) h2 (by omega)
  rw [hd0] at HC
  have Hn := Lib.hid hn
  have Hd0 := Lib.hid hd0
  have Hz := Lib.hid hz
  have Hrow := Lib.hid hrow
  have HH := Lib.hid hH
  have Hlt := Lib.hid hlt
  obtain ⟨l, hl⟩ : ∃ l, decDigits d = l := ⟨_, rfl⟩
  have Hl := Lib.hid hl
  rw [hl] at hnl
  have Hnl := Lib.hid hnl
  clear hn hd0 hz hrow hH hl hnl hlt
  go_enter Tryz.func350, Tryz.ntmps350
  go_wp2_with fail
  refine HC.mono ?_
  rintro e w' ⟨rfl, nq, v', dk, rfl, hinv⟩
  have hdk : ∀ j (hj : j < l.length), ((putRow (fun (b : UInt8) => Value.int .u8 (b.toNat : Int)) w b 0 dk).drewN nq).cell? ⟨b, j, none⟩ = some (.int .u8 (l[j].toNat : Int)) := by
    intro j hj
    have h3 : dk.size = d0.size := by rw [hinv.size, Hd0.out]
    have h4 := cell?_putRow (fun (b : UInt8) => Value.int .u8 (b.toNat : Int)) w b 0 d0 dk HH.out h3 j (by rw [hinv.size, ← Hnl.out]; exact hj)
    rw [Nat.zero_add] at h4
    refine h4.trans ?_
    have h5 := Hrow.out v' dk (by rw [Hn.out]; exact hinv) j (by rw [Hl.out]; exact hj)
    rw [← h5]
    simp only [Hl.out]
  have BW : Below b w ((putRow (fun (b : UInt8) => Value.int .u8 (b.toNat : Int)) w b 0 dk).drewN nq) := below_drewN (below_row w b dk) nq
  clear hinv
  revert hdk BW
  generalize (putRow (fun (b : UInt8) => Value.int .u8 (b.toNat : Int)) w b 0 dk).drewN nq = W
  intro hdk BW
  have Hdk := Lib.hid hdk
  clear hdk
  go_wp2_with fail
  go_loop [3] (fun i => ∃ k : Nat, k ≤ n ∧ i = .int .i64 k ∧ stripN l = stripN (l.take k)) (fun i => (Go.RowKit.intOf i).toNat)
  case atStart => exact ⟨n, Nat.le_refl _, rfl, by rw [List.take_of_length_le (by rw [Hnl.out]; exact Nat.le_refl _)]⟩
  case round =>
    obtain ⟨k, hk, rfl, hst⟩ := hrel
    have Hst := Lib.hid hst
    clear hst
    rcases Nat.eq_zero_or_pos k with rfl | hk0
    · go_wp2_with fail
      go_ret2
      exact ⟨by rw [Hl.out, Hst.out]; rfl, fun j hj => by simp only [Hl.out] at hj ⊢; exact Hdk.out j hj, BW⟩
    · have hkl : k - 1 < l.length := by rw [Hnl.out]; omega
      have hc := Hdk.out (k - 1) hkl
      have htk : l.take k = l.take (k - 1) ++ [l[k - 1]] := by
        have := take_succ_get l (k - 1) hkl
        rw [show k - 1 + 1 = k from by omega] at this
        exact this
      obtain ⟨c, hcc⟩ : ∃ c, l[k - 1] = c := ⟨_, rfl⟩
      rw [hcc] at hc htk
      have Htk := Lib.hid htk
      have Hcc := Lib.hid hcc
      clear htk hcc
      have i0 : (0 : Int) < (k : Int) := by omega
      have i1 : (1 : Int) ≤ (k : Int) := by omega
      have i2 : (0 : Int) ≤ (k : Int) - 1 := by omega
      have i3 : (k : Int) - 1 < 32 := by omega
      have i4 : ((k : Int) - 1).toNat = k - 1 := by omega
      by_cases h48 : c = 48
      · have e1 : ((c.toNat : Int) == 48) = true := by subst h48; rfl
        go_wp2_with fail
        go_round
        case rel => exact ⟨k - 1, by omega, by congr 1; omega, by rw [Hst.out, Htk.out, h48, strip_nought]⟩
        case measure => simp [Go.RowKit.intOf]; omega
      · have e1 : ((c.toNat : Int) == 48) = false := by
          rw [beq_eq_false_iff_ne]
          intro h
          exact h48 (UInt8.toNat_inj.1 (by have h9 : (48 : UInt8).toNat = 48 := rfl; omega))
        go_wp2_with fail
        go_ret2
        refine ⟨?_, fun j hj => by simp only [Hl.out] at hj ⊢; exact Hdk.out j hj, BW⟩
        rw [Hl.out, Hst.out, Htk.out, strip_other _ _ h48, List.length_take, Nat.min_eq_left (by omega), show k - 1 + 1 = k from by omega]
        rfl
end Go.Proofs.YtpobdmkidopnnaaGreatDoor
namespace Go.Proofs.YtpobdmkidopnnaaGreatDoor
open Go Go.RowKit

theorem bits_and_i64_nat (a b : Nat) (ha : a < 9223372036854775808) (hb : b < 9223372036854775808) : bits .and .i64 (a : Int) (b : Int) = ((a &&& b : Nat) : Int) := by
  have hx : a &&& b < 2 ^ 63 := Nat.and_lt_two_pow _ (by omega)
  have h1 : (BitVec.ofInt 64 (a : Int)).toNat = a := by
    rw [BitVec.ofInt_natCast, BitVec.toNat_ofNat]; exact Nat.mod_eq_of_lt (by omega)
  have h2 : (BitVec.ofInt 64 (b : Int)).toNat = b := by
    rw [BitVec.ofInt_natCast, BitVec.toNat_ofNat]; exact Nat.mod_eq_of_lt (by omega)
  show IntKind.i64.wrap ((BitVec.ofInt 64 (a : Int) &&& BitVec.ofInt 64 (b : Int)).toNat : Int) = _
  rw [BitVec.toNat_and, h1, h2, IntKind.wrap_i64]
  omega
theorem parts_e (b : Nat) (hb : b < 18446744073709551616) : bits .and .i64 ((b : Int) / 4503599627370496) 2047 = ((b / 4503599627370496 % 2048 : Nat) : Int) := by
  have h := bits_and_i64_nat (b / 4503599627370496) 2047 (by omega) (by omega)
  have e : b / 4503599627370496 &&& 2047 = b / 4503599627370496 % 2048 := Nat.and_two_pow_sub_one_eq_mod (b / 4503599627370496) 11
  rw [e] at h
  exact h
theorem parts_m (b : Nat) (hb : b < 18446744073709551616) : bits .and .u64 (b : Int) 4503599627370495 = ((b % 4503599627370496 : Nat) : Int) := by
  have h := bits_and_u64_nat b 4503599627370495 hb (by omega)
  have e : b &&& 4503599627370495 = b % 4503599627370496 := Nat.and_two_pow_sub_one_eq_mod b 52
  rw [e] at h
  exact h
theorem parts_or (mt : Nat) (h : mt < 4503599627370496) : bits .or .u64 (mt : Int) 4503599627370496 = ((mt + 4503599627370496 : Nat) : Int) := by
  have h1 := bits_or_u64_nat mt 4503599627370496 (by omega) (by omega)
  have e : mt ||| 4503599627370496 = mt + 4503599627370496 := by
    have := Nat.two_pow_add_eq_or_of_lt (i := 52) (b := mt) h 1
    rw [Nat.or_comm]
    simp only [Nat.reducePow, Nat.mul_one] at this
    omega
  rw [e] at h1
  exact h1
theorem parts_n (b : Nat) : ((b : Int) / 9223372036854775808 != 0) = decide (9223372036854775808 ≤ b) := by
  rw [Bool.eq_iff_iff, bne_iff_ne, decide_eq_true_iff]
  omega

/-- The table's rows are as great as a word's upper half. -/
theorem rows_len : Go.Pinned.pow10Rows.length = 696 := by decide +kernel
theorem rows_all : Go.Pinned.pow10Rows.all (fun x => decide (9223372036854775808 ≤ x.1) && decide (x.1 < 18446744073709551616) && decide (x.2 < 18446744073709551616)) = true := by decide +kernel
theorem row_at (p : Int) (hp : -348 ≤ p ∧ p ≤ 347) : ∃ hi lo : Nat, Go.Pinned.pow10Rows[(p + 348).toNat]? = some (hi, lo) ∧ 9223372036854775808 ≤ hi ∧ hi < 18446744073709551616 ∧ lo < 18446744073709551616 := by
  have hl : (p + 348).toNat < Go.Pinned.pow10Rows.length := by rw [rows_len]; omega
  refine ⟨_, _, List.getElem?_eq_getElem hl, ?_⟩
  have := List.all_eq_true.1 rows_all _ (List.getElem_mem hl)
  simp only [Bool.and_eq_true, decide_eq_true_iff] at this
  exact ⟨this.1.1, this.1.2, this.2⟩
/-- Which power of ten, and by how much is shifted: over all exponents. -/
theorem two_all : ∀ k : Fin 2046, -292 ≤ -l10P ((k.val : Int) - 1085 + 11) ∧ -l10P ((k.val : Int) - 1085 + 11) ≤ 324 ∧ 5 ≤ -((k.val : Int) - 1085 + l2P (-l10P ((k.val : Int) - 1085 + 11)) + 3) ∧ -((k.val : Int) - 1085 + l2P (-l10P ((k.val : Int) - 1085 + 11)) + 3) ≤ 8 := by decide +kernel
theorem one_all : ∀ k : Fin 2046, 1 ≤ k.val → -292 ≤ -skewP ((k.val : Int) - 1085 + 11) ∧ -skewP ((k.val : Int) - 1085 + 11) ≤ 324 ∧ 5 ≤ -((k.val : Int) - 1085 + l2P (-skewP ((k.val : Int) - 1085 + 11)) + 3) ∧ -((k.val : Int) - 1085 + l2P (-skewP ((k.val : Int) - 1085 + 11)) + 3) ≤ 8 := by decide +kernel
theorem two_at (y : Int) (h0 : -1085 ≤ y) (h1 : y ≤ 960) : -292 ≤ -l10P (y + 11) ∧ -l10P (y + 11) ≤ 324 ∧ 5 ≤ -(y + l2P (-l10P (y + 11)) + 3) ∧ -(y + l2P (-l10P (y + 11)) + 3) ≤ 8 := by
  have h := two_all ⟨(y + 1085).toNat, by omega⟩
  simp only at h
  rw [show (((y + 1085).toNat : Nat) : Int) - 1085 = y from by omega] at h
  exact h
theorem one_at (y : Int) (h0 : -1085 < y) (h1 : y ≤ 960) : -292 ≤ -skewP (y + 11) ∧ -skewP (y + 11) ≤ 324 ∧ 5 ≤ -(y + l2P (-skewP (y + 11)) + 3) ∧ -(y + l2P (-skewP (y + 11)) + 3) ≤ 8 := by
  have h := one_all ⟨(y + 1085).toNat, by omega⟩ (by simp only; omega)
  simp only at h
  rw [show (((y + 1085).toNat : Nat) : Int) - 1085 = y from by omega] at h
  exact h
theorem sub_p : -l10P (-1074) = 324 := by decide +kernel
theorem sub_l : l2P 324 = 1076 := by decide +kernel
end Go.Proofs.YtpobdmkidopnnaaGreatDoor
namespace Go.Proofs.YtpobdmkidopnnaaGreatDoor
open Go Go.RowKit

theorem or_low (a c : Nat) (ha : a < 576460752303423488) (hc : c ≤ 1) : (a : Int) ≤ bits .or .u64 (a : Int) (c : Int) ∧ bits .or .u64 (a : Int) (c : Int) < 576460752303423488 := by
  rw [bits_or_u64_nat a c (by omega) (by omega)]
  have h1 : a ≤ a ||| c := Nat.left_le_or
  have h2 : a ||| c < 2 ^ 59 := Nat.or_lt_two_pow (by omega) (by omega)
  omega
theorem div_pow (H s : Nat) : (H : Int) / 2 ^ s = ((H / 2 ^ s : Nat) : Int) := by
  rw [Int.natCast_ediv]
  simp
theorem div_low (H s : Nat) (h1 : 2305843009213693951 ≤ H) (h2 : H < 18446744073709551616) (h5 : 5 ≤ s) (h58 : s ≤ 58) : 7 ≤ H / 2 ^ s ∧ H / 2 ^ s < 576460752303423488 := by
  constructor
  · have := Nat.div_le_div_left (a := H) (Nat.pow_le_pow_right (by omega : 0 < 2) h58) (Nat.pow_pos (by omega : 0 < 2))
    omega
  · have := Nat.div_le_div_left (a := H) (Nat.pow_le_pow_right (by omega : 0 < 2) h5) (Nat.pow_pos (by omega : 0 < 2))
    omega
theorem usc_bounds (H M M2 s : Nat) (h1 : 2305843009213693952 ≤ H) (h2 : H < 18446744073709551616) (h5 : 5 ≤ s) (h58 : s ≤ 58) : 7 ≤ uscU H M M2 s ∧ uscU H M M2 s < 576460752303423488 := by
  unfold uscU
  split
  · rw [div_pow]
    have a1 := div_low H s (by omega) h2 h5 h58
    have a2 := or_low (H / 2 ^ s) 1 a1.2 (by omega)
    have e : (((1 : Nat) : Int)) = 1 := rfl
    rw [e] at a2
    omega
  · have hw : ∃ G : Nat, IntKind.u64.wrap ((H : Int) - (if (M : Int) < (M2 : Int) then 1 else 0)) = (G : Int) ∧ 2305843009213693951 ≤ G ∧ G < 18446744073709551616 := by
      split
      · exact ⟨H - 1, by rw [IntWalk.u64_in _ (by omega)]; omega, by omega, by omega⟩
      · exact ⟨H, by rw [IntWalk.u64_in _ (by omega)]; omega, by omega, h2⟩
    obtain ⟨G, e, g1, g2⟩ := hw
    rw [e, div_pow]
    have a1 := div_low G s g1 g2 h5 h58
    split
    · have a2 := or_low (G / 2 ^ s) 1 a1.2 (by omega)
      have e : (((1 : Nat) : Int)) = 1 := rfl
      rw [e] at a2
      omega
    · have a2 := or_low (G / 2 ^ s) 0 a1.2 (by omega)
      have e : (((0 : Nat) : Int)) = 0 := rfl
      rw [e] at a2
      omega
theorem uscale_bounds (x hi lo s : Nat) (hx : 4611686018427387904 ≤ x) (hx2 : x < 18446744073709551616) (hhi : 9223372036854775808 ≤ hi) (hhi2 : hi < 18446744073709551616) (h5 : 5 ≤ s) (h58 : s ≤ 58) : 7 ≤ uscaleP x hi lo s ∧ uscaleP x hi lo s < 576460752303423488 := by
  unfold uscaleP
  refine usc_bounds _ _ _ _ ?_ ?_ h5 h58
  · have := Nat.mul_le_mul hx hhi
    rw [Nat.le_div_iff_mul_le (by omega)]
    omega
  · exact Nat.div_lt_of_lt_mul (Nat.mul_lt_mul'' hx2 hhi2)
theorem nudge_up (x odd : Int) (h0 : 7 ≤ x) (h1 : x < 576460752303423488) (ho : odd = 0 ∨ odd = 1) : nudgeU x odd = x + odd := by
  unfold nudgeU
  rw [IntWalk.u64_in odd (by omega), IntWalk.u64_in _ (by omega)]
theorem nudge_down (x odd : Int) (h0 : 7 ≤ x) (h1 : x < 576460752303423488) (ho : odd = 0 ∨ odd = 1) : nudgeU x (-odd) = x - odd := by
  unfold nudgeU
  rw [IntKind.wrap_u64, IntKind.wrap_u64]
  omega
theorem ceil_is (x : Int) (h0 : 0 ≤ x) (h1 : x < 576460752303423490) : ceilU x = (x + 3) / 4 := by
  unfold ceilU
  rw [IntWalk.u64_in _ (by omega)]
theorem round_is (x : Int) (h0 : 7 ≤ x) (h1 : x < 576460752303423488) : 1 ≤ roundU x ∧ roundU x < 576460752303423488 := by
  obtain ⟨n, rfl⟩ := Int.eq_ofNat_of_zero_le (by omega : 0 ≤ x)
  have h2 := bits_and_u64_nat (n / 4) 1 (by omega) (by omega)
  have h3 : n / 4 &&& 1 ≤ 1 := Nat.and_le_right
  have e : (((n / 4 : Nat) : Int)) = (n : Int) / 4 := by omega
  have e1 : (((1 : Nat) : Int)) = 1 := rfl
  rw [e, e1] at h2
  unfold roundU
  rw [h2, IntWalk.u64_in ((n : Int) + 1) (by omega), IntWalk.u64_in _ (by omega)]
  omega
/-- The number of the digits is at least 1, and their power of ten is the one that was asked for or the next. -/
theorem short_pos (m : Nat) (p : Int) (mn mx : Nat) (odd : Int) (hi lo s : Nat) (hm : 4611686018427387904 ≤ m ∧ m < 18446744073709551616) (hmn : 4611686018427387904 ≤ mn ∧ mn < 18446744073709551616) (hmx : 4611686018427387904 ≤ mx ∧ mx < 18446744073709551616)
    (ho : odd = 0 ∨ odd = 1) (hhi : 9223372036854775808 ≤ hi) (hhi2 : hi < 18446744073709551616) (h5 : 5 ≤ s) (h58 : s ≤ 58) :
    1 ≤ (shortP m p mn mx odd hi lo s).1 ∧ (shortP m p mn mx odd hi lo s).1 < 18446744073709551616 ∧ ((shortP m p mn mx odd hi lo s).2 = -p ∨ (shortP m p mn mx odd hi lo s).2 = -(p - 1)) := by
  have u1 := uscale_bounds mn hi lo s hmn.1 hmn.2 hhi hhi2 h5 h58
  have u2 := uscale_bounds mx hi lo s hmx.1 hmx.2 hhi hhi2 h5 h58
  have u3 := uscale_bounds m hi lo s hm.1 hm.2 hhi hhi2 h5 h58
  have r := round_is _ u3.1 u3.2
  unfold shortP
  rw [nudge_up _ odd u1.1 u1.2 ho, nudge_down _ odd u2.1 u2.2 ho, ceil_is _ (by omega) (by omega)]
  unfold floorU
  rw [IntWalk.u64_in ((uscaleP mx hi lo s - odd) / 4 / 10 * 10) (by omega)]
  split
  · exact ⟨by show 1 ≤ _ / 10; omega, by show _ / 10 < _; omega, Or.inr rfl⟩
  · split
    · exact ⟨r.1, by have := r.2; show roundU _ < _; omega, Or.inl rfl⟩
    · exact ⟨by show 1 ≤ _ / 4; omega, by show _ / 4 < _; omega, Or.inl rfl⟩
/-- A number that is not 0 has a digit that is not 0. -/
theorem strip_pos (d : Nat) (h : 1 ≤ d) : 1 ≤ stripN (Lib.decDigits d) := by
  induction d using Nat.strongRecOn with
  | _ d ih =>
    by_cases h10 : d < 10
    · have e : Lib.decDigits d = [] ++ [UInt8.ofNat (48 + d)] := by rw [Lib.decDigits, dif_pos h10]; rfl
      rw [e, strip_other _ _ (by
        intro hc
        have := congrArg UInt8.toNat hc
        rw [UInt8.toNat_ofNat'] at this
        have h48 : (48 : UInt8).toNat = 48 := rfl
        omega)]
      simp
    · have e : Lib.decDigits d = Lib.decDigits (d / 10) ++ [UInt8.ofNat (48 + d % 10)] := by rw [Lib.decDigits, dif_neg h10]
      rw [e]
      by_cases h0 : d % 10 = 0
      · rw [h0]
        have : (UInt8.ofNat (48 + 0)) = 48 := rfl
        rw [this, strip_nought]
        exact ih (d / 10) (by omega) (by omega)
      · rw [strip_other _ _ (by
          intro hc
          have := congrArg UInt8.toNat hc
          rw [UInt8.toNat_ofNat'] at this
          have h48 : (48 : UInt8).toNat = 48 := rfl
          omega)]
        omega
end Go.Proofs.YtpobdmkidopnnaaGreatDoor
namespace Go.Proofs.YtpobdmkidopnnaaGreatDoor
open Go Go.RowKit

/-- What strconv's tables hold, in memory. -/
structure NumTabs (w : World) : Prop where
  pow : ∀ (k hi lo : Nat), Go.Pinned.pow10Rows[k]? = some (hi, lo) → w.cell? ⟨9, k * 2, none⟩ = some (.int .u64 hi) ∧ w.cell? ⟨9, k * 2 + 1, none⟩ = some (.int .u64 lo)
  ten : Lib.TabIs Tryz.prog w "internal/strconv.uint64pow10" .u64 Lib.pow10Tab
  size : 11 < w.heap.size
theorem NumTabs.below {w w' : World} (h : NumTabs w) (hb : Below w.heap.size w w') : NumTabs w' := by
  have hs := h.size
  refine ⟨fun k hi lo hk => ?_, ?_, by have := hb.size; omega⟩
  · rw [hb.cell (p := ⟨9, k * 2, none⟩) (by show 9 < _; omega), hb.cell (p := ⟨9, k * 2 + 1, none⟩) (by show 9 < _; omega)]
    exact h.pow k hi lo hk
  · have ht := h.ten
    unfold Lib.TabIs World.var? at ht ⊢
    have hg : Tryz.prog.globalNamed "internal/strconv.uint64pow10" = some 6 := by kernel_rfl
    rw [hg] at ht ⊢
    simp only [Option.bind_some] at ht ⊢
    rw [hb.block 6 (by omega)]
    exact ht

def tabRow (p : Int) : Nat × Nat := (Go.Pinned.pow10Rows[(p + 348).toNat]?).getD (0, 0)
def shortOf (M : Nat) (p y : Int) (mn mx : Nat) (odd : Int) : Nat × Int :=
  ((shortP M p mn mx odd (tabRow p).1 (tabRow p).2 (-(y + l2P p + 3)).toNat).1.toNat, (shortP M p mn mx odd (tabRow p).1 (tabRow p).2 (-(y + l2P p + 3)).toNat).2)
/-- The digits, as a number, of the double with these parts, and their power of ten. -/
def decOf (ex mt : Nat) : Nat × Int :=
  if ex = 0 then
    shortOf (mt * 2 ^ (64 - Lib.bitLen mt)) 324 ((Lib.bitLen mt : Int) - 1138) (mt * 2 ^ (64 - Lib.bitLen mt) - 2 ^ (63 - Lib.bitLen mt)) (mt * 2 ^ (64 - Lib.bitLen mt) + 2 ^ (63 - Lib.bitLen mt))
      (bits .and .i64 (wrap64 (((mt * 2 ^ (64 - Lib.bitLen mt) : Nat) : Int) / 2 ^ (64 - Lib.bitLen mt))) 1)
  else if mt = 0 ∧ 1 < ex then
    shortOf 9223372036854775808 (-skewP ((ex : Int) - 1086 + 11)) ((ex : Int) - 1086) (9223372036854775808 - 512) (9223372036854775808 + 1024) (bits .and .i64 ((9223372036854775808 : Int) / 2048) 1)
  else shortOf ((mt + 4503599627370496) * 2048) (-l10P ((ex : Int) - 1086 + 11)) ((ex : Int) - 1086) ((mt + 4503599627370496) * 2048 - 1024) ((mt + 4503599627370496) * 2048 + 1024) (bits .and .i64 ((((mt + 4503599627370496) * 2048 : Nat) : Int) / 2048) 1)

theorem and_one (n : Nat) (h : n < 9223372036854775808) : bits .and .i64 (n : Int) 1 = 0 ∨ bits .and .i64 (n : Int) 1 = 1 := by
  have h2 := bits_and_i64_nat n 1 h (by omega)
  have h3 : n &&& 1 ≤ 1 := Nat.and_le_right
  have e1 : (((1 : Nat) : Int)) = 1 := rfl
  rw [e1] at h2
  rw [h2]
  omega
/-- What a call of shortFloat gives, from what its ways give. -/
theorem short_of (M : Nat) (p y : Int) (mn mx : Nat) (odd : Int) (hp : -348 ≤ p ∧ p ≤ 347) (h5 : 5 ≤ -(y + l2P p + 3)) (h58 : -(y + l2P p + 3) ≤ 58) (hm : 4611686018427387904 ≤ M ∧ M < 18446744073709551616) (hmn : 4611686018427387904 ≤ mn ∧ mn < 18446744073709551616) (hmx : 4611686018427387904 ≤ mx ∧ mx < 18446744073709551616) (ho : odd = 0 ∨ odd = 1)
    (H : ∀ (hi lo s : Nat), -(y + l2P p + 3) = (s : Int) → s ≤ 63 → hi < 18446744073709551616 → lo < 18446744073709551616 → ∀ W : World, 9 < W.heap.size → W.cell? ⟨9, (p + 348).toNat * 2, none⟩ = some (.int .u64 hi) → W.cell? ⟨9, (p + 348).toNat * 2 + 1, none⟩ = some (.int .u64 lo) →
      Calls Tryz.prog 356 #[.int .u64 M, .int .i64 y] W fun e' w' => e' = .returned (.tuple #[.int .u64 (shortP M p mn mx odd hi lo s).1, .int .i64 (shortP M p mn mx odd hi lo s).2]) ∧ Below W.heap.size W w') :
    (1 ≤ (shortOf M p y mn mx odd).1 ∧ (shortOf M p y mn mx odd).1 < 18446744073709551616 ∧ ((shortOf M p y mn mx odd).2 = -p ∨ (shortOf M p y mn mx odd).2 = -(p - 1))) ∧
    ∀ W : World, NumTabs W → Calls Tryz.prog 356 #[.int .u64 M, .int .i64 y] W fun e' w' => e' = .returned (.tuple #[.int .u64 (shortOf M p y mn mx odd).1, .int .i64 (shortOf M p y mn mx odd).2]) ∧ Below W.heap.size W w' := by
  obtain ⟨hi, lo, hr, r1, r2, r3⟩ := row_at p hp
  have ht : tabRow p = (hi, lo) := by unfold tabRow; rw [hr]; rfl
  obtain ⟨s, hs⟩ : ∃ s : Nat, -(y + l2P p + 3) = (s : Int) := ⟨(-(y + l2P p + 3)).toNat, by omega⟩
  have hb := short_pos M p mn mx odd hi lo s hm hmn hmx ho r1 r2 (by omega) (by omega)
  have he : shortOf M p y mn mx odd = ((shortP M p mn mx odd hi lo s).1.toNat, (shortP M p mn mx odd hi lo s).2) := by
    unfold shortOf
    rw [ht, hs, Int.toNat_natCast]
  rw [he]
  refine ⟨⟨by show 1 ≤ Int.toNat _; omega, by show Int.toNat _ < _; omega, hb.2.2⟩, fun W hW => ?_⟩
  have hc := hW.pow _ hi lo hr
  have h := H hi lo s hs (by omega) r2 r3 W (by have := hW.size; omega) hc.1 hc.2
  have e1 : (((shortP M p mn mx odd hi lo s).1.toNat : Nat) : Int) = (shortP M p mn mx odd hi lo s).1 := by omega
  simp only
  rw [e1]
  exact h
end Go.Proofs.YtpobdmkidopnnaaGreatDoor

/- shortFloat: the fewest digits. -/
import Derived.Test.YtamgdmmijlbjjaaGreatDoorNScale
namespace Go.Proofs.YtamgdmmijlbjjaaGreatDoor
open Go Go.RowKit

/-- The digits as a number, and the power of ten. -/
def shortP (m : Nat) (p : Int) (mn mx : Nat) (odd : Int) (hi lo s : Nat) : Int × Int :=
  if ceilU (nudgeU (uscaleP mn hi lo s) odd) ≤ IntKind.u64.wrap (floorU (nudgeU (uscaleP mx hi lo s) (-odd)) / 10 * 10) then (floorU (nudgeU (uscaleP mx hi lo s) (-odd)) / 10, -(p - 1))
  else if ceilU (nudgeU (uscaleP mn hi lo s) odd) < floorU (nudgeU (uscaleP mx hi lo s) (-odd)) then (roundU (uscaleP m hi lo s), -p)
  else (ceilU (nudgeU (uscaleP mn hi lo s) odd), -p)
theorem below_drewN {B : Nat} {a w : World} (h : Below B a w) (n : Nat) : Below B a (w.drewN n) := ⟨h.os, h.tape, h.output, h.size, h.block⟩
theorem wrap_u (x : Int) : 0 ≤ IntKind.u64.wrap x ∧ IntKind.u64.wrap x < 18446744073709551616 := by
  simp [IntKind.wrap, IntKind.bits, IntKind.signed]; omega
theorem bits_u (op : BinOp) (x y : Int) : 0 ≤ bits op .u64 x y ∧ bits op .u64 x y < 18446744073709551616 := by
  unfold bits
  split <;> exact wrap_u _
theorem uscale_u (x hi lo s : Nat) : 0 ≤ uscaleP x hi lo s ∧ uscaleP x hi lo s < 18446744073709551616 := by
  unfold uscaleP uscU
  split <;> exact bits_u _ _ _
theorem nudge_u (x d : Int) : 0 ≤ nudgeU x d ∧ nudgeU x d < 18446744073709551616 := wrap_u _
theorem ceil_u (x : Int) : 0 ≤ ceilU x ∧ ceilU x < 18446744073709551616 := by
  have := wrap_u (x + 3)
  unfold ceilU
  omega
theorem floor_u (x d : Int) : 0 ≤ floorU (nudgeU x d) ∧ floorU (nudgeU x d) < 18446744073709551616 := by
  have := nudge_u x d
  unfold floorU
  omega

set_option maxRecDepth 100000 in
set_option maxHeartbeats 400000 in
theorem short_two (m : Nat) (e : Int) (p : Int) (hi lo s : Nat) (mn mx : Nat) (odd : Int) (hb : ((m : Int) == 9223372036854775808) = false) (he : -1085 ≤ e) (he1 : e ≤ 90000) (hpd : -p = l10P (e + 11)) (hmnd : (mn : Int) = (m : Int) - 1024) (hmxd : (mx : Int) = (m : Int) + 1024) (hodd' : odd = bits .and .i64 ((m : Int) / 2048) 1) (mB : (m : Int) + 1024 ≤ 18446744073709551615)
    (hm0 : 9223372036854775808 ≤ m) (hm1 : m < 18446744073709551616) (hmn : mn < 18446744073709551616) (hmx : mx < 18446744073709551616) (hodd : odd = 0 ∨ odd = 1) (hp : -348 ≤ p ∧ p ≤ 347) (hs : -(e + l2P p + 3) = (s : Int)) (hs1 : s ≤ 63)
    (hhi : hi < 18446744073709551616) (hlo : lo < 18446744073709551616) (w : World) (hsz : 8 < w.heap.size) (h1 : w.cell? ⟨8, (p + 348).toNat * 2, none⟩ = some (.int .u64 hi)) (h2 : w.cell? ⟨8, (p + 348).toNat * 2 + 1, none⟩ = some (.int .u64 lo)) :
    Calls Tryz.prog 230 #[.int .u64 m, .int .i64 e] w fun e' w' => e' = .returned (.tuple #[.int .u64 (shortP m p mn mx odd hi lo s).1, .int .i64 (shortP m p mn mx odd hi lo s).2]) ∧ Below w.heap.size w w' := by
  have m0 : (0 : Int) ≤ (m : Int) := by omega
  have m1 : (m : Int) ≤ 18446744073709551615 := by omega
  have Hp := Lib.hid hpd
  have Hmn := Lib.hid hmnd
  have Hmx := Lib.hid hmxd
  have Hod := Lib.hid hodd'
  have Hs := Lib.hid hs
  have hl : -100000 ≤ l2P p ∧ l2P p ≤ 100000 := by unfold l2P; omega
  clear hpd hmnd hmxd hodd' hs
  go_enter Tryz.func230, Tryz.ntmps230
  go_wp2_with fail
  refine (log10Pow2_any (e + 11) (by omega) (by omega) _).mono ?_
  rintro e' w' ⟨rfl, rfl⟩
  rw [← Hp.out]
  go_wp2_with fail
  rw [← Hmn.out, ← Hmx.out, ← Hod.out]
  clear Hmn Hmx Hod
  refine (log2Pow10_any p (by omega) (by omega) _).mono ?_
  rintro e' w' ⟨rfl, rfl⟩
  go_wp2_with fail
  refine (prescale_own _ e p (l2P p) hi lo s ⟨by omega, by omega⟩ hp hl Hs.out _ (.int .u64 0) (.int .u64 0) (.int .i64 0) _ (by omega) (heap_alloc_new _ _) (by rw [World.cell?_alloc_lt _ _ _ (by simpa using hsz)]; exact h1) (by rw [World.cell?_alloc_lt _ _ _ (by simpa using hsz)]; exact h2)).mono ?_
  rintro e' W ⟨rfl, k0, k1, k2, bW⟩
  have BW : Below w.heap.size w W := ((Below.refl _ w).alloc (Nat.le_refl _) _).trans bW
  clear bW h1 h2
  go_wp2_with fail
  refine (uscale_any _ mn hi lo s hmn hhi hlo hs1 _ k0 k1 k2).mono ?_
  rintro e' w' ⟨rfl, n1, rfl⟩
  have U1 := uscale_u mn hi lo s
  obtain ⟨a1, ha1⟩ : ∃ a, uscaleP mn hi lo s = a := ⟨_, rfl⟩
  rw [ha1] at U1 ⊢
  have HA1 := Lib.hid ha1
  clear ha1
  go_wp2_with fail
  refine (nudge_any a1 odd U1.1 U1.2 _).mono ?_
  rintro e' w' ⟨rfl, rfl⟩
  have U2 := nudge_u a1 odd
  obtain ⟨a2, ha2⟩ : ∃ a, nudgeU a1 odd = a := ⟨_, rfl⟩
  rw [ha2] at U2 ⊢
  have HA2 := Lib.hid ha2
  clear ha2
  go_wp2_with fail
  refine (ceil_any a2 U2.1 U2.2 _).mono ?_
  rintro e' w' ⟨rfl, rfl⟩
  have U3 := ceil_u a2
  obtain ⟨a3, ha3⟩ : ∃ a, ceilU a2 = a := ⟨_, rfl⟩
  rw [ha3] at U3 ⊢
  have HA3 := Lib.hid ha3
  clear ha3
  go_wp2_with fail
  refine (uscale_any _ mx hi lo s hmx hhi hlo hs1 (W.drewN n1) k0 k1 k2).mono ?_
  rintro e' w' ⟨rfl, n2, rfl⟩
  have U4 := uscale_u mx hi lo s
  obtain ⟨a4, ha4⟩ : ∃ a, uscaleP mx hi lo s = a := ⟨_, rfl⟩
  rw [ha4] at U4 ⊢
  have HA4 := Lib.hid ha4
  clear ha4
  go_wp2_with fail
  refine (nudge_any a4 (-odd) U4.1 U4.2 _).mono ?_
  rintro e' w' ⟨rfl, rfl⟩
  have U5 := nudge_u a4 (-odd)
  have U6 := floor_u a4 (-odd)
  obtain ⟨a5, ha5⟩ : ∃ a, nudgeU a4 (-odd) = a := ⟨_, rfl⟩
  rw [ha5] at U5 U6 ⊢
  have HA5 := Lib.hid ha5
  clear ha5
  go_wp2_with fail
  refine (floor_any a5 U5.1 U5.2 _).mono ?_
  rintro e' w' ⟨rfl, rfl⟩
  obtain ⟨a6, ha6⟩ : ∃ a, floorU a5 = a := ⟨_, rfl⟩
  rw [ha6] at U6 ⊢
  have HA6 := Lib.hid ha6
  clear ha6
  have hsp : shortP m p mn mx odd hi lo s = (if a3 ≤ IntKind.u64.wrap (a6 / 10 * 10) then (a6 / 10, -(p - 1)) else if a3 < a6 then (roundU (uscaleP m hi lo s), -p) else (a3, -p)) := by
    unfold shortP
    rw [HA1.out, HA2.out, HA3.out, HA4.out, HA5.out, HA6.out]
  have Hsp := Lib.hid hsp
  clear hsp
  have hw : IntKind.u64.wrap (a6 / 10 * 10) = a6 / 10 * 10 := IntWalk.u64_in _ (by omega)
  have Hw := Lib.hid hw
  clear hw
  rcases (by omega : a6 / 10 * 10 < a3 ∨ a3 ≤ a6 / 10 * 10) with c1 | c1
  · have d1 : decide (a3 ≤ a6 / 10 * 10) = false := decide_eq_false (by omega)
    have C1 := Lib.hid c1
    clear c1 HA1 HA2 HA3 HA4 HA5 HA6 U1 U2 U4 U5
    rcases (by omega : a3 < a6 ∨ a6 ≤ a3) with c2 | c2
    · go_wp2_with fail
      refine (uscale_any _ m hi lo s hm1 hhi hlo hs1 (W.drewN (n1 + n2)) k0 k1 k2).mono ?_
      rintro e' w' ⟨rfl, n3, rfl⟩
      have U7 := uscale_u m hi lo s
      go_wp2_with fail
      refine (round_any _ U7.1 U7.2 _).mono ?_
      rintro e' w' ⟨rfl, rfl⟩
      go_wp2_with fail
      go_ret2
      refine ⟨?_, below_drewN BW _⟩
      have := C1.out
      rw [Hsp.out, Hw.out, if_neg (by omega), if_pos c2]
      rfl
    · have d2 : decide (a3 < a6) = false := decide_eq_false (by omega)
      have C2 := Lib.hid c2
      clear c2
      go_wp2_with fail
      go_ret2
      refine ⟨?_, below_drewN BW _⟩
      have := C2.out
      have := C1.out
      rw [Hsp.out, Hw.out, if_neg (by omega), if_neg (by omega)]
      rfl
  · go_wp2_with fail
    go_ret2
    refine ⟨?_, below_drewN BW _⟩
    rw [Hsp.out, Hw.out, if_pos (by omega)]
    rfl

set_option maxRecDepth 100000 in
set_option maxHeartbeats 400000 in
theorem short_edge (m : Nat) (e : Int) (p : Int) (hi lo s : Nat) (mn mx : Nat) (odd : Int) (hb : ((m : Int) == 9223372036854775808) = true) (he : e = -1085) (hpd : -p = l10P (-1074)) (hmnd : (mn : Int) = (m : Int) - 1024) (hmxd : (mx : Int) = (m : Int) + 1024) (hodd' : odd = bits .and .i64 ((m : Int) / 2048) 1) (mB : (m : Int) + 1024 ≤ 18446744073709551615)
    (hm0 : 9223372036854775808 ≤ m) (hm1 : m < 18446744073709551616) (hmn : mn < 18446744073709551616) (hmx : mx < 18446744073709551616) (hodd : odd = 0 ∨ odd = 1) (hp : -348 ≤ p ∧ p ≤ 347) (hs : -(e + l2P p + 3) = (s : Int)) (hs1 : s ≤ 63)
    (hhi : hi < 18446744073709551616) (hlo : lo < 18446744073709551616) (w : World) (hsz : 8 < w.heap.size) (h1 : w.cell? ⟨8, (p + 348).toNat * 2, none⟩ = some (.int .u64 hi)) (h2 : w.cell? ⟨8, (p + 348).toNat * 2 + 1, none⟩ = some (.int .u64 lo)) :
    Calls Tryz.prog 230 #[.int .u64 m, .int .i64 e] w fun e' w' => e' = .returned (.tuple #[.int .u64 (shortP m p mn mx odd hi lo s).1, .int .i64 (shortP m p mn mx odd hi lo s).2]) ∧ Below w.heap.size w w' := by
  subst he
  have m0 : (0 : Int) ≤ (m : Int) := by omega
  have m1 : (m : Int) ≤ 18446744073709551615 := by omega
  have Hp := Lib.hid hpd
  have Hmn := Lib.hid hmnd
  have Hmx := Lib.hid hmxd
  have Hod := Lib.hid hodd'
  have Hs := Lib.hid hs
  have hl : -100000 ≤ l2P p ∧ l2P p ≤ 100000 := by unfold l2P; omega
  clear hpd hmnd hmxd hodd' hs
  go_enter Tryz.func230, Tryz.ntmps230
  go_wp2_with fail
  refine (log10Pow2_any (-1074) (by omega) (by omega) _).mono ?_
  rintro e' w' ⟨rfl, rfl⟩
  rw [← Hp.out]
  go_wp2_with fail
  rw [← Hmn.out, ← Hmx.out, ← Hod.out]
  clear Hmn Hmx Hod
  refine (log2Pow10_any p (by omega) (by omega) _).mono ?_
  rintro e' w' ⟨rfl, rfl⟩
  go_wp2_with fail
  refine (prescale_own _ (-1085) p (l2P p) hi lo s ⟨by omega, by omega⟩ hp hl Hs.out _ (.int .u64 0) (.int .u64 0) (.int .i64 0) _ (by omega) (heap_alloc_new _ _) (by rw [World.cell?_alloc_lt _ _ _ (by simpa using hsz)]; exact h1) (by rw [World.cell?_alloc_lt _ _ _ (by simpa using hsz)]; exact h2)).mono ?_
  rintro e' W ⟨rfl, k0, k1, k2, bW⟩
  have BW : Below w.heap.size w W := ((Below.refl _ w).alloc (Nat.le_refl _) _).trans bW
  clear bW h1 h2
  go_wp2_with fail
  refine (uscale_any _ mn hi lo s hmn hhi hlo hs1 _ k0 k1 k2).mono ?_
  rintro e' w' ⟨rfl, n1, rfl⟩
  have U1 := uscale_u mn hi lo s
  obtain ⟨a1, ha1⟩ : ∃ a, uscaleP mn hi lo s = a := ⟨_, rfl⟩
  rw [ha1] at U1 ⊢
  have HA1 := Lib.hid ha1
  clear ha1
  go_wp2_with fail
  refine (nudge_any a1 odd U1.1 U1.2 _).mono ?_
  rintro e' w' ⟨rfl, rfl⟩
  have U2 := nudge_u a1 odd
  obtain ⟨a2, ha2⟩ : ∃ a, nudgeU a1 odd = a := ⟨_, rfl⟩
  rw [ha2] at U2 ⊢
  have HA2 := Lib.hid ha2
  clear ha2
  go_wp2_with fail
  refine (ceil_any a2 U2.1 U2.2 _).mono ?_
  rintro e' w' ⟨rfl, rfl⟩
  have U3 := ceil_u a2
  obtain ⟨a3, ha3⟩ : ∃ a, ceilU a2 = a := ⟨_, rfl⟩
  rw [ha3] at U3 ⊢
  have HA3 := Lib.hid ha3
  clear ha3
  go_wp2_with fail
  refine (uscale_any _ mx hi lo s hmx hhi hlo hs1 (W.drewN n1) k0 k1 k2).mono ?_
  rintro e' w' ⟨rfl, n2, rfl⟩
  have U4 := uscale_u mx hi lo s
  obtain ⟨a4, ha4⟩ : ∃ a, uscaleP mx hi lo s = a := ⟨_, rfl⟩
  rw [ha4] at U4 ⊢
  have HA4 := Lib.hid ha4
  clear ha4
  go_wp2_with fail
  refine (nudge_any a4 (-odd) U4.1 U4.2 _).mono ?_
  rintro e' w' ⟨rfl, rfl⟩
  have U5 := nudge_u a4 (-odd)
  have U6 := floor_u a4 (-odd)
  obtain ⟨a5, ha5⟩ : ∃ a, nudgeU a4 (-odd) = a := ⟨_, rfl⟩
  rw [ha5] at U5 U6 ⊢
  have HA5 := Lib.hid ha5
  clear ha5
  go_wp2_with fail
  refine (floor_any a5 U5.1 U5.2 _).mono ?_
  rintro e' w' ⟨rfl, rfl⟩
  obtain ⟨a6, ha6⟩ : ∃ a, floorU a5 = a := ⟨_, rfl⟩
  rw [ha6] at U6 ⊢
  have HA6 := Lib.hid ha6
  clear ha6
  have hsp : shortP m p mn mx odd hi lo s = (if a3 ≤ IntKind.u64.wrap (a6 / 10 * 10) then (a6 / 10, -(p - 1)) else if a3 < a6 then (roundU (uscaleP m hi lo s), -p) else (a3, -p)) := by
    unfold shortP
    rw [HA1.out, HA2.out, HA3.out, HA4.out, HA5.out, HA6.out]
  have Hsp := Lib.hid hsp
  clear hsp
  have hw : IntKind.u64.wrap (a6 / 10 * 10) = a6 / 10 * 10 := IntWalk.u64_in _ (by omega)
  have Hw := Lib.hid hw
  clear hw
  rcases (by omega : a6 / 10 * 10 < a3 ∨ a3 ≤ a6 / 10 * 10) with c1 | c1
  · have d1 : decide (a3 ≤ a6 / 10 * 10) = false := decide_eq_false (by omega)
    have C1 := Lib.hid c1
    clear c1 HA1 HA2 HA3 HA4 HA5 HA6 U1 U2 U4 U5
    rcases (by omega : a3 < a6 ∨ a6 ≤ a3) with c2 | c2
    · go_wp2_with fail
      refine (uscale_any _ m hi lo s hm1 hhi hlo hs1 (W.drewN (n1 + n2)) k0 k1 k2).mono ?_
      rintro e' w' ⟨rfl, n3, rfl⟩
      have U7 := uscale_u m hi lo s
      go_wp2_with fail
      refine (round_any _ U7.1 U7.2 _).mono ?_
      rintro e' w' ⟨rfl, rfl⟩
      go_wp2_with fail
      go_ret2
      refine ⟨?_, below_drewN BW _⟩
      have := C1.out
      rw [Hsp.out, Hw.out, if_neg (by omega), if_pos c2]
      rfl
    · have d2 : decide (a3 < a6) = false := decide_eq_false (by omega)
      have C2 := Lib.hid c2
      clear c2
      go_wp2_with fail
      go_ret2
      refine ⟨?_, below_drewN BW _⟩
      have := C2.out
      have := C1.out
      rw [Hsp.out, Hw.out, if_neg (by omega), if_neg (by omega)]
      rfl
  · go_wp2_with fail
    go_ret2
    refine ⟨?_, below_drewN BW _⟩
    rw [Hsp.out, Hw.out, if_pos (by omega)]
    rfl

set_option maxRecDepth 100000 in
set_option maxHeartbeats 400000 in
theorem short_one (m : Nat) (e : Int) (p : Int) (hi lo s : Nat) (mn mx : Nat) (odd : Int) (hb : ((m : Int) == 9223372036854775808) = true) (he : -1085 < e) (he1 : e ≤ 90000) (hpd : -p = skewP (e + 11)) (hmnd : (mn : Int) = (m : Int) - 512) (hmxd : (mx : Int) = (m : Int) + 1024) (hodd' : odd = bits .and .i64 ((m : Int) / 2048) 1) (mB : (m : Int) + 1024 ≤ 18446744073709551615)
    (hm0 : 9223372036854775808 ≤ m) (hm1 : m < 18446744073709551616) (hmn : mn < 18446744073709551616) (hmx : mx < 18446744073709551616) (hodd : odd = 0 ∨ odd = 1) (hp : -348 ≤ p ∧ p ≤ 347) (hs : -(e + l2P p + 3) = (s : Int)) (hs1 : s ≤ 63)
    (hhi : hi < 18446744073709551616) (hlo : lo < 18446744073709551616) (w : World) (hsz : 8 < w.heap.size) (h1 : w.cell? ⟨8, (p + 348).toNat * 2, none⟩ = some (.int .u64 hi)) (h2 : w.cell? ⟨8, (p + 348).toNat * 2 + 1, none⟩ = some (.int .u64 lo)) :
    Calls Tryz.prog 230 #[.int .u64 m, .int .i64 e] w fun e' w' => e' = .returned (.tuple #[.int .u64 (shortP m p mn mx odd hi lo s).1, .int .i64 (shortP m p mn mx odd hi lo s).2]) ∧ Below w.heap.size w w' := by
  have m0 : (0 : Int) ≤ (m : Int) := by omega
  have m1 : (m : Int) ≤ 18446744073709551615 := by omega
  have Hp := Lib.hid hpd
  have Hmn := Lib.hid hmnd
  have Hmx := Lib.hid hmxd
  have Hod := Lib.hid hodd'
  have Hs := Lib.hid hs
  have hl : -100000 ≤ l2P p ∧ l2P p ≤ 100000 := by unfold l2P; omega
  clear hpd hmnd hmxd hodd' hs
  go_enter Tryz.func230, Tryz.ntmps230
  go_wp2_with fail
  refine (skewed_any (e + 11) (by omega) (by omega) _).mono ?_
  rintro e' w' ⟨rfl, rfl⟩
  rw [← Hp.out]
  go_wp2_with fail
  rw [← Hmn.out, ← Hmx.out, ← Hod.out]
  clear Hmn Hmx Hod
  refine (log2Pow10_any p (by omega) (by omega) _).mono ?_
  rintro e' w' ⟨rfl, rfl⟩
  go_wp2_with fail
  refine (prescale_own _ e p (l2P p) hi lo s ⟨by omega, by omega⟩ hp hl Hs.out _ (.int .u64 0) (.int .u64 0) (.int .i64 0) _ (by omega) (heap_alloc_new _ _) (by rw [World.cell?_alloc_lt _ _ _ (by simpa using hsz)]; exact h1) (by rw [World.cell?_alloc_lt _ _ _ (by simpa using hsz)]; exact h2)).mono ?_
  rintro e' W ⟨rfl, k0, k1, k2, bW⟩
  have BW : Below w.heap.size w W := ((Below.refl _ w).alloc (Nat.le_refl _) _).trans bW
  clear bW h1 h2
  go_wp2_with fail
  refine (uscale_any _ mn hi lo s hmn hhi hlo hs1 _ k0 k1 k2).mono ?_
  rintro e' w' ⟨rfl, n1, rfl⟩
  have U1 := uscale_u mn hi lo s
  obtain ⟨a1, ha1⟩ : ∃ a, uscaleP mn hi lo s = a := ⟨_, rfl⟩
  rw [ha1] at U1 ⊢
  have HA1 := Lib.hid ha1
  clear ha1
  go_wp2_with fail
  refine (nudge_any a1 odd U1.1 U1.2 _).mono ?_
  rintro e' w' ⟨rfl, rfl⟩
  have U2 := nudge_u a1 odd
  obtain ⟨a2, ha2⟩ : ∃ a, nudgeU a1 odd = a := ⟨_, rfl⟩
  rw [ha2] at U2 ⊢
  have HA2 := Lib.hid ha2
  clear ha2
  go_wp2_with fail
  refine (ceil_any a2 U2.1 U2.2 _).mono ?_
  rintro e' w' ⟨rfl, rfl⟩
  have U3 := ceil_u a2
  obtain ⟨a3, ha3⟩ : ∃ a, ceilU a2 = a := ⟨_, rfl⟩
  rw [ha3] at U3 ⊢
  have HA3 := Lib.hid ha3
  clear ha3
  go_wp2_with fail
  refine (uscale_any _ mx hi lo s hmx hhi hlo hs1 (W.drewN n1) k0 k1 k2).mono ?_
  rintro e' w' ⟨rfl, n2, rfl⟩
  have U4 := uscale_u mx hi lo s
  obtain ⟨a4, ha4⟩ : ∃ a, uscaleP mx hi lo s = a := ⟨_, rfl⟩
  rw [ha4] at U4 ⊢
  have HA4 := Lib.hid ha4
  clear ha4
  go_wp2_with fail
  refine (nudge_any a4 (-odd) U4.1 U4.2 _).mono ?_
  rintro e' w' ⟨rfl, rfl⟩
  have U5 := nudge_u a4 (-odd)
  have U6 := floor_u a4 (-odd)
  obtain ⟨a5, ha5⟩ : ∃ a, nudgeU a4 (-odd) = a := ⟨_, rfl⟩
  rw [ha5] at U5 U6 ⊢
  have HA5 := Lib.hid ha5
  clear ha5
  go_wp2_with fail
  refine (floor_any a5 U5.1 U5.2 _).mono ?_
  rintro e' w' ⟨rfl, rfl⟩
  obtain ⟨a6, ha6⟩ : ∃ a, floorU a5 = a := ⟨_, rfl⟩
  rw [ha6] at U6 ⊢
  have HA6 := Lib.hid ha6
  clear ha6
  have hsp : shortP m p mn mx odd hi lo s = (if a3 ≤ IntKind.u64.wrap (a6 / 10 * 10) then (a6 / 10, -(p - 1)) else if a3 < a6 then (roundU (uscaleP m hi lo s), -p) else (a3, -p)) := by
    unfold shortP
    rw [HA1.out, HA2.out, HA3.out, HA4.out, HA5.out, HA6.out]
  have Hsp := Lib.hid hsp
  clear hsp
  have hw : IntKind.u64.wrap (a6 / 10 * 10) = a6 / 10 * 10 := IntWalk.u64_in _ (by omega)
  have Hw := Lib.hid hw
  clear hw
  rcases (by omega : a6 / 10 * 10 < a3 ∨ a3 ≤ a6 / 10 * 10) with c1 | c1
  · have d1 : decide (a3 ≤ a6 / 10 * 10) = false := decide_eq_false (by omega)
    have C1 := Lib.hid c1
    clear c1 HA1 HA2 HA3 HA4 HA5 HA6 U1 U2 U4 U5
    rcases (by omega : a3 < a6 ∨ a6 ≤ a3) with c2 | c2
    · go_wp2_with fail
      refine (uscale_any _ m hi lo s hm1 hhi hlo hs1 (W.drewN (n1 + n2)) k0 k1 k2).mono ?_
      rintro e' w' ⟨rfl, n3, rfl⟩
      have U7 := uscale_u m hi lo s
      go_wp2_with fail
      refine (round_any _ U7.1 U7.2 _).mono ?_
      rintro e' w' ⟨rfl, rfl⟩
      go_wp2_with fail
      go_ret2
      refine ⟨?_, below_drewN BW _⟩
      have := C1.out
      rw [Hsp.out, Hw.out, if_neg (by omega), if_pos c2]
      rfl
    · have d2 : decide (a3 < a6) = false := decide_eq_false (by omega)
      have C2 := Lib.hid c2
      clear c2
      go_wp2_with fail
      go_ret2
      refine ⟨?_, below_drewN BW _⟩
      have := C2.out
      have := C1.out
      rw [Hsp.out, Hw.out, if_neg (by omega), if_neg (by omega)]
      rfl
  · go_wp2_with fail
    go_ret2
    refine ⟨?_, below_drewN BW _⟩
    rw [Hsp.out, Hw.out, if_pos (by omega)]
    rfl

set_option maxRecDepth 100000 in
set_option maxHeartbeats 400000 in
theorem short_three (m : Nat) (e : Int) (p : Int) (hi lo s : Nat) (mn mx : Nat) (odd : Int) (hb : ((m : Int) == 9223372036854775808) = false) (he : decide (-1085 ≤ e) = false) (z : Int) (hz : -1085 - e = z) (hz2 : e + (11 + z) = -1074) (hz0 : 1 ≤ z) (hz1 : z ≤ 52) (hpd : -p = l10P (-1074)) (hmnd : (mn : Int) = IntKind.u64.wrap ((m : Int) - IntKind.u64.wrap (2 ^ ((11 + z).toNat - 1)))) (hmxd : (mx : Int) = IntKind.u64.wrap ((m : Int) + IntKind.u64.wrap (2 ^ ((11 + z).toNat - 1)))) (hodd' : odd = bits .and .i64 (wrap64 ((m : Int) / 2 ^ (11 + z).toNat)) 1)
    (hm0 : 9223372036854775808 ≤ m) (hm1 : m < 18446744073709551616) (hmn : mn < 18446744073709551616) (hmx : mx < 18446744073709551616) (hodd : odd = 0 ∨ odd = 1) (hp : -348 ≤ p ∧ p ≤ 347) (hs : -(e + l2P p + 3) = (s : Int)) (hs1 : s ≤ 63)
    (hhi : hi < 18446744073709551616) (hlo : lo < 18446744073709551616) (w : World) (hsz : 8 < w.heap.size) (h1 : w.cell? ⟨8, (p + 348).toNat * 2, none⟩ = some (.int .u64 hi)) (h2 : w.cell? ⟨8, (p + 348).toNat * 2 + 1, none⟩ = some (.int .u64 lo)) :
    Calls Tryz.prog 230 #[.int .u64 m, .int .i64 e] w fun e' w' => e' = .returned (.tuple #[.int .u64 (shortP m p mn mx odd hi lo s).1, .int .i64 (shortP m p mn mx odd hi lo s).2]) ∧ Below w.heap.size w w' := by
  have m0 : (0 : Int) ≤ (m : Int) := by omega
  have m1 : (m : Int) ≤ 18446744073709551615 := by omega
  have Hp := Lib.hid hpd
  have Hmn := Lib.hid hmnd
  have Hmx := Lib.hid hmxd
  have Hod := Lib.hid hodd'
  have Hs := Lib.hid hs
  have hl : -100000 ≤ l2P p ∧ l2P p ≤ 100000 := by unfold l2P; omega
  clear hpd hmnd hmxd hodd' hs
  go_enter Tryz.func230, Tryz.ntmps230
  go_wp2_with fail
  refine (log10Pow2_any (-1074) (by omega) (by omega) _).mono ?_
  rintro e' w' ⟨rfl, rfl⟩
  rw [← Hp.out]
  go_wp2_with fail
  rw [← Hmn.out, ← Hmx.out, ← Hod.out]
  clear Hmn Hmx Hod
  refine (log2Pow10_any p (by omega) (by omega) _).mono ?_
  rintro e' w' ⟨rfl, rfl⟩
  go_wp2_with fail
  refine (prescale_own _ e p (l2P p) hi lo s ⟨by omega, by omega⟩ hp hl Hs.out _ (.int .u64 0) (.int .u64 0) (.int .i64 0) _ (by omega) (heap_alloc_new _ _) (by rw [World.cell?_alloc_lt _ _ _ (by simpa using hsz)]; exact h1) (by rw [World.cell?_alloc_lt _ _ _ (by simpa using hsz)]; exact h2)).mono ?_
  rintro e' W ⟨rfl, k0, k1, k2, bW⟩
  have BW : Below w.heap.size w W := ((Below.refl _ w).alloc (Nat.le_refl _) _).trans bW
  clear bW h1 h2
  go_wp2_with fail
  refine (uscale_any _ mn hi lo s hmn hhi hlo hs1 _ k0 k1 k2).mono ?_
  rintro e' w' ⟨rfl, n1, rfl⟩
  have U1 := uscale_u mn hi lo s
  obtain ⟨a1, ha1⟩ : ∃ a, uscaleP mn hi lo s = a := ⟨_, rfl⟩
  rw [ha1] at U1 ⊢
  have HA1 := Lib.hid ha1
  clear ha1
  go_wp2_with fail
  refine (nudge_any a1 odd U1.1 U1.2 _).mono ?_
  rintro e' w' ⟨rfl, rfl⟩
  have U2 := nudge_u a1 odd
  obtain ⟨a2, ha2⟩ : ∃ a, nudgeU a1 odd = a := ⟨_, rfl⟩
  rw [ha2] at U2 ⊢
  have HA2 := Lib.hid ha2
  clear ha2
  go_wp2_with fail
  refine (ceil_any a2 U2.1 U2.2 _).mono ?_
  rintro e' w' ⟨rfl, rfl⟩
  have U3 := ceil_u a2
  obtain ⟨a3, ha3⟩ : ∃ a, ceilU a2 = a := ⟨_, rfl⟩
  rw [ha3] at U3 ⊢
  have HA3 := Lib.hid ha3
  clear ha3
  go_wp2_with fail
  refine (uscale_any _ mx hi lo s hmx hhi hlo hs1 (W.drewN n1) k0 k1 k2).mono ?_
  rintro e' w' ⟨rfl, n2, rfl⟩
  have U4 := uscale_u mx hi lo s
  obtain ⟨a4, ha4⟩ : ∃ a, uscaleP mx hi lo s = a := ⟨_, rfl⟩
  rw [ha4] at U4 ⊢
  have HA4 := Lib.hid ha4
  clear ha4
  go_wp2_with fail
  refine (nudge_any a4 (-odd) U4.1 U4.2 _).mono ?_
  rintro e' w' ⟨rfl, rfl⟩
  have U5 := nudge_u a4 (-odd)
  have U6 := floor_u a4 (-odd)
  obtain ⟨a5, ha5⟩ : ∃ a, nudgeU a4 (-odd) = a := ⟨_, rfl⟩
  rw [ha5] at U5 U6 ⊢
  have HA5 := Lib.hid ha5
  clear ha5
  go_wp2_with fail
  refine (floor_any a5 U5.1 U5.2 _).mono ?_
  rintro e' w' ⟨rfl, rfl⟩
  obtain ⟨a6, ha6⟩ : ∃ a, floorU a5 = a := ⟨_, rfl⟩
  rw [ha6] at U6 ⊢
  have HA6 := Lib.hid ha6
  clear ha6
  have hsp : shortP m p mn mx odd hi lo s = (if a3 ≤ IntKind.u64.wrap (a6 / 10 * 10) then (a6 / 10, -(p - 1)) else if a3 < a6 then (roundU (uscaleP m hi lo s), -p) else (a3, -p)) := by
    unfold shortP
    rw [HA1.out, HA2.out, HA3.out, HA4.out, HA5.out, HA6.out]
  have Hsp := Lib.hid hsp
  clear hsp
  have hw : IntKind.u64.wrap (a6 / 10 * 10) = a6 / 10 * 10 := IntWalk.u64_in _ (by omega)
  have Hw := Lib.hid hw
  clear hw
  rcases (by omega : a6 / 10 * 10 < a3 ∨ a3 ≤ a6 / 10 * 10) with c1 | c1
  · have d1 : decide (a3 ≤ a6 / 10 * 10) = false := decide_eq_false (by omega)
    have C1 := Lib.hid c1
    clear c1 HA1 HA2 HA3 HA4 HA5 HA6 U1 U2 U4 U5
    rcases (by omega : a3 < a6 ∨ a6 ≤ a3) with c2 | c2
    · go_wp2_with fail
      refine (uscale_any _ m hi lo s hm1 hhi hlo hs1 (W.drewN (n1 + n2)) k0 k1 k2).mono ?_
      rintro e' w' ⟨rfl, n3, rfl⟩
      have U7 := uscale_u m hi lo s
      go_wp2_with fail
      refine (round_any _ U7.1 U7.2 _).mono ?_
      rintro e' w' ⟨rfl, rfl⟩
      go_wp2_with fail
      go_ret2
      refine ⟨?_, below_drewN BW _⟩
      have := C1.out
      rw [Hsp.out, Hw.out, if_neg (by omega), if_pos c2]
      rfl
    · have d2 : decide (a3 < a6) = false := decide_eq_false (by omega)
      have C2 := Lib.hid c2
      clear c2
      go_wp2_with fail
      go_ret2
      refine ⟨?_, below_drewN BW _⟩
      have := C2.out
      have := C1.out
      rw [Hsp.out, Hw.out, if_neg (by omega), if_neg (by omega)]
      rfl
  · go_wp2_with fail
    go_ret2
    refine ⟨?_, below_drewN BW _⟩
    rw [Hsp.out, Hw.out, if_pos (by omega)]
    rfl

set_option maxRecDepth 100000 in
set_option maxHeartbeats 400000 in
theorem short_four (m : Nat) (e : Int) (p : Int) (hi lo s : Nat) (mn mx : Nat) (odd : Int) (hb : ((m : Int) == 9223372036854775808) = true) (hez : decide (-1085 < e) = false) (he : decide (-1085 ≤ e) = false) (z : Int) (hz : -1085 - e = z) (hz2 : e + (11 + z) = -1074) (hz0 : 1 ≤ z) (hz1 : z ≤ 52) (hpd : -p = l10P (-1074)) (hmnd : (mn : Int) = IntKind.u64.wrap ((m : Int) - IntKind.u64.wrap (2 ^ ((11 + z).toNat - 1)))) (hmxd : (mx : Int) = IntKind.u64.wrap ((m : Int) + IntKind.u64.wrap (2 ^ ((11 + z).toNat - 1)))) (hodd' : odd = bits .and .i64 (wrap64 ((m : Int) / 2 ^ (11 + z).toNat)) 1)
    (hm0 : 9223372036854775808 ≤ m) (hm1 : m < 18446744073709551616) (hmn : mn < 18446744073709551616) (hmx : mx < 18446744073709551616) (hodd : odd = 0 ∨ odd = 1) (hp : -348 ≤ p ∧ p ≤ 347) (hs : -(e + l2P p + 3) = (s : Int)) (hs1 : s ≤ 63)
    (hhi : hi < 18446744073709551616) (hlo : lo < 18446744073709551616) (w : World) (hsz : 8 < w.heap.size) (h1 : w.cell? ⟨8, (p + 348).toNat * 2, none⟩ = some (.int .u64 hi)) (h2 : w.cell? ⟨8, (p + 348).toNat * 2 + 1, none⟩ = some (.int .u64 lo)) :
    Calls Tryz.prog 230 #[.int .u64 m, .int .i64 e] w fun e' w' => e' = .returned (.tuple #[.int .u64 (shortP m p mn mx odd hi lo s).1, .int .i64 (shortP m p mn mx odd hi lo s).2]) ∧ Below w.heap.size w w' := by
  have m0 : (0 : Int) ≤ (m : Int) := by omega
  have m1 : (m : Int) ≤ 18446744073709551615 := by omega
  have Hp := Lib.hid hpd
  have Hmn := Lib.hid hmnd
  have Hmx := Lib.hid hmxd
  have Hod := Lib.hid hodd'
  have Hs := Lib.hid hs
  have hl : -100000 ≤ l2P p ∧ l2P p ≤ 100000 := by unfold l2P; omega
  clear hpd hmnd hmxd hodd' hs
  go_enter Tryz.func230, Tryz.ntmps230
  go_wp2_with fail
  refine (log10Pow2_any (-1074) (by omega) (by omega) _).mono ?_
  rintro e' w' ⟨rfl, rfl⟩
  rw [← Hp.out]
  go_wp2_with fail
  rw [← Hmn.out, ← Hmx.out, ← Hod.out]
  clear Hmn Hmx Hod
  refine (log2Pow10_any p (by omega) (by omega) _).mono ?_
  rintro e' w' ⟨rfl, rfl⟩
  go_wp2_with fail
  refine (prescale_own _ e p (l2P p) hi lo s ⟨by omega, by omega⟩ hp hl Hs.out _ (.int .u64 0) (.int .u64 0) (.int .i64 0) _ (by omega) (heap_alloc_new _ _) (by rw [World.cell?_alloc_lt _ _ _ (by simpa using hsz)]; exact h1) (by rw [World.cell?_alloc_lt _ _ _ (by simpa using hsz)]; exact h2)).mono ?_
  rintro e' W ⟨rfl, k0, k1, k2, bW⟩
  have BW : Below w.heap.size w W := ((Below.refl _ w).alloc (Nat.le_refl _) _).trans bW
  clear bW h1 h2
  go_wp2_with fail
  refine (uscale_any _ mn hi lo s hmn hhi hlo hs1 _ k0 k1 k2).mono ?_
  rintro e' w' ⟨rfl, n1, rfl⟩
  have U1 := uscale_u mn hi lo s
  obtain ⟨a1, ha1⟩ : ∃ a, uscaleP mn hi lo s = a := ⟨_, rfl⟩
  rw [ha1] at U1 ⊢
  have HA1 := Lib.hid ha1
  clear ha1
  go_wp2_with fail
  refine (nudge_any a1 odd U1.1 U1.2 _).mono ?_
  rintro e' w' ⟨rfl, rfl⟩
  have U2 := nudge_u a1 odd
  obtain ⟨a2, ha2⟩ : ∃ a, nudgeU a1 odd = a := ⟨_, rfl⟩
  rw [ha2] at U2 ⊢
  have HA2 := Lib.hid ha2
  clear ha2
  go_wp2_with fail
  refine (ceil_any a2 U2.1 U2.2 _).mono ?_
  rintro e' w' ⟨rfl, rfl⟩
  have U3 := ceil_u a2
  obtain ⟨a3, ha3⟩ : ∃ a, ceilU a2 = a := ⟨_, rfl⟩
  rw [ha3] at U3 ⊢
  have HA3 := Lib.hid ha3
  clear ha3
  go_wp2_with fail
  refine (uscale_any _ mx hi lo s hmx hhi hlo hs1 (W.drewN n1) k0 k1 k2).mono ?_
  rintro e' w' ⟨rfl, n2, rfl⟩
  have U4 := uscale_u mx hi lo s
  obtain ⟨a4, ha4⟩ : ∃ a, uscaleP mx hi lo s = a := ⟨_, rfl⟩
  rw [ha4] at U4 ⊢
  have HA4 := Lib.hid ha4
  clear ha4
  go_wp2_with fail
  refine (nudge_any a4 (-odd) U4.1 U4.2 _).mono ?_
  rintro e' w' ⟨rfl, rfl⟩
  have U5 := nudge_u a4 (-odd)
  have U6 := floor_u a4 (-odd)
  obtain ⟨a5, ha5⟩ : ∃ a, nudgeU a4 (-odd) = a := ⟨_, rfl⟩
  rw [ha5] at U5 U6 ⊢
  have HA5 := Lib.hid ha5
  clear ha5
  go_wp2_with fail
  refine (floor_any a5 U5.1 U5.2 _).mono ?_
  rintro e' w' ⟨rfl, rfl⟩
  obtain ⟨a6, ha6⟩ : ∃ a, floorU a5 = a := ⟨_, rfl⟩
  rw [ha6] at U6 ⊢
  have HA6 := Lib.hid ha6
  clear ha6
  have hsp : shortP m p mn mx odd hi lo s = (if a3 ≤ IntKind.u64.wrap (a6 / 10 * 10) then (a6 / 10, -(p - 1)) else if a3 < a6 then (roundU (uscaleP m hi lo s), -p) else (a3, -p)) := by
    unfold shortP
    rw [HA1.out, HA2.out, HA3.out, HA4.out, HA5.out, HA6.out]
  have Hsp := Lib.hid hsp
  clear hsp
  have hw : IntKind.u64.wrap (a6 / 10 * 10) = a6 / 10 * 10 := IntWalk.u64_in _ (by omega)
  have Hw := Lib.hid hw
  clear hw
  rcases (by omega : a6 / 10 * 10 < a3 ∨ a3 ≤ a6 / 10 * 10) with c1 | c1
  · have d1 : decide (a3 ≤ a6 / 10 * 10) = false := decide_eq_false (by omega)
    have C1 := Lib.hid c1
    clear c1 HA1 HA2 HA3 HA4 HA5 HA6 U1 U2 U4 U5
    rcases (by omega : a3 < a6 ∨ a6 ≤ a3) with c2 | c2
    · go_wp2_with fail
      refine (uscale_any _ m hi lo s hm1 hhi hlo hs1 (W.drewN (n1 + n2)) k0 k1 k2).mono ?_
      rintro e' w' ⟨rfl, n3, rfl⟩
      have U7 := uscale_u m hi lo s
      go_wp2_with fail
      refine (round_any _ U7.1 U7.2 _).mono ?_
      rintro e' w' ⟨rfl, rfl⟩
      go_wp2_with fail
      go_ret2
      refine ⟨?_, below_drewN BW _⟩
      have := C1.out
      rw [Hsp.out, Hw.out, if_neg (by omega), if_pos c2]
      rfl
    · have d2 : decide (a3 < a6) = false := decide_eq_false (by omega)
      have C2 := Lib.hid c2
      clear c2
      go_wp2_with fail
      go_ret2
      refine ⟨?_, below_drewN BW _⟩
      have := C2.out
      have := C1.out
      rw [Hsp.out, Hw.out, if_neg (by omega), if_neg (by omega)]
      rfl
  · go_wp2_with fail
    go_ret2
    refine ⟨?_, below_drewN BW _⟩
    rw [Hsp.out, Hw.out, if_pos (by omega)]
    rfl
end Go.Proofs.YtamgdmmijlbjjaaGreatDoor

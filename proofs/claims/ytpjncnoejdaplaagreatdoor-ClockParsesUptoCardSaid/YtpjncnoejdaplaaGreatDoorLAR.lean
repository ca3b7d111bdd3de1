/- The time that a text tells, in plain words. -/
import Derived.Test.YtpjncnoejdaplaaGreatDoorLAQ
import Derived.Deep.QuietTactic
import Derived.BigQuiet
namespace Go.Proofs.YtpjncnoejdaplaaGreatDoor
open Go Go.RowKit Go.Shelf

def loP (p : Nat) : Int := if p = 4 then 1 else if p = 5 then 1 else if p = 6 then 1 else if p = 8 then 1 else if p = 9 then 1 else if p = 12 then -377705116800 else 0
def hiP (p : Nat) : Int := if p = 0 then 9999 else if p = 1 then 9999 else if p = 2 then 99 else if p = 3 then 99 else if p = 4 then 12 else if p = 5 then 31 else if p = 6 then 366 else if p = 7 then 23 else if p = 8 then 12 else if p = 9 then 2 else if p = 10 then 59 else if p = 11 then 60 else 253402300799
/-- What was told is in its ranges. -/
def Inv (st : St) : Prop := 0 ≤ st.turns ∧ ∀ p, p < 13 → (st.t p = 0 ∧ st.n p = 0) ∨ (0 < st.t p ∧ st.t p ≤ st.turns ∧ loP p ≤ st.n p ∧ st.n p ≤ hiP p)
theorem inv_st0 (s : List UInt8) : Inv (st0 s) := ⟨Int.le_refl _, fun _ _ => .inl ⟨rfl, rfl⟩⟩
theorem Inv.left {st : St} (h : Inv st) (l : List UInt8) : Inv (leftS st l) := h
theorem Inv.tell {st : St} (h : Inv st) (p : Nat) (v : Int) (h1 : loP p ≤ v) (h2 : v ≤ hiP p) : Inv (tellS st p v) := by
  refine ⟨by show 0 ≤ st.turns + 1; have := h.1; omega, fun q hq => ?_⟩
  have h0 := h.1
  by_cases e : q = p
  · subst e
    right
    show 0 < updI st.t q _ q ∧ updI st.t q _ q ≤ st.turns + 1 ∧ loP q ≤ updI st.n q v q ∧ updI st.n q v q ≤ hiP q
    unfold updI
    rw [if_pos rfl, if_pos rfl]
    exact ⟨by omega, by omega, h1, h2⟩
  · show (updI st.t p _ q = 0 ∧ updI st.n p v q = 0) ∨ (0 < updI st.t p _ q ∧ updI st.t p _ q ≤ st.turns + 1 ∧ loP q ≤ updI st.n p v q ∧ updI st.n p v q ≤ hiP q)
    unfold updI
    rw [if_neg e, if_neg e]
    rcases h.2 q hq with h3 | h3
    · exact .inl h3
    · exact .inr ⟨h3.1, by omega, h3.2.2⟩
def InvOK (f : St → Option St) : Prop := ∀ st s, Inv st → f st = some s → Inv s
def rpIn : RP → Bool
  | .num _ a b p => decide (loP p ≤ a) && decide (b ≤ hiP p)
  | .name ns _ p => decide (loP p ≤ 1) && decide ((ns.length : Int) ≤ hiP p)
  | _ => true
theorem plainR_128i : ∀ c : Fin 128, (plainR c.val).all rpIn = true := by decide
theorem plainR_in (c : Nat) (p : RP) (h : plainR c = some p) : rpIn p = true := by
  rcases Nat.lt_or_ge c 128 with hc | hc
  · have h1 := plainR_128i ⟨c, hc⟩
    simp only [h, Option.all_some] at h1
    exact h1
  · rw [plainR_far c hc] at h
    cases h
theorem cutName_inv {nm : List UInt8} {st s : St} (h : Inv st) (e : cutName nm st = some s) : Inv s := by
  unfold cutName at e
  split at e
  · obtain rfl := Option.some.inj e
    exact h.left _
  · cases e
theorem cutS_inv {p : List UInt8} {st s : St} (h : Inv st) (e : cutS p st = some s) : Inv s := by
  rw [cutS_some e]
  exact h.left _
theorem cutS_invd {p : List UInt8} {st : St} (h : Inv st) : Inv ((cutS p st).getD st) := by
  cases e : cutS p st with
  | none => exact h
  | some s => exact cutS_inv h e
theorem nameS_inv (ns : List ByteArray) (k p : Nat) (h1 : loP p ≤ 1) (h2 : (ns.length : Int) ≤ hiP p) (st : St) (hI : Inv st) : ∀ (n : Nat) (s : St), n ≤ ns.length → nameS ns k p st n = some s → Inv s
  | 0, s, _, h => by cases h
  | n + 1, s, hn, h => by
    unfold nameS at h
    simp only at h
    have hb : ((ns.length - (n + 1) : Nat) : Int) + 1 ≤ hiP p := by omega
    have ha : loP p ≤ ((ns.length - (n + 1) : Nat) : Int) + 1 := by omega
    cases e : cutName (ns.getD (ns.length - (n + 1)) ⟨#[]⟩).data.toList st with
    | some x =>
      rw [e] at h
      obtain rfl := Option.some.inj h
      exact (cutName_inv hI e).tell p _ ha hb
    | none =>
      rw [e] at h
      simp only at h
      cases e2 : cutName ((ns.getD (ns.length - (n + 1)) ⟨#[]⟩).data.toList.take k) st with
      | some x =>
        rw [e2] at h
        obtain rfl := Option.some.inj h
        exact (cutName_inv hI e2).tell p _ ha hb
      | none =>
        rw [e2] at h
        exact nameS_inv ns k p h1 h2 st hI n s (by omega) h
theorem step_inv (p : RP) (hp : rpIn p = true) : InvOK fun st => p.step st := by
  intro st s hI h
  cases p with
  | num d a b p =>
    obtain ⟨k1, k2⟩ : loP p ≤ a ∧ b ≤ hiP p := by simpa [rpIn] using hp
    unfold RP.step numberS at h
    simp only at h
    split at h
    · cases h
    · next hn =>
      obtain rfl := Option.some.inj h
      exact Inv.tell (Inv.left (Inv.left hI _) _) p _ (by omega) (by omega)
  | many l =>
    obtain rfl := Option.some.inj h
    exact hI.left _
  | percent => exact cutS_inv hI (show cutS [37] st = some s from h)
  | zone =>
    have h0 : zoneS st = some s := h
    unfold zoneS at h0
    simp only at h0
    have hS : Inv (skipS blankB st) := hI.left _
    cases e : cutS [90] (skipS blankB st) with
    | some x =>
      rw [e] at h0
      obtain rfl := Option.some.inj h0
      exact cutS_inv hS e
    | none =>
      rw [e] at h0
      simp only at h0
      cases e2 : signS (skipS blankB st) with
      | none => rw [e2] at h0; cases h0
      | some t =>
        rw [e2] at h0
        simp only at h0
        have ht : Inv t := by
          unfold signS at e2
          cases e3 : cutS [43] (skipS blankB st) with
          | some x =>
            rw [e3] at e2
            obtain rfl := Option.some.inj e2
            exact cutS_inv hS e3
          | none =>
            rw [e3] at e2
            exact cutS_inv hS e2
        split at h0
        · cases h0
        · obtain rfl := Option.some.inj h0
          exact Inv.left (cutS_invd (Inv.left ht _)) _
  | secs =>
    have h0 : secondsS st = some s := h
    unfold secondsS at h0
    simp only at h0
    generalize (if Lib.hasPrefix st.left [45] = true then (-1 : Int) else 1) * digN 12 ((cutS [45] st).getD st).left = a at h0
    split at h0
    · cases h0
    · next hn =>
      obtain rfl := Option.some.inj h0
      have hk : knownS a := by
        by_cases hk : knownS a
        · exact hk
        · exact absurd (.inr hk) hn
      obtain ⟨k1, k2⟩ := hk
      exact Inv.tell (Inv.left (cutS_invd hI) _) 12 _ (by show (-377705116800 : Int) ≤ a; omega) (by show a ≤ 253402300799; omega)
  | name ns k p =>
    obtain ⟨k1, k2⟩ : loP p ≤ 1 ∧ (ns.length : Int) ≤ hiP p := by simpa [rpIn] using hp
    exact nameS_inv ns k p k1 k2 st hI ns.length s (Nat.le_refl _) h
theorem literalS_inv {c : UInt8} {st s : St} (hI : Inv st) (h : literalS c st = some s) : Inv s := by
  unfold literalS at h
  split at h
  · obtain rfl := Option.some.inj h
    exact hI.left _
  · cases e : st.left with
    | nil => rw [e] at h; cases h
    | cons d r =>
      rw [e] at h
      simp only at h
      split at h
      · obtain rfl := Option.some.inj h
        exact hI.left _
      · cases h
theorem followT_inv (sem : Nat → Option (St → Option St)) (hs : ∀ c f, sem c = some f → InvOK f) (n : Nat) : ∀ (l : List UInt8), l.length ≤ n → ∀ st s, Inv st → followT sem l st = some s → Inv s := by
  induction n with
  | zero =>
    intro l hn st s hI h
    obtain rfl := List.length_eq_zero_iff.1 (Nat.le_zero.1 hn)
    rw [show followT sem [] st = some st by simp [followT]] at h
    obtain rfl := Option.some.inj h
    exact hI
  | succ n ih =>
    intro l hn st s hI h
    cases l with
    | nil =>
      rw [show followT sem [] st = some st by simp [followT]] at h
      obtain rfl := Option.some.inj h
      exact hI
    | cons c r =>
      rw [List.length_cons] at hn
      by_cases hc : c = 37
      · subst hc
        cases r with
        | nil => simp [followT] at h
        | cons d r =>
          rw [followT_dir] at h
          cases e : sem d.toNat with
          | none => rw [e] at h; cases h
          | some f =>
            rw [e] at h
            simp only at h
            cases e2 : f st with
            | none => rw [e2] at h; cases h
            | some x =>
              rw [e2] at h
              rw [List.length_cons] at hn
              exact ih r (by omega) x s (hs _ _ e st x hI e2) h
      · rw [followT_lit _ _ _ _ hc] at h
        cases e2 : literalS c st with
        | none => rw [e2] at h; cases h
        | some x =>
          rw [e2] at h
          exact ih r (by omega) x s (literalS_inv hI e2) h
theorem stepP_inv (c : Nat) (f : St → Option St) (h : stepP c = some f) : InvOK f := by
  unfold stepP at h
  cases e : plainR c with
  | none => rw [e] at h; cases h
  | some p =>
    rw [e] at h
    obtain rfl := Option.some.inj h
    exact step_inv p (plainR_in c p e)
theorem stepA_inv (c : Nat) (f : St → Option St) (h : stepA c = some f) : InvOK f := by
  unfold stepA at h
  cases e : formOf c with
  | none =>
    rw [e] at h
    exact stepP_inv c f h
  | some g =>
    rw [e] at h
    obtain rfl := Option.some.inj h
    exact fun st s hI h => followT_inv stepP stepP_inv _ _ (Nat.le_refl _) st s hI h
theorem stepA_1 (c : Nat) (f : St → Option St) (h : stepA c = some f) : StepOK f := by
  unfold stepA at h
  cases e : formOf c with
  | none =>
    rw [e] at h
    exact step_ok (stepP_1 c f h)
  | some g =>
    rw [e] at h
    obtain rfl := Option.some.inj h
    exact form_ok c g e
/-- The month, the day that were told. -/
def monS (st : St) : Int := (if st.t 4 = 0 then 1 else st.n 4) - 1
def domS (st : St) : Int := if st.t 5 = 0 then 1 else st.n 5
instance (y m d : Int) : Decidable (OkD y m d) := by unfold OkD; infer_instance
/-- The day's number. -/
def dayS (st : St) : Option Int :=
  if OkD (yearS st) (monS st) (domS st) then
    (if 0 < st.t 4 ∨ 0 < st.t 5 ∨ st.t 6 = 0 then some (numI (yearS st) (monS st) (domS st))
    else if st.n 6 ≤ yearI (yearS st) then some (numI (yearS st) (monS st) (domS st) + st.n 6 - 1) else none)
  else none
/-- The seconds. -/
def timeS (st : St) : Option Int :=
  if 0 < st.t 12 then some (st.n 12) else match dayS st with
    | none => none
    | some k => if knownS (k * 86400 + hourS st * 3600 + st.n 10 * 60 + st.n 11) then some (k * 86400 + hourS st * 3600 + st.n 10 * 60 + st.n 11) else none
def parseS (s f : List UInt8) : Option Int := match followT stepA f (st0 s) with
  | none => none
  | some st => if (skipS blankB st).left = [] then timeS (skipS blankB st) else none
theorem Inv.at {st : St} (h : Inv st) (p : Nat) (hp : p < 13) (a b : Int) (ea : loP p = a) (eb : hiP p = b) : (st.t p = 0 ∧ st.n p = 0) ∨ (0 < st.t p ∧ st.t p ≤ st.turns ∧ a ≤ st.n p ∧ st.n p ≤ b) := ea ▸ eb ▸ h.2 p hp
theorem yearS_bd {st : St} (h : Inv st) : 0 ≤ yearS st ∧ yearS st ≤ 9999 := by
  have h1 := h.at 1 (by omega) 0 9999 (by decide) (by decide)
  have h2 := h.at 2 (by omega) 0 99 (by decide) (by decide)
  have h3 := h.at 3 (by omega) 0 99 (by decide) (by decide)
  unfold yearS
  repeat' split
  all_goals omega
theorem hourS_bd {st : St} (h : Inv st) : 0 ≤ hourS st ∧ hourS st ≤ 23 := by
  have h1 := h.at 7 (by omega) 0 23 (by decide) (by decide)
  have h2 := h.at 8 (by omega) 1 12 (by decide) (by decide)
  have h3 := h.at 9 (by omega) 1 2 (by decide) (by decide)
  unfold hourS
  repeat' split
  all_goals omega
end Go.Proofs.YtpjncnoejdaplaaGreatDoor
namespace Go.Proofs.YtpjncnoejdaplaaGreatDoor
open Go Go.RowKit Go.Shelf

theorem cell_step {w1 w2 : World} {a : Addr} {v : Value} (hb : Below w1.heap.size w1 w2) (h : w1.cell? a = some v) : w2.cell? a = some v := (hb.cell (cell_lt h)).trans h
theorem rd_cell {w : World} {rb : Nat} {st : St} (h : RdAt w rb st) (i : Nat) (v : Value) (e : (rdCells st)[i]? = some v) : w.cell? ⟨rb, i, none⟩ = some v := by
  unfold World.cell?
  rw [show w.heap[rb]? = _ from h]
  exact e
set_option maxRecDepth 100000 in
theorem or_any (n t d : Int) (w : World) : Calls Tryz.prog 169 #[.agg #[.int .i64 n, .int .i64 t], .int .i64 d] w fun e w' => e = .returned (.int .i64 (if t = 0 then d else n)) ∧ Below w.heap.size w w' := by
  have HA := Lib.hid ((Below.refl w.heap.size w).alloc (Nat.le_refl _) (Obj.cells #[.int .i64 n, .int .i64 t] 125))
  by_cases h : t = 0
  · subst h
    go_enter Tryz.func169, Tryz.ntmps169
    go_wp2_with fail
    go_ret
    exact ⟨rfl, HA.out⟩
  · have h2 : (t == 0) = false := by rw [beq_eq_false_iff_ne]; exact h
    rw [if_neg h]
    clear h
    go_enter Tryz.func169, Tryz.ntmps169
    go_wp2_with fail
    go_ret
    exact ⟨rfl, HA.out⟩
set_option maxRecDepth 100000 in
theorem hour_any (rb : Nat) (st : St) (hI : Inv st) (w : World) (h : RdAt w rb st) : Calls Tryz.prog 146 #[.pointer (some ⟨rb, 1, none⟩)] w fun e w' => e = .returned (.int .i64 (hourS st)) ∧ Below w.heap.size w w' := by
  have c1 := rd_cell h 15 (.int .i64 (st.n 7)) rfl
  have c2 := rd_cell h 16 (.int .i64 (st.t 7)) rfl
  have c3 := rd_cell h 17 (.int .i64 (st.n 8)) rfl
  have c4 := rd_cell h 18 (.int .i64 (st.t 8)) rfl
  have c5 := rd_cell h 19 (.int .i64 (st.n 9)) rfl
  have b8 := hI.at 8 (by omega) 1 12 (by decide) (by decide)
  have hb : 0 ≤ st.n 8 ∧ st.n 8 ≤ 12 := by omega
  obtain ⟨b1, b2⟩ := hb
  clear b8 h
  unfold hourS
  by_cases h1 : st.t 8 ≤ st.t 7
  · rw [if_pos h1]
    go_enter Tryz.func146, Tryz.ntmps146
    go_wp2_with fail
    go_quiet (fail)
    go_wp2_with fail
    go_ret
    exact ⟨rfl, below_drewN (Below.refl _ _) _⟩
  · rw [if_neg h1]
    have h2 : ¬ st.t 7 ≥ st.t 8 := by omega
    by_cases h3 : st.n 9 = 2
    · rw [if_pos h3]
      rw [h3] at c5
      clear h3
      go_enter Tryz.func146, Tryz.ntmps146
      go_wp2_with fail
      go_quiet (fail)
      go_wp2_with fail
      go_ret
      exact ⟨rfl, below_drewN (Below.refl _ _) _⟩
    · rw [if_neg h3, Int.add_zero]
      have h4 : (st.n 9 == 2) = false := by rw [beq_eq_false_iff_ne]; exact h3
      clear h3
      go_enter Tryz.func146, Tryz.ntmps146
      go_wp2_with fail
      go_quiet (fail)
      go_wp2_with fail
      go_ret
      exact ⟨rfl, below_drewN (Below.refl _ _) _⟩
set_option maxRecDepth 100000 in
set_option maxHeartbeats 1000000 in
theorem year_any (rb : Nat) (st : St) (hI : Inv st) (w : World) (h : RdAt w rb st) : Calls Tryz.prog 168 #[.pointer (some ⟨rb, 1, none⟩)] w fun e w' => e = .returned (.int .i64 (yearS st)) ∧ Below w.heap.size w w' := by
  have c1 := rd_cell h 3 (.int .i64 (st.n 1)) rfl
  have c2 := rd_cell h 4 (.int .i64 (st.t 1)) rfl
  have c3 := rd_cell h 5 (.int .i64 (st.n 2)) rfl
  have c4 := rd_cell h 6 (.int .i64 (st.t 2)) rfl
  have c5 := rd_cell h 7 (.int .i64 (st.n 3)) rfl
  have c6 := rd_cell h 8 (.int .i64 (st.t 3)) rfl
  have b1 := hI.at 1 (by omega) 0 9999 (by decide) (by decide)
  have b2 := hI.at 2 (by omega) 0 99 (by decide) (by decide)
  have b3 := hI.at 3 (by omega) 0 99 (by decide) (by decide)
  have q2 : 0 ≤ st.n 2 ∧ st.n 2 ≤ 99 := by omega
  have q3 : 0 ≤ st.n 3 ∧ st.n 3 ≤ 99 := by omega
  have q4 : 0 ≤ st.t 2 ∧ 0 ≤ st.t 3 := by omega
  obtain ⟨r1, r2⟩ := q2
  obtain ⟨r3, r4⟩ := q3
  clear b1 b2 b3 h hI
  unfold yearS
  by_cases h1 : st.t 1 > max (st.t 2) (st.t 3)
  · rw [if_pos h1]
    go_enter Tryz.func168, Tryz.ntmps168
    go_wp2_with fail
    go_quiet (fail)
    go_wp2_with fail
    go_ret
    exact ⟨rfl, below_drewN (Below.refl _ _) _⟩
  · rw [if_neg h1]
    by_cases h2 : st.t 3 > 0
    · by_cases h3 : st.n 3 < 69
      · rw [show (if st.t 3 > 0 ∧ st.n 3 < 69 then (20 : Int) else 19) = 20 from if_pos ⟨h2, h3⟩]
        obtain ⟨u, hu⟩ : ∃ u : Int, (if st.t 2 = 0 then (20 : Int) else st.n 2) = u := ⟨_, rfl⟩
        have hub : 0 ≤ u ∧ u ≤ 99 := by rw [← hu]; split <;> omega
        obtain ⟨u1, u2⟩ := hub
        have hw1 : IntKind.i64.wrap (u * 100) = u * 100 := IntWalk.i64_in _ (by omega)
        have hw2 : IntKind.i64.wrap (u * 100 + st.n 3) = u * 100 + st.n 3 := IntWalk.i64_in _ (by omega)
        have HO := Lib.hid (or_any (st.n 2) (st.t 2) 20)
        rw [hu] at HO ⊢
        clear hu
        go_enter Tryz.func168, Tryz.ntmps168
        go_wp2_with fail
        go_quiet (fail)
        go_wp2_with fail
        go_region_law ((go_simp; go_at_call 169; refine (HO.out _).mono ?_; rintro e w1 ⟨rfl, hb⟩; have c9 := cell_step (a := ⟨rb, 7, none⟩) (v := .int .i64 (st.n 3)) hb (by simpa using c5); have HB : Hid (Below w.heap.size w w1) := Lib.hid (by first | exact hb | exact (below_drewN (Below.refl _ _) _).trans (hb.mono (by simp)) | exact (below_drewN (Below.refl _ _) _).drew.trans (hb.mono (by simp))); clear hb))
        all_goals (try go_wp2_with fail)
        all_goals exact bodyPost_ret (v := .int .i64 (u * 100 + st.n 3)) (by simp [results, Tryz.results168, go_sem]) rfl ⟨rfl, by first | exact HB.out | exact HB.out.drew | exact below_drewN HB.out _⟩
      · rw [show (if st.t 3 > 0 ∧ st.n 3 < 69 then (20 : Int) else 19) = 19 from if_neg (fun h => h3 h.2)]
        have h4 : decide (st.n 3 < 69) = false := by simpa using h3
        obtain ⟨u, hu⟩ : ∃ u : Int, (if st.t 2 = 0 then (19 : Int) else st.n 2) = u := ⟨_, rfl⟩
        have hub : 0 ≤ u ∧ u ≤ 99 := by rw [← hu]; split <;> omega
        obtain ⟨u1, u2⟩ := hub
        have hw1 : IntKind.i64.wrap (u * 100) = u * 100 := IntWalk.i64_in _ (by omega)
        have hw2 : IntKind.i64.wrap (u * 100 + st.n 3) = u * 100 + st.n 3 := IntWalk.i64_in _ (by omega)
        have HO := Lib.hid (or_any (st.n 2) (st.t 2) 19)
        rw [hu] at HO ⊢
        clear hu
        go_enter Tryz.func168, Tryz.ntmps168
        go_wp2_with fail
        go_quiet (fail)
        go_wp2_with fail
        go_region_law ((go_simp; go_at_call 169; refine (HO.out _).mono ?_; rintro e w1 ⟨rfl, hb⟩; have c9 := cell_step (a := ⟨rb, 7, none⟩) (v := .int .i64 (st.n 3)) hb (by simpa using c5); have HB : Hid (Below w.heap.size w w1) := Lib.hid (by first | exact hb | exact (below_drewN (Below.refl _ _) _).trans (hb.mono (by simp)) | exact (below_drewN (Below.refl _ _) _).drew.trans (hb.mono (by simp))); clear hb))
        all_goals (try go_wp2_with fail)
        all_goals exact bodyPost_ret (v := .int .i64 (u * 100 + st.n 3)) (by simp [results, Tryz.results168, go_sem]) rfl ⟨rfl, by first | exact HB.out | exact HB.out.drew | exact below_drewN HB.out _⟩
    · rw [show (if st.t 3 > 0 ∧ st.n 3 < 69 then (20 : Int) else 19) = 19 from if_neg (fun h => h2 h.1)]
      have h4 : decide (st.t 3 > 0) = false := by simpa using h2
      obtain ⟨u, hu⟩ : ∃ u : Int, (if st.t 2 = 0 then (19 : Int) else st.n 2) = u := ⟨_, rfl⟩
      have hub : 0 ≤ u ∧ u ≤ 99 := by rw [← hu]; split <;> omega
      obtain ⟨u1, u2⟩ := hub
      have hw1 : IntKind.i64.wrap (u * 100) = u * 100 := IntWalk.i64_in _ (by omega)
      have hw2 : IntKind.i64.wrap (u * 100 + st.n 3) = u * 100 + st.n 3 := IntWalk.i64_in _ (by omega)
      have HO := Lib.hid (or_any (st.n 2) (st.t 2) 19)
      rw [hu] at HO ⊢
      clear hu
      go_enter Tryz.func168, Tryz.ntmps168
      go_wp2_with fail
      go_quiet (fail)
      go_wp2_with fail
      go_region_law ((go_simp; go_at_call 169; refine (HO.out _).mono ?_; rintro e w1 ⟨rfl, hb⟩; have c9 := cell_step (a := ⟨rb, 7, none⟩) (v := .int .i64 (st.n 3)) hb (by simpa using c5); have HB : Hid (Below w.heap.size w w1) := Lib.hid (by first | exact hb | exact (below_drewN (Below.refl _ _) _).trans (hb.mono (by simp)) | exact (below_drewN (Below.refl _ _) _).drew.trans (hb.mono (by simp))); clear hb))
      all_goals (try go_wp2_with fail)
      all_goals exact bodyPost_ret (v := .int .i64 (u * 100 + st.n 3)) (by simp [results, Tryz.results168, go_sem]) rfl ⟨rfl, by first | exact HB.out | exact HB.out.drew | exact below_drewN HB.out _⟩
end Go.Proofs.YtpjncnoejdaplaaGreatDoor
namespace Go.Proofs.YtpjncnoejdaplaaGreatDoor
open Go Go.RowKit Go.Shelf

/-- A whole number of seconds, broken down. -/
def tmI (y m d a : Int) : Array Value := timeV y m d (a % 86400 / 3600) (a % 86400 / 60 % 60) (fI (a % 86400 % 60)) ((numI y m d + 4) % 7) (numI y m d - beginI y 0)
theorem split_at (a : Int) (hk : knownS a) (y m d : Int) (hD : OkD y m d) (hN : numI y m d = a / 86400) (w : World) :
    Calls Tryz.prog 15 #[.float .f64 (fI a)] w fun e w' => e = .returned (.tuple #[.agg (tmI y m d a), .int .i64 0]) ∧ Below w.heap.size w w' := by
  obtain ⟨k1, k2⟩ := hk
  have hz := (fI_is a (by omega) (by omega)).1
  have hf := flI_fI a (by omega) (by omega)
  have e := Split_of (fI a) hz y m d (a % 86400) hD (by rw [hf]; exact hN.symm) (by rw [hf]) w
  rw [sec_fI a (a % 86400 % 60) (by omega) (by omega) (by omega) (by omega)] at e
  exact e
theorem fitS_fI60 (k : Int) (h1 : 0 ≤ k) (h2 : k ≤ 60) : fitS (fI k) := by
  constructor
  · left
    rw [← c9_low, fI_order k _ (by omega) (by omega) (by omega) (by omega), Int.compare_eq_gt.2 (by omega)]
  · left
    rw [← c9_high, fI_order k _ (by omega) (by omega) (by omega) (by omega), Int.compare_eq_lt.2 (by omega)]
theorem join_at (y m d h i n : Int) (hD : OkD y m d) (h1 : 0 ≤ h ∧ h ≤ 23) (h2 : 0 ≤ i ∧ i ≤ 59) (h3 : 0 ≤ n ∧ n ≤ 60) (a : Int) (ha : numI y m d * 86400 + h * 3600 + i * 60 + n = a) (w : World) :
    Calls Tryz.prog 53 #[.agg (timeV y m d h i (fI n) 0 0)] w fun e w' => e = .returned (.tuple #[.int .i64 (if knownS a then a else 0), .int .i64 (if knownS a then 0 else 110)]) ∧ Below w.heap.size w w' := by
  have hr := num_range y m d hD
  have hl := lenI_bd y m hD.2.1.1 hD.2.1.2
  have hfl := flI_fI n (by omega) (by omega)
  obtain ⟨⟨a1, a2⟩, ⟨b1, b2⟩, c1, c2⟩ := hD
  have e1 : m / 12 = 0 := by omega
  have e2 : m % 12 = m := by omega
  have e3 : secI (y + m / 12) (m % 12) d h i (fI n) = a := by
    rw [e1, e2, ← ha]
    unfold secI numI
    rw [Int.add_zero, hfl]
  have hF : Fits y m d h i (fI n) := ⟨fits_in _ (by omega) (by omega), fits_in _ (by omega) (by omega), fits_in _ (by omega) (by omega), fits_in _ (by omega) (by omega), fits_in _ (by omega) (by omega), fitS_fI60 n h3.1 h3.2⟩
  have hkn : knownB (y + m / 12) = true := by rw [e1]; exact knownB_true _ (by omega)
  by_cases hk : knownS a
  · rw [if_pos hk, if_pos hk]
    have e := Join_of y m d h i (fI n) 0 0 hF hkn (by rw [e3]; exact hk.1) (by rw [e3]; exact hk.2) w
    rw [e3] at e
    exact e
  · rw [if_neg hk, if_neg hk]
    exact Join_out y m d h i (fI n) 0 0 hF hkn (by rw [e3]; unfold knownS at hk; omega) w
theorem errW_in {w X : World} {eb : Addr} (h : ErrW w eb) (hb : Below w.heap.size w X) : X.cell? ⟨0, 0, none⟩ = some (.iface 214 (.pointer (some eb))) := h.below hb
theorem errW_ne {w : World} {eb : Addr} (h : ErrW w eb) : (0 = w.heap.size) = False := by
  have : 0 < w.heap.size := cell_lt h
  apply eq_false
  omega
theorem errW_ne2 {w : World} {eb : Addr} (h : ErrW w eb) : (w.heap.size = 0) = False := by
  have : 0 < w.heap.size := cell_lt h
  apply eq_false
  omega
theorem errW_ne3 {w : World} {eb : Addr} (h : ErrW w eb) : (w.heap = #[]) = False := by
  have : 0 < w.heap.size := cell_lt h
  apply eq_false
  intro e
  rw [e] at this
  simp at this
def zeroT : Array Value := #[.int .i64 0, .int .i64 0, .int .i64 0, .int .i64 0, .int .i64 0, .float .f64 0, .int .i64 0, .int .i64 0]
/-- Behind the facts: a date of its own, the result's cells. -/
def DateAt (w wx : World) (rb q : Nat) (st : St) (Y M D : Int) : Prop :=
  wx.heap[w.heap.size]? = some (.cells zeroT 24 (0, 0)) ∧ wx.heap[q]? = some (.cells (timeV Y M D 0 0 0 0 0) 24 (0, 0)) ∧ RdAt wx rb st ∧ Below w.heap.size w wx ∧ w.heap.size < q
theorem DateAt.lt {w X : World} {rb q : Nat} {st : St} {Y M D : Int} (h : DateAt w X rb q st Y M D) : w.heap.size < q := h.2.2.2.2
theorem DateAt.res {w X : World} {rb q : Nat} {st : St} {Y M D : Int} (h : DateAt w X rb q st Y M D) : X.heap[w.heap.size]? = some (.cells #[.int .i64 0, .int .i64 0, .int .i64 0, .int .i64 0, .int .i64 0, .float .f64 0, .int .i64 0, .int .i64 0] 24 (0, 0)) := h.1
theorem DateAt.own {w X : World} {rb q : Nat} {st : St} {Y M D : Int} (h : DateAt w X rb q st Y M D) : X.heap[q]? = some (.cells #[.int .i64 Y, .int .i64 M, .int .i64 D, .int .i64 0, .int .i64 0, .float .f64 0, .int .i64 0, .int .i64 0] 24 (0, 0)) := h.2.1
theorem DateAt.rd {w X : World} {rb q : Nat} {st : St} {Y M D : Int} (h : DateAt w X rb q st Y M D) : RdAt X rb st := h.2.2.1
theorem DateAt.is {w X : World} {rb q : Nat} {st : St} {Y M D : Int} (h : DateAt w X rb q st Y M D) : Below w.heap.size w X := h.2.2.2.1
theorem DateAt.below {w X X' : World} {rb q : Nat} {st : St} {Y M D : Int} (h : DateAt w X rb q st Y M D) (hb : Below X.heap.size X X') : DateAt w X' rb q st Y M D :=
  ⟨(hb.block _ (Array.getElem?_eq_some_iff.1 h.1).1).trans h.1, (hb.block _ (Array.getElem?_eq_some_iff.1 h.2.1).1).trans h.2.1, h.2.2.1.below hb, h.2.2.2.1.trans (hb.mono h.2.2.2.1.size), h.2.2.2.2⟩
/-- Ahead of it. -/
def DtI (w : World) (rb : Nat) (st : St) (X : World) : Prop := X.heap[w.heap.size]? = some (.cells zeroT 24 (0, 0)) ∧ RdAt X rb st ∧ Below w.heap.size w X ∧ rb < w.heap.size
theorem DtI.below {w X X' : World} {rb : Nat} {st : St} (h : DtI w rb st X) (hb : Below X.heap.size X X') : DtI w rb st X' :=
  ⟨(hb.block _ (Array.getElem?_eq_some_iff.1 h.1).1).trans h.1, h.2.1.below hb, h.2.2.1.trans (hb.mono h.2.2.1.size), h.2.2.2⟩
theorem DtI.rd {w X : World} {rb : Nat} {st : St} (h : DtI w rb st X) : RdAt X rb st := h.2.1
theorem DtI.cells {w X : World} {rb : Nat} {st : St} (h : DtI w rb st X) : X.cell? ⟨rb, 9, none⟩ = some (.int .i64 (st.n 4)) ∧ X.cell? ⟨rb, 10, none⟩ = some (.int .i64 (st.t 4)) ∧ X.cell? ⟨rb, 11, none⟩ = some (.int .i64 (st.n 5)) ∧ X.cell? ⟨rb, 12, none⟩ = some (.int .i64 (st.t 5)) :=
  ⟨rd_cell h.2.1 9 _ rfl, rd_cell h.2.1 10 _ rfl, rd_cell h.2.1 11 _ rfl, rd_cell h.2.1 12 _ rfl⟩
theorem DtI.one {w X : World} {rb : Nat} {st : St} (h : DtI w rb st X) (o : Obj) : DtI w rb st (X.alloc o) := h.below ((Below.refl _ X).alloc (Nat.le_refl _) o)
theorem DtI.drew {w X : World} {rb : Nat} {st : St} (h : DtI w rb st X) : DtI w rb st X.drew := h.below ((Below.refl _ X).drew)
theorem DtI.dateAt {w X : World} {rb : Nat} {st : St} (h : DtI w rb st X) (Y M D : Int) : DateAt w (X.alloc (.cells (timeV Y M D 0 0 0 0 0) 24)) rb X.heap.size st Y M D :=
  ⟨(h.one _).1, heap_alloc_new X _, (h.one _).2.1, (h.one _).2.2.1, (Array.getElem?_eq_some_iff.1 h.1).1⟩
/-- A row of its own, ahead of what it is filled with. -/
def QAt (w : World) (q : Nat) (X : World) : Prop := X.heap[q]? = some (.cells zeroT 24 (0, 0)) ∧ w.heap.size < q
theorem QAt.below {w X X' : World} {q : Nat} (h : QAt w q X) (hb : Below X.heap.size X X') : QAt w q X' := ⟨(hb.block _ (Array.getElem?_eq_some_iff.1 h.1).1).trans h.1, h.2⟩
theorem QAt.new {w X X' : World} {rb : Nat} {st : St} (h : DtI w rb st X) (hb : Below (X.alloc (.cells #[.int .i64 0, .int .i64 0, .int .i64 0, .int .i64 0, .int .i64 0, .float .f64 0, .int .i64 0, .int .i64 0] 24)).heap.size (X.alloc (.cells #[.int .i64 0, .int .i64 0, .int .i64 0, .int .i64 0, .int .i64 0, .float .f64 0, .int .i64 0, .int .i64 0] 24)) X') : QAt w X.heap.size X' :=
  QAt.below ⟨heap_alloc_new X _, (Array.getElem?_eq_some_iff.1 h.1).1⟩ hb
theorem QAt.newD {w X X' : World} {rb : Nat} {st : St} (h : DtI w rb st X) (hb : Below (X.alloc (.cells #[.int .i64 0, .int .i64 0, .int .i64 0, .int .i64 0, .int .i64 0, .float .f64 0, .int .i64 0, .int .i64 0] 24)).drew.heap.size (X.alloc (.cells #[.int .i64 0, .int .i64 0, .int .i64 0, .int .i64 0, .int .i64 0, .float .f64 0, .int .i64 0, .int .i64 0] 24)).drew X') : QAt w X.heap.size X' :=
  QAt.below (X := (X.alloc (.cells #[.int .i64 0, .int .i64 0, .int .i64 0, .int .i64 0, .int .i64 0, .float .f64 0, .int .i64 0, .int .i64 0] 24)).drew) ⟨heap_alloc_new X _, (Array.getElem?_eq_some_iff.1 h.1).1⟩ hb
theorem QAt.set {w X : World} {q rb : Nat} {st : St} (hq : QAt w q X) (h : DtI w rb st X) (x0 x1 x2 x3 x4 x5 x6 x7 : Value) : DtI w rb st (set8 X q x0 x1 x2 x3 x4 x5 x6 x7) :=
  ⟨(set8_other (by have := hq.2; omega) ..).trans h.1, (set8_other (by have := hq.2; have := h.2.2.2; omega) ..).trans h.2.1, set8_below h.2.2.1 (by have := hq.2; omega) .., h.2.2.2⟩
theorem QAt.cells8 {w X : World} {q rb : Nat} {st : St} (hq : QAt w q X) (h : DtI w rb st X) (x0 x1 x2 x3 x4 x5 x6 x7 : Value) :
    ((((((((X.setCell ⟨q, 0, none⟩ x0).setCell ⟨q, 1, none⟩ x1).setCell ⟨q, 2, none⟩ x2).setCell ⟨q, 3, none⟩ x3).setCell ⟨q, 4, none⟩ x4).setCell ⟨q, 5, none⟩ x5).setCell ⟨q, 6, none⟩ x6).setCell ⟨q, 7, none⟩ x7).cell? ⟨rb, 9, none⟩ = some (.int .i64 (st.n 4)) ∧
    ((((((((X.setCell ⟨q, 0, none⟩ x0).setCell ⟨q, 1, none⟩ x1).setCell ⟨q, 2, none⟩ x2).setCell ⟨q, 3, none⟩ x3).setCell ⟨q, 4, none⟩ x4).setCell ⟨q, 5, none⟩ x5).setCell ⟨q, 6, none⟩ x6).setCell ⟨q, 7, none⟩ x7).cell? ⟨rb, 10, none⟩ = some (.int .i64 (st.t 4)) ∧
    ((((((((X.setCell ⟨q, 0, none⟩ x0).setCell ⟨q, 1, none⟩ x1).setCell ⟨q, 2, none⟩ x2).setCell ⟨q, 3, none⟩ x3).setCell ⟨q, 4, none⟩ x4).setCell ⟨q, 5, none⟩ x5).setCell ⟨q, 6, none⟩ x6).setCell ⟨q, 7, none⟩ x7).cell? ⟨rb, 11, none⟩ = some (.int .i64 (st.n 5)) ∧
    ((((((((X.setCell ⟨q, 0, none⟩ x0).setCell ⟨q, 1, none⟩ x1).setCell ⟨q, 2, none⟩ x2).setCell ⟨q, 3, none⟩ x3).setCell ⟨q, 4, none⟩ x4).setCell ⟨q, 5, none⟩ x5).setCell ⟨q, 6, none⟩ x6).setCell ⟨q, 7, none⟩ x7).cell? ⟨rb, 12, none⟩ = some (.int .i64 (st.t 5)) := (hq.set h x0 x1 x2 x3 x4 x5 x6 x7).cells
theorem QAt.dateAt {w X : World} {q rb : Nat} {st : St} (hq : QAt w q X) (h : DtI w rb st X) (Y M D : Int) : DateAt w (set8 X q (.int .i64 Y) (.int .i64 M) (.int .i64 D) (.int .i64 0) (.int .i64 0) (.float .f64 0) (.int .i64 0) (.int .i64 0)) rb q st Y M D :=
  ⟨(hq.set h ..).1, set8_row hq.1 .., (hq.set h ..).2.1, (hq.set h ..).2.2.1, hq.2⟩
theorem DtI.first {w : World} {rb : Nat} {st : St} (h : RdAt w rb st) : DtI w rb st (w.alloc (.cells zeroT 24)) :=
  ⟨heap_alloc_new w _, h.below ((Below.refl w.heap.size w).alloc (Nat.le_refl _) _), (Below.refl w.heap.size w).alloc (Nat.le_refl _) _, h.lt⟩
theorem DtI.row {w X : World} {rb : Nat} {st : St} (h : DtI w rb st X) : X.heap[w.heap.size]? = some (.cells #[.int .i64 0, .int .i64 0, .int .i64 0, .int .i64 0, .int .i64 0, .float .f64 0, .int .i64 0, .int .i64 0] 24 (0, 0)) := h.1
/-- What the program's date does. -/
def DatePost (eb : Addr) (w : World) (o : Option Int) (e : Ending) (w' : World) : Prop := (match o with
    | none => e = .returned (.tuple #[.agg (timeV 0 0 0 0 0 0 0 0), errV eb])
    | some k => ∃ y m d, OkD y m d ∧ numI y m d = k ∧ e = .returned (.tuple #[.agg (timeV y m d 0 0 0 0 0), .nilIface])) ∧ Below w.heap.size w w'
def DateC (rb : Nat) (eb : Addr) (st : St) : Prop := ∀ w : World, ErrW w eb → RdAt w rb st → Calls Tryz.prog 145 #[.pointer (some ⟨rb, 1, none⟩)] w fun e w' => DatePost eb w (dayS st) e w'
/-- What a time's reading answers. -/
def TimePost (eb : Addr) (w : World) (o : Option Int) (e : Ending) (w' : World) : Prop := (match o with
    | none => e = .returned (.tuple #[.agg (timeV 0 0 0 0 0 0 0 0), errV eb])
    | some a => knownS a ∧ ∃ y m d, OkD y m d ∧ numI y m d = a / 86400 ∧ e = .returned (.tuple #[.agg (tmI y m d a), .nilIface])) ∧ Below w.heap.size w w'
end Go.Proofs.YtpjncnoejdaplaaGreatDoor
namespace Go.Proofs.YtpjncnoejdaplaaGreatDoor
open Go Go.RowKit Go.Shelf

theorem row_eq8 {w : World} {q : Nat} {y m d h i : Int} {s : Nat} {wd yd : Int} {t : TypeId} (h1 : w.heap[q]? = some (.cells (timeV y m d h i s wd yd) t (0, 0))) : w.heap[q]? = some (.cells #[.int .i64 y, .int .i64 m, .int .i64 d, .int .i64 h, .int .i64 i, .float .f64 s, .int .i64 wd, .int .i64 yd] t (0, 0)) := h1
theorem in_year (y m d : Int) (h : OkD y m d) : beginI y 0 ≤ numI y m d ∧ numI y m d < beginI y 0 + yearI y := num_in y m d h
theorem yday_in (Y n : Int) (hY : 0 ≤ Y ∧ Y ≤ 9999) (h1 : 1 ≤ n) (h2 : n ≤ yearI Y) (hD : OkD Y 0 1) : ∃ m d, OkD Y m d ∧ numI Y m d = numI Y 0 1 + n - 1 := by
  have hb := num_range Y 0 1 hD
  have e1 : numI Y 0 1 = beginI Y 0 := by unfold numI; omega
  have hl : numI Y 0 1 + n - 1 ≤ 2932896 := by
    by_cases h : Y < 9999
    · have hs := begin_succ Y
      have h3 := num_range (Y + 1) 0 1 ⟨by omega, by omega, by omega, by have := lenI_bd (Y + 1) 0 (by omega) (by omega); omega⟩
      have e2 : numI (Y + 1) 0 1 = beginI (Y + 1) 0 := by unfold numI; omega
      omega
    · have e3 : Y = 9999 := by omega
      subst e3
      have e4 : beginI 9999 0 = 2932532 := by decide
      have e5 : yearI 9999 = 365 := by decide
      omega
  obtain ⟨y, m, d, hD2, hN⟩ := num_ex (numI Y 0 1 + n - 1) (by omega) hl
  have i1 := in_year y m d hD2
  have := iso_uniq (numI y m d) Y y (by omega) (by omega) i1.1 i1.2
  subst this
  exact ⟨m, d, hD2, hN⟩
theorem yday_out (Y n : Int) (h2 : yearI Y < n) (h3 : n ≤ 366) (hD : OkD Y 0 1) : (2932896 < numI Y 0 1 + n - 1) ∨ ∃ y m d, y ≠ Y ∧ OkD y m d ∧ numI y m d = numI Y 0 1 + n - 1 := by
  have hb := num_range Y 0 1 hD
  have e1 : numI Y 0 1 = beginI Y 0 := by unfold numI; omega
  have hy := yearI_two Y
  by_cases hl : 2932896 < numI Y 0 1 + n - 1
  · exact .inl hl
  · right
    obtain ⟨y, m, d, hD2, hN⟩ := num_ex (numI Y 0 1 + n - 1) (by omega) (by omega)
    refine ⟨y, m, d, fun e => ?_, hD2, hN⟩
    subst e
    have := in_year y m d hD2
    omega
end Go.Proofs.YtpjncnoejdaplaaGreatDoor
namespace Go.Proofs.YtpjncnoejdaplaaGreatDoor
open Go Go.RowKit Go.Shelf

set_option maxRecDepth 100000 in
set_option maxHeartbeats 2000000 in
/-- The seconds were told. -/
theorem time_secs (rb : Nat) (eb : Addr) (st : St) (hI : Inv st) (ht : 0 < st.t 12) (w : World) (h : RdAt w rb st) : Calls Tryz.prog 83 #[.pointer (some ⟨rb, 1, none⟩)] w fun e w' => TimePost eb w (timeS st) e w' := by
  have hsf := run_store_float Tryz.prog
  have hci := conv_int
  have b12 := hI.at 12 (by omega) (-377705116800) 253402300799 (by decide) (by decide)
  have hk : knownS (st.n 12) := ⟨by omega, by omega⟩
  have HT : Hid (timeS st = some (st.n 12)) := Lib.hid (by unfold timeS; rw [if_pos ht])
  have HK := Lib.hid hk
  obtain ⟨y, m, d, hD, hN⟩ := num_ex (st.n 12 / 86400) hk.1 hk.2
  have HS := Lib.hid (fun w => split_at (st.n 12) hk y m d hD hN w)
  have HD := Lib.hid hD
  have HN := Lib.hid hN
  unfold tmI at HS
  obtain ⟨x3, e3⟩ : ∃ x, st.n 12 % 86400 / 3600 = x := ⟨_, rfl⟩
  obtain ⟨x4, e4⟩ : ∃ x, st.n 12 % 86400 / 60 % 60 = x := ⟨_, rfl⟩
  obtain ⟨x5, e5⟩ : ∃ x, fI (st.n 12 % 86400 % 60) = x := ⟨_, rfl⟩
  obtain ⟨x6, e6⟩ : ∃ x, (numI y m d + 4) % 7 = x := ⟨_, rfl⟩
  obtain ⟨x7, e7⟩ : ∃ x, numI y m d - beginI y 0 = x := ⟨_, rfl⟩
  have HV : Hid (tmI y m d (st.n 12) = timeV y m d x3 x4 x5 x6 x7) := Lib.hid (by unfold tmI; rw [e3, e4, e5, e6, e7])
  rw [e3, e4, e5, e6, e7] at HS
  have HRD := Lib.hid h
  clear e3 e4 e5 e6 e7 hk hD hN b12 hI h
  unfold timeV at HS
  go_enter Tryz.func83, Tryz.ntmps83
  go_upto_region 1 with fail
  have hb0 := (Below.refl w.heap.size w).alloc (Nat.le_refl _) (Obj.cells #[.int .i64 0, .int .i64 0, .int .i64 0, .int .i64 0, .int .i64 0, .float .f64 0, .int .i64 0, .int .i64 0] 24)
  have HI0 := Lib.hid (DtI.first HRD.out)
  unfold zeroT at HI0
  generalize w.alloc (Obj.cells #[.int .i64 0, .int .i64 0, .int .i64 0, .int .i64 0, .int .i64 0, .float .f64 0, .int .i64 0, .int .i64 0] 24) = X0 at HI0 ⊢
  have hcn : X0.cell? ⟨rb, 25, none⟩ = some (.int .i64 (st.n 12)) := rd_cell HI0.out.rd 25 _ rfl
  have hct : X0.cell? ⟨rb, 26, none⟩ = some (.int .i64 (st.t 12)) := rd_cell HI0.out.rd 26 _ rfl
  go_wp2_with fail
  refine (HS.out _).mono ?_
  rintro e w1 ⟨rfl, hb⟩
  have HI1 := Lib.hid (HI0.out.below hb)
  clear hb hb0 HI0 hcn hct
  go_upto_region 3 with fail
  have hr2 := heap_alloc_new w1 (Obj.cells #[.int .i64 y, .int .i64 m, .int .i64 d, .int .i64 x3, .int .i64 x4, .float .f64 x5, .int .i64 x6, .int .i64 x7] 24)
  have hi2 := HI1.out.one (Obj.cells #[.int .i64 y, .int .i64 m, .int .i64 d, .int .i64 x3, .int .i64 x4, .float .f64 x5, .int .i64 x6, .int .i64 x7] 24)
  obtain ⟨q, hq⟩ : ∃ q, w1.heap.size = q := ⟨_, rfl⟩
  rw [hq] at hr2 ⊢
  generalize w1.alloc (Obj.cells #[.int .i64 y, .int .i64 m, .int .i64 d, .int .i64 x3, .int .i64 x4, .float .f64 x5, .int .i64 x6, .int .i64 x7] 24) = X2 at hr2 hi2 ⊢
  have R2 := Lib.hid hr2
  have HI2 := Lib.hid hi2
  clear hr2 hi2 hq HI1
  obtain ⟨u0, u1, u2, u3, u4, u5, u6, u7⟩ := row8 R2.out
  obtain ⟨p0, p1, p2, p3, p4, p5, p6, p7⟩ := row8 HI2.out.row
  obtain ⟨v0, v1, v2, v3, v4, v5, v6, v7⟩ := ice8 HI2.out.row
  go_wp2_with fail
  refine bodyPost_ret_by (results_row_tmp rfl _ _ w.heap.size 24 _ (0, 0) _ .nilIface rfl rfl (set8_row HI2.out.row ..) Tryz.underlying24 rfl sizeTime) rfl ?_
  rw [HT.out]
  exact ⟨⟨HK.out, y, m, d, HD.out, HN.out, by rw [HV.out]; rfl⟩, set8_below HI2.out.2.2.1 (Nat.le_refl _) ..⟩
end Go.Proofs.YtpjncnoejdaplaaGreatDoor

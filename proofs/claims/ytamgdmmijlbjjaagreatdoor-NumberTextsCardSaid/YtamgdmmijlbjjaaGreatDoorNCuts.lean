/- Parse's own parts: a sign, digits. -/
import Derived.Test.YtamgdmmijlbjjaaGreatDoorProg
import Derived.WalkKit
import Derived.ProofKit
import Derived.OpenShut
import Derived.Lib.Hide
import Derived.IntWalk
import Derived.Deep.QuietTactic
import Derived.BigQuiet
import Derived.BigGuardPart
namespace Go.Proofs.YtamgdmmijlbjjaaGreatDoor
open Go Go.RowKit

def isDig (c : UInt8) : Bool := decide (48 ≤ c.toNat) && decide (c.toNat ≤ 57)
def digN (l : List UInt8) : Nat := (l.takeWhile isDig).length
theorem digN_le (l : List UInt8) : digN l ≤ l.length := by
  unfold digN
  exact (List.takeWhile_prefix (l := l) isDig).length_le
theorem digN_is (l : List UInt8) (k : Nat) (hk : k ≤ l.length) (h1 : ∀ j (hj : j < k), isDig (l[j]'(by omega)) = true) (h2 : ∀ h : k < l.length, isDig (l[k]'h) = false) : digN l = k := by
  induction l generalizing k with
  | nil => simp at hk; subst hk; rfl
  | cons a t ih =>
    cases k with
    | zero =>
      have := h2 (by simp)
      unfold digN
      rw [List.takeWhile_cons, if_neg (by simpa using this)]
      rfl
    | succ k =>
      have h0 := h1 0 (by omega)
      unfold digN
      rw [List.takeWhile_cons, if_pos (by simpa using h0), List.length_cons]
      have := ih k (by simpa using hk) (fun j hj => by have := h1 (j + 1) (by omega); simpa using this) (fun h => by have := h2 (by simpa using h); simpa using this)
      unfold digN at this
      omega
set_option maxRecDepth 100000 in
set_option maxHeartbeats 1000000 in
theorem cutDigits_any (s : ByteArray) (hm : s.size ≤ 1000000000) (w : World) :
    Calls Tryz.prog 176 #[.string s] w fun e w' => e = .returned (.tuple #[.string (s.extract 0 (digN s.data.toList)), .string (s.extract (digN s.data.toList) s.size)]) ∧ ∃ n, w' = w.drewN n := by
  have hl : s.data.toList.length = s.size := by rw [Array.length_toList]; rfl
  go_enter Tryz.func176, Tryz.ntmps176
  go_wp2_with fail
  go_loop [4] (fun n => ∃ k : Nat, k ≤ s.size ∧ n = .int .i64 k ∧ ∀ j (hj : j < k) (hs : j < s.size), isDig s[j] = true) (fun n => s.size - (intOf n).toNat)
  case atStart => exact ⟨0, Nat.zero_le _, rfl, fun j hj => by omega⟩
  case round =>
    obtain ⟨k, hk, rfl, hj⟩ := hrel
    have HJ := Lib.hid hj
    clear hj
    by_cases hlt : k < s.size
    · by_cases hd : isDig s[k] = true
      · have d1 : decide (48 ≤ (s[k].toNat : Int)) = true := by unfold isDig at hd; simp at hd; exact decide_eq_true (by omega)
        have d2 : decide ((s[k].toNat : Int) ≤ 57) = true := by unfold isDig at hd; simp at hd; exact decide_eq_true (by omega)
        have HD := Lib.hid hd
        clear hd
        go_wp2_with fail
        go_round
        case rel => exact ⟨k + 1, by omega, by go_num, fun j hj hs => by
          rcases Nat.lt_or_ge j k with h | h
          · exact HJ.out j h hs
          · obtain rfl : j = k := by omega
            exact HD.out⟩
        case measure => simp [intOf]; omega
      · have hdn : isDig s[k] = false := by simpa using hd
        have HD := Lib.hid hdn
        clear hd hdn
        have he : digN s.data.toList = k := digN_is _ k (by omega) (fun j hj => HJ.out j hj (by omega)) (fun _ => HD.out)
        by_cases h48 : 48 ≤ (s[k].toNat : Int)
        · have d1 : decide (48 ≤ (s[k].toNat : Int)) = true := decide_eq_true h48
          have d2 : decide ((s[k].toNat : Int) ≤ 57) = false := by
            have := HD.out
            unfold isDig at this; simp at this
            exact decide_eq_false (by omega)
          have HE := Lib.hid he
          clear he h48
          go_wp2_with fail
          go_quiet (fail)
          go_wp2_with fail
          go_ret2
          exact ⟨by rw [HE.out]; rfl, _, rfl⟩
        · have d1 : decide (48 ≤ (s[k].toNat : Int)) = false := decide_eq_false h48
          have HE := Lib.hid he
          clear he
          go_wp2_with fail
          go_quiet (fail)
          go_wp2_with fail
          go_ret2
          exact ⟨by rw [HE.out]; rfl, _, rfl⟩
    · have he : digN s.data.toList = k := digN_is _ k (by omega) (fun j hj => HJ.out j hj (by omega)) (fun h => by omega)
      have HE := Lib.hid he
      clear he
      go_wp2_with fail
      go_quiet (fail)
      go_wp2_with fail
      go_ret2
      exact ⟨by rw [HE.out]; rfl, _, rfl⟩

def sgnN (l : List UInt8) : Nat := match l with
  | [] => 0
  | c :: _ => if c = 43 ∨ c = 45 then 1 else 0
theorem sgn_list (l : List UInt8) (hl : 0 < l.length) : sgnN l = if l[0] = 43 ∨ l[0] = 45 then 1 else 0 := by
  cases l with
  | nil => simp at hl
  | cons c t => rfl
theorem sgn_at (s : ByteArray) (h : 0 < s.size) : sgnN s.data.toList = if s[0] = 43 ∨ s[0] = 45 then 1 else 0 :=
  sgn_list s.data.toList (by rw [Array.length_toList]; exact h)
set_option maxRecDepth 100000 in
set_option maxHeartbeats 1000000 in
theorem cutSign_any (s : ByteArray) (hm : s.size ≤ 1000000000) (w : World) :
    Calls Tryz.prog 175 #[.string s] w fun e w' => e = .returned (.tuple #[.string (s.extract 0 (sgnN s.data.toList)), .string (s.extract (sgnN s.data.toList) s.size)]) ∧ ∃ n, w' = w.drewN n := by
  have x0 : s.extract 0 0 = ⟨#[]⟩ := by apply ByteArray.ext; simp
  have x1 : s.extract 0 s.size = s := by
    apply ByteArray.ext
    rw [ByteArray.data_extract]
    exact Array.extract_size
  by_cases h0 : 0 < s.size
  · have hs := sgn_at s h0
    have e2 : s.toList.isEmpty = false := by
      rw [List.isEmpty_eq_false_iff, ByteArray.toList_eq]
      intro h
      have := congrArg List.length h
      rw [Array.length_toList] at this
      have h3 : s.size = 0 := this
      omega
    by_cases h43 : s[0] = 43
    · have HS : Hid (sgnN s.data.toList = 1) := Lib.hid (by rw [hs, if_pos (.inl h43)])
      have d1 : ((s[0].toNat : Int) == 43) = true := by rw [h43]; rfl
      clear hs h43 x0 x1
      go_enter Tryz.func175, Tryz.ntmps175
      go_wp2_with fail
      go_quiet (fail)
      go_wp2_with fail
      go_ret2
      exact ⟨by rw [HS.out]; rfl, _, rfl⟩
    · have d1 : ((s[0].toNat : Int) == 43) = false := by
        rw [beq_eq_false_iff_ne]
        intro h
        exact h43 (UInt8.toNat_inj.1 (by show _ = 43; omega))
      by_cases h45 : s[0] = 45
      · have HS : Hid (sgnN s.data.toList = 1) := Lib.hid (by rw [hs, if_pos (.inr h45)])
        have d2 : ((s[0].toNat : Int) == 45) = true := by rw [h45]; rfl
        clear hs h43 h45 x0 x1
        go_enter Tryz.func175, Tryz.ntmps175
        go_wp2_with fail
        go_quiet (fail)
        go_wp2_with fail
        go_ret2
        exact ⟨by rw [HS.out]; rfl, _, rfl⟩
      · have HS : Hid (sgnN s.data.toList = 0) := Lib.hid (by rw [hs, if_neg (by intro h; rcases h with h | h; exact h43 h; exact h45 h)])
        have d2 : ((s[0].toNat : Int) == 45) = false := by
          rw [beq_eq_false_iff_ne]
          intro h
          exact h45 (UInt8.toNat_inj.1 (by show _ = 45; omega))
        have X0 := Lib.hid x0
        have X1 := Lib.hid x1
        clear hs h43 h45 x0 x1
        go_enter Tryz.func175, Tryz.ntmps175
        go_wp2_with fail
        go_ret2
        exact ⟨by rw [HS.out, X0.out, X1.out]; rfl, 0, rfl⟩
  · have e1 : s = ⟨#[]⟩ := by apply ByteArray.ext; exact Array.size_eq_zero_iff.1 (by show s.size = 0; omega)
    subst e1
    clear x0 x1 h0 hm
    go_enter Tryz.func175, Tryz.ntmps175
    go_wp2_with fail
    go_ret2
    exact ⟨rfl, 0, rfl⟩
end Go.Proofs.YtamgdmmijlbjjaaGreatDoor

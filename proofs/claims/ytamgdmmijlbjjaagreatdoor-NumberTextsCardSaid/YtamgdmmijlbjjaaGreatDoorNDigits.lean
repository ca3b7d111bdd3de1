/- setDigits: a number's digits into a row of bytes, without the noughts behind. -/
import Derived.Test.YtamgdmmijlbjjaaGreatDoorNShort
import Derived.Lib.ItoaMem
namespace Go.Proofs.YtamgdmmijlbjjaaGreatDoor
open Go Go.RowKit Go.Lib Go.Sort

theorem nDigits_le : ∀ (k u : Nat), 1 ≤ k → u < 10 ^ k → nDigits u ≤ k := by
  intro k
  induction k with
  | zero => intro u h; omega
  | succ k ih =>
    intro u _ hu
    by_cases h : u < 10
    · rw [nDigits_small h]; omega
    · rw [nDigits_big h]
      have hk : 1 ≤ k := by
        rcases Nat.eq_zero_or_pos k with rfl | hk
        · simp at hu; omega
        · exact hk
      have := ih (u / 10) hk (by rw [Nat.pow_succ] at hu; omega)
      omega
/-- How many bytes are left when the noughts behind are taken away. -/
def stripN (l : List UInt8) : Nat := (l.reverse.dropWhile (· == 48)).length
theorem strip_nought (l : List UInt8) : stripN (l ++ [48]) = stripN l := by
  unfold stripN
  rw [List.reverse_append]
  simp
theorem strip_other (l : List UInt8) (c : UInt8) (h : c ≠ 48) : stripN (l ++ [c]) = l.length + 1 := by
  unfold stripN
  rw [List.reverse_append]
  simp [h]
theorem take_succ_get (l : List UInt8) (k : Nat) (h : k < l.length) : l.take (k + 1) = l.take k ++ [l[k]] := by
  rw [List.take_succ_eq_append_getElem h]

theorem below_row (w : World) (b : Nat) (d : Array UInt8) : Below b w (putRow (fun (b : UInt8) => Value.int .u8 (b.toNat : Int)) w b 0 d) :=
  ⟨rfl, rfl, rfl, by simp, fun k hk => by
    unfold putRow mapBlock
    simp only [Array.getElem?_modify]
    rw [if_neg (by omega)]⟩
/-- Sixteen and sixteen noughts. -/
def zeros32 : Array Value := Array.replicate 32 (Value.int .u8 0)

set_option maxRecDepth 100000 in
set_option maxHeartbeats 400000 in
theorem setDigits_any (b : Nat) (d : Nat) (p : Int) (h1 : 1 ≤ d) (h2 : d < 18446744073709551616) (hp : -100000 ≤ p ∧ p ≤ 100000) (w : World)
    (hz : ∀ j, j < 32 → w.cell? ⟨b, j, none⟩ = some (.int .u8 0) ∧ w.frozen? ⟨b, j, none⟩ = false) :
    Calls Tryz.prog 223 #[.slice (some ⟨b, 0, none⟩) 32 32, .int .u64 d, .int .i64 p, .int .i64 (nDigits d)] w fun e w' =>
      e = .returned (.tuple #[.int .i64 (nDigits d + p), .int .i64 (stripN (decDigits d))]) ∧ (∀ j (hj : j < (decDigits d).length), w'.cell? ⟨b, j, none⟩ = some (.int .u8 ((decDigits d)[j].toNat : Int))) ∧ Below b w w' := by
  have hn20 := nDigits_le 20 d (by omega) (by omega)
  have hn1 := nDigits_pos d
  have hnl := decDigits_length d
  have hlt := lt_pow_nDigits d
  obtain ⟨d0, hd0, hH⟩ : ∃ d0 : Array UInt8, d0.size = nDigits d ∧ Holds (fun (b : UInt8) => Value.int .u8 (b.toNat : Int)) w b 0 d0 := by
    refine ⟨Array.replicate (nDigits d) 0, by simp, fun j hj => ?_⟩
    have hj' : j < nDigits d := by simpa using hj
    have := hz j (by omega)
    rw [Nat.zero_add]
    refine ⟨?_, this.2⟩
    rw [this.1, getElem!_pos _ j hj]
    simp
  have hrow := fun (v' : Nat) (dk : Array UInt8) => @row_is_numeral d v' dk
  obtain ⟨n, hn⟩ : ∃ n, nDigits d = n := ⟨_, rfl⟩
  rw [hn] at hn20 hn1 hnl hlt hd0 ⊢
  have HC := Tryz.internal_strconv_formatBase10 b 0 32 d d0 w hH (by rw [hd0]; exact hlt) h2 (by omega)
  rw [hd0] at HC
  have Hn := Lib.hid hn
  have Hd0 := Lib.hid hd0
  have Hz := Lib.hid hz
  have Hrow := Lib.hid hrow
  have HH := Lib.hid hH
  have Hlt := Lib.hid hlt
  obtain ⟨l, hl⟩ : ∃ l, decDigits d = l := ⟨_, rfl⟩
  have Hl := Lib.hid hl
  rw [hl] at hnl
  have Hnl := Lib.hid hnl
  clear hn hd0 hz hrow hH hl hnl hlt
  go_enter Tryz.func223, Tryz.ntmps223
  go_wp2_with fail
  refine HC.mono ?_
  rintro e w' ⟨rfl, nq, v', dk, rfl, hinv⟩
  have hdk : ∀ j (hj : j < l.length), ((putRow (fun (b : UInt8) => Value.int .u8 (b.toNat : Int)) w b 0 dk).drewN nq).cell? ⟨b, j, none⟩ = some (.int .u8 (l[j].toNat : Int)) := by
    intro j hj
    have h3 : dk.size = d0.size := by rw [hinv.size, Hd0.out]
    have h4 := cell?_putRow (fun (b : UInt8) => Value.int .u8 (b.toNat : Int)) w b 0 d0 dk HH.out h3 j (by rw [hinv.size, ← Hnl.out]; exact hj)
    rw [Nat.zero_add] at h4
    refine h4.trans ?_
    have h5 := Hrow.out v' dk (by rw [Hn.out]; exact hinv) j (by rw [Hl.out]; exact hj)
    rw [← h5]
    simp only [Hl.out]
  have BW : Below b w ((putRow (fun (b : UInt8) => Value.int .u8 (b.toNat : Int)) w b 0 dk).drewN nq) := below_drewN (below_row w b dk) nq
  clear hinv
  revert hdk BW
  generalize (putRow (fun (b : UInt8) => Value.int .u8 (b.toNat : Int)) w b 0 dk).drewN nq = W
  intro hdk BW
  have Hdk := Lib.hid hdk
  clear hdk
  go_wp2_with fail
  go_loop [3] (fun i => ∃ k : Nat, k ≤ n ∧ i = .int .i64 k ∧ stripN l = stripN (l.take k)) (fun i => (Go.RowKit.intOf i).toNat)
  case atStart => exact ⟨n, Nat.le_refl _, rfl, by rw [List.take_of_length_le (by rw [Hnl.out]; exact Nat.le_refl _)]⟩
  case round =>
    obtain ⟨k, hk, rfl, hst⟩ := hrel
    have Hst := Lib.hid hst
    clear hst
    rcases Nat.eq_zero_or_pos k with rfl | hk0
    · go_wp2_with fail
      go_ret2
      exact ⟨by rw [Hl.out, Hst.out]; rfl, fun j hj => by simp only [Hl.out] at hj ⊢; exact Hdk.out j hj, BW⟩
    · have hkl : k - 1 < l.length := by rw [Hnl.out]; omega
      have hc := Hdk.out (k - 1) hkl
      have htk : l.take k = l.take (k - 1) ++ [l[k - 1]] := by
        have := take_succ_get l (k - 1) hkl
        rw [show k - 1 + 1 = k from by omega] at this
        exact this
      obtain ⟨c, hcc⟩ : ∃ c, l[k - 1] = c := ⟨_, rfl⟩
      rw [hcc] at hc htk
      have Htk := Lib.hid htk
      have Hcc := Lib.hid hcc
      clear htk hcc
      have i0 : (0 : Int) < (k : Int) := by omega
      have i1 : (1 : Int) ≤ (k : Int) := by omega
      have i2 : (0 : Int) ≤ (k : Int) - 1 := by omega
      have i3 : (k : Int) - 1 < 32 := by omega
      have i4 : ((k : Int) - 1).toNat = k - 1 := by omega
      by_cases h48 : c = 48
      · have e1 : ((c.toNat : Int) == 48) = true := by subst h48; rfl
        go_wp2_with fail
        go_round
        case rel => exact ⟨k - 1, by omega, by congr 1; omega, by rw [Hst.out, Htk.out, h48, strip_nought]⟩
        case measure => simp [Go.RowKit.intOf]; omega
      · have e1 : ((c.toNat : Int) == 48) = false := by
          rw [beq_eq_false_iff_ne]
          intro h
          exact h48 (UInt8.toNat_inj.1 (by have h9 : (48 : UInt8).toNat = 48 := rfl; omega))
        go_wp2_with fail
        go_ret2
        refine ⟨?_, fun j hj => by simp only [Hl.out] at hj ⊢; exact Hdk.out j hj, BW⟩
        rw [Hl.out, Hst.out, Htk.out, strip_other _ _ h48, List.length_take, Nat.min_eq_left (by omega), show k - 1 + 1 = k from by omega]
        rfl
end Go.Proofs.YtamgdmmijlbjjaaGreatDoor

/- The program's Escape: code points as escapes. -/
import Derived.Test.YtjhghhjnccjhmaaGreatDoorRBuild
import Derived.Test.YtjhghhjnccjhmaaGreatDoorQWriter
namespace Go.Proofs.YtjhghhjnccjhmaaGreatDoor
open Go Go.RowKit

/-- \uXXXX. -/
def unitT (u : Nat) : List UInt8 := [92, 117, hexC (u / 4096 % 16), hexC (u / 256 % 16), hexC (u / 16 % 16), hexC (u % 16)]
/-- How a code point of a text stands in ASCII. -/
def escA (p : Nat) : List UInt8 := if p ≤ 127 then [p.toUInt8] else if p < 65536 then unitT p else unitT (55296 + (p - 65536) / 1024) ++ unitT (56320 + (p - 65536) % 1024)
def asciiR (s : ByteArray) (pos : Nat) : List UInt8 := (pts s pos).flatMap escA
set_option maxRecDepth 100000 in
theorem lies_own : LiesG 57 [] := by
  show liesAt Tryz.prog Tryz.prog.depth 57 (2 / Tryz.prog.cellsOf 57) 0 57 1 = true
  kernel_rfl
theorem and15 {x : Int} (h0 : 0 ≤ x) (h1 : x < 1073741824) : bits .and .i32 x 15 = x % 16 :=
  bits_mask .i32 30 (by decide) (fun n h0 h1 => IntWalk.i32_in _ (by omega)) 4 (by omega) x h0 (by omega)
set_option maxRecDepth 100000 in
set_option maxHeartbeats 2000000 in
theorem writeUnit_any (b : Nat) (l : List UInt8) (u : Nat) (hu : u < 65536) (w : World) (h : IsG 57 [] w b l) (hlen : l.length ≤ 1099511627776) :
    Calls Tryz.prog 58 #[.pointer (some ⟨b, 0, none⟩), .int .i32 u] w fun e w' => e = .returned (.tuple #[]) ∧ GAt 57 [] w' b (.pointer (some ⟨b, 0, none⟩)) (l ++ unitT u) ∧ WStep b w w' := by
  have h1 := WriteString_G lies_own b l ⟨#[92, 117]⟩ w h (by omega) (by decide)
  have hwb := fun (m : List UInt8) (hm : m.length ≤ 6) (c : UInt8) W hW => WriteByte_G lies_own b (l ++ m) c W hW (by simp; omega)
  have H1 := Lib.hid h1
  have HWB := Lib.hid hwb
  clear h1 hwb h
  go_enter Tryz.func58, Tryz.ntmps58
  go_wp2_with fail
  refine H1.out.mono ?_
  rintro e w1 ⟨rfl, hw1, hst⟩
  have HW1 := Lib.hid hw1
  have HST := Lib.hid hst
  clear hw1 hst
  go_wp2_with fail
  go_loopw [4] (fun i W => WStep b w1 W ∧ ((i = .int .i64 12 ∧ IsG 57 [] W b (l ++ [92, 117])) ∨ (i = .int .i64 8 ∧ IsG 57 [] W b (l ++ [92, 117, hexC (u / 4096 % 16)])) ∨ (i = .int .i64 4 ∧ IsG 57 [] W b (l ++ [92, 117, hexC (u / 4096 % 16), hexC (u / 256 % 16)]))
    ∨ (i = .int .i64 0 ∧ IsG 57 [] W b (l ++ [92, 117, hexC (u / 4096 % 16), hexC (u / 256 % 16), hexC (u / 16 % 16)])) ∨ (i = .int .i64 (-4) ∧ GAt 57 [] W b (.pointer (some ⟨b, 0, none⟩)) (l ++ unitT u)))) (fun i _ => (intOf i + 4).toNat)
  case atStart => exact ⟨WStep.refl _ _, Or.inl ⟨rfl, HW1.out.is⟩⟩
  case round =>
    obtain ⟨hs, hc⟩ := hrel
    have HS := Lib.hid hs
    clear hs
    rcases hc with ⟨rfl, hw⟩ | ⟨rfl, hw⟩ | ⟨rfl, hw⟩ | ⟨rfl, hw⟩ | ⟨rfl, hw⟩
    · have HW := Lib.hid hw
      have HC := Lib.hid (HWB.out [92, 117] (by simp) (hexC (u / 4096 % 16)) wr HW.out)
      obtain ⟨q, hq⟩ : ∃ q, u / 4096 % 16 = q := ⟨_, rfl⟩
      have hq16 : q < 16 := by omega
      have hb : bits .and .i32 ((u : Int) / 4096) 15 = (q : Int) := by rw [and15 (by omega) (by omega)]; omega
      have HQ := Lib.hid hq
      rw [hq, ← hex_is q hq16] at HC
      have hq0 : (0 : Int) ≤ (q : Int) := by omega
      have hq1 : (q : Int) < 16 := by omega
      clear hw hq
      go_wp2_with fail
      refine HC.out.mono ?_
      rintro e w2 ⟨rfl, hw2, hs2⟩
      rw [hex_is q hq16, ← HQ.out] at hw2
      have HW2 := Lib.hid hw2
      have HS2 := Lib.hid (HS.out.trans hs2)
      clear hw2 hs2 hb
      go_wp2_with fail
      go_roundw
      case rel => exact ⟨HS2.out, Or.inr (Or.inl (⟨by go_num, by rw [show l ++ [92, 117, hexC (u / 4096 % 16)] = l ++ [92, 117] ++ [hexC (u / 4096 % 16)] by simp]; exact HW2.out.is⟩))⟩
      case measure => simp [intOf]
    · have HW := Lib.hid hw
      have HC := Lib.hid (HWB.out [92, 117, hexC (u / 4096 % 16)] (by simp) (hexC (u / 256 % 16)) wr HW.out)
      obtain ⟨q, hq⟩ : ∃ q, u / 256 % 16 = q := ⟨_, rfl⟩
      have hq16 : q < 16 := by omega
      have hb : bits .and .i32 ((u : Int) / 256) 15 = (q : Int) := by rw [and15 (by omega) (by omega)]; omega
      have HQ := Lib.hid hq
      rw [hq, ← hex_is q hq16] at HC
      have hq0 : (0 : Int) ≤ (q : Int) := by omega
      have hq1 : (q : Int) < 16 := by omega
      clear hw hq
      go_wp2_with fail
      refine HC.out.mono ?_
      rintro e w2 ⟨rfl, hw2, hs2⟩
      rw [hex_is q hq16, ← HQ.out] at hw2
      have HW2 := Lib.hid hw2
      have HS2 := Lib.hid (HS.out.trans hs2)
      clear hw2 hs2 hb
      go_wp2_with fail
      go_roundw
      case rel => exact ⟨HS2.out, Or.inr (Or.inr (Or.inl (⟨by go_num, by rw [show l ++ [92, 117, hexC (u / 4096 % 16), hexC (u / 256 % 16)] = l ++ [92, 117, hexC (u / 4096 % 16)] ++ [hexC (u / 256 % 16)] by simp]; exact HW2.out.is⟩)))⟩
      case measure => simp [intOf]
    · have HW := Lib.hid hw
      have HC := Lib.hid (HWB.out [92, 117, hexC (u / 4096 % 16), hexC (u / 256 % 16)] (by simp) (hexC (u / 16 % 16)) wr HW.out)
      obtain ⟨q, hq⟩ : ∃ q, u / 16 % 16 = q := ⟨_, rfl⟩
      have hq16 : q < 16 := by omega
      have hb : bits .and .i32 ((u : Int) / 16) 15 = (q : Int) := by rw [and15 (by omega) (by omega)]; omega
      have HQ := Lib.hid hq
      rw [hq, ← hex_is q hq16] at HC
      have hq0 : (0 : Int) ≤ (q : Int) := by omega
      have hq1 : (q : Int) < 16 := by omega
      clear hw hq
      go_wp2_with fail
      refine HC.out.mono ?_
      rintro e w2 ⟨rfl, hw2, hs2⟩
      rw [hex_is q hq16, ← HQ.out] at hw2
      have HW2 := Lib.hid hw2
      have HS2 := Lib.hid (HS.out.trans hs2)
      clear hw2 hs2 hb
      go_wp2_with fail
      go_roundw
      case rel => exact ⟨HS2.out, Or.inr (Or.inr (Or.inr (Or.inl (⟨by go_num, by rw [show l ++ [92, 117, hexC (u / 4096 % 16), hexC (u / 256 % 16), hexC (u / 16 % 16)] = l ++ [92, 117, hexC (u / 4096 % 16), hexC (u / 256 % 16)] ++ [hexC (u / 16 % 16)] by simp]; exact HW2.out.is⟩))))⟩
      case measure => simp [intOf]
    · have HW := Lib.hid hw
      have HC := Lib.hid (HWB.out [92, 117, hexC (u / 4096 % 16), hexC (u / 256 % 16), hexC (u / 16 % 16)] (by simp) (hexC (u % 16)) wr HW.out)
      obtain ⟨q, hq⟩ : ∃ q, u % 16 = q := ⟨_, rfl⟩
      have hq16 : q < 16 := by omega
      have hb : bits .and .i32 (u : Int) 15 = (q : Int) := by rw [and15 (by omega) (by omega)]; omega
      have HQ := Lib.hid hq
      rw [hq, ← hex_is q hq16] at HC
      have hq0 : (0 : Int) ≤ (q : Int) := by omega
      have hq1 : (q : Int) < 16 := by omega
      clear hw hq
      go_wp2_with fail
      refine HC.out.mono ?_
      rintro e w2 ⟨rfl, hw2, hs2⟩
      rw [hex_is q hq16, ← HQ.out] at hw2
      have HW2 := Lib.hid hw2
      have HS2 := Lib.hid (HS.out.trans hs2)
      clear hw2 hs2 hb
      go_wp2_with fail
      go_roundw
      case rel => exact ⟨HS2.out, Or.inr (Or.inr (Or.inr (Or.inr (⟨by go_num, by unfold unitT; rw [show l ++ [92, 117, hexC (u / 4096 % 16), hexC (u / 256 % 16), hexC (u / 16 % 16), hexC (u % 16)] = l ++ [92, 117, hexC (u / 4096 % 16), hexC (u / 256 % 16), hexC (u / 16 % 16)] ++ [hexC (u % 16)] by simp]; exact HW2.out⟩))))⟩
      case measure => simp [intOf]
    · have HW := Lib.hid hw
      clear hw
      go_wp2_with fail
      go_end0
      exact ⟨rfl, HW.out, HST.out.trans HS.out⟩
theorem writeUnit_at (b : Nat) (l : List UInt8) (u : Nat) (x : Int) (e : x = (u : Int)) (hu : u < 65536) (w : World) (h : IsG 57 [] w b l) (hlen : l.length ≤ 1099511627776) :
    Calls Tryz.prog 58 #[.pointer (some ⟨b, 0, none⟩), .int .i32 x] w fun e w' => e = .returned (.tuple #[]) ∧ GAt 57 [] w' b (.pointer (some ⟨b, 0, none⟩)) (l ++ unitT u) ∧ WStep b w w' := by
  subst e
  exact writeUnit_any b l u hu w h hlen
set_option maxRecDepth 100000 in
set_option maxHeartbeats 2000000 in
theorem writeEscaped_any (b : Nat) (l : List UInt8) (p : Nat) (hp : 127 < p) (hp2 : p ≤ 1114111) (w : World) (h : IsG 57 [] w b l) (hlen : l.length ≤ 274877906944) :
    Calls Tryz.prog 33 #[.pointer (some ⟨b, 0, none⟩), .int .i32 p] w fun e w' => e = .returned (.tuple #[]) ∧ GAt 57 [] w' b (.pointer (some ⟨b, 0, none⟩)) (l ++ escA p) ∧ WStep b w w' := by
  by_cases h6 : p < 65536
  · have h1 := writeUnit_any b l p h6 w h (by omega)
    have e1 : escA p = unitT p := by unfold escA; rw [if_neg (by omega), if_pos h6]
    rw [e1]
    have H1 := Lib.hid h1
    have d0 : decide ((p : Int) < 65536) = true := by simp; omega
    clear h1 h e1 h6
    go_enter Tryz.func33, Tryz.ntmps33
    go_wp2_with fail
    refine H1.out.mono ?_
    rintro e w1 ⟨rfl, hw1, hst⟩
    have HW1 := Lib.hid hw1
    have HST := Lib.hid hst
    clear hw1 hst
    go_wp2_with fail
    refine bodyPost_ret (results_none rfl _ _ _) rfl ?_
    exact ⟨rfl, HW1.out, HST.out⟩
  · obtain ⟨k, rfl⟩ : ∃ k, p = k + 65536 := ⟨p - 65536, by omega⟩
    have e1 : escA (k + 65536) = unitT (55296 + k / 1024) ++ unitT (56320 + k % 1024) := by
      unfold escA
      rw [if_neg (by omega), if_neg h6, show k + 65536 - 65536 = k by omega]
    rw [e1]
    have h1 := writeUnit_at b l (55296 + k / 1024) (55296 + (k : Int) / 1024) (by omega) (by omega) w h (by omega)
    have h2 := fun W hW => writeUnit_at b (l ++ unitT (55296 + k / 1024)) (56320 + k % 1024) (56320 + ((k % 1024 : Nat) : Int)) (by omega) (by omega) W hW (by simp [unitT]; omega)
    have H1 := Lib.hid h1
    have H2 := Lib.hid h2
    have hb : bits .and .i32 (k : Int) 1023 = ((k % 1024 : Nat) : Int) := by
      have := bits_mask .i32 30 (by decide) (fun n h0 h1 => IntWalk.i32_in _ (by omega)) 10 (by omega) (k : Int) (by omega) (by omega)
      rw [show ((2 : Int) ^ 10 - 1) = 1023 by decide] at this
      rw [this]
      omega
    have hk1 : k ≤ 1048575 := by omega
    have hk0 : (0 : Int) ≤ (k : Int) := by omega
    have d0 : decide ((k : Int) + 65536 < 65536) = false := by simp; omega
    have e2 : ((k + 65536 : Nat) : Int) = (k : Int) + 65536 := by omega
    rw [e2]
    clear h1 h2 h e1 h6 hp hp2 e2
    go_enter Tryz.func33, Tryz.ntmps33
    go_wp2_with fail
    refine H1.out.mono ?_
    rintro e w1 ⟨rfl, hw1, hst⟩
    have HW1 := Lib.hid hw1.is
    have HST := Lib.hid hst
    clear hw1 hst
    go_wp2_with fail
    refine (H2.out w1 HW1.out).mono ?_
    rintro e w2 ⟨rfl, hw2, hst2⟩
    have HW2 := Lib.hid hw2
    have HST2 := Lib.hid hst2
    clear hw2 hst2
    go_wp2_with fail
    go_end0
    refine ⟨rfl, ?_, HST.out.trans HST2.out⟩
    rw [← List.append_assoc]
    exact HW2.out
end Go.Proofs.YtjhghhjnccjhmaaGreatDoor

/- Reading a text: the program's small steps. -/
import Derived.Test.YtpjncnoejdaplaaGreatDoorLAB
import Derived.Test.YtpjncnoejdaplaaGreatDoorLAE
import Derived.Lib.BufferOwn
import Derived.Deep.QuietTactic
import Derived.BigQuiet
import Derived.Deep.Cut
import Derived.Deep.CutRange
import Derived.Deep.DeepCutAuto
namespace Go.Proofs.YtpjncnoejdaplaaGreatDoor
open Go Go.RowKit Go.Shelf

theorem ret_boolK {a b : Bool} (h : a = b) : Ending.returned (.bool a) = .returned (.bool b) := by rw [h]
theorem blank_any (c : UInt8) (w : World) : Calls Tryz.prog 82 #[.int .u8 c.toNat] w fun e w' => e = .returned (.bool (blankB c)) ∧ w = w' := by
  by_cases h1 : c.toNat = 32
  · have k1 : ((c.toNat : Int) == 32) = true := by simp; omega
    have hb : blankB c = true := decide_eq_true (Or.inl h1)
    rw [hb]
    clear h1 hb
    go_enter Tryz.func82, Tryz.ntmps82
    go_wp2_with fail
    go_ret
    exact ⟨rfl, rfl⟩
  · have k1 : ((c.toNat : Int) == 32) = false := by simp; omega
    by_cases h2 : 9 ≤ c.toNat
    · by_cases h3 : c.toNat ≤ 13
      · have hb : blankB c = true := decide_eq_true (Or.inr ⟨h2, h3⟩)
        rw [hb]
        clear h1 hb
        go_enter Tryz.func82, Tryz.ntmps82
        go_wp2_with fail
        go_ret
        exact ⟨by first | rfl | (simp; omega), rfl⟩
      · have hb : blankB c = false := decide_eq_false (by omega)
        rw [hb]
        clear h1 hb
        go_enter Tryz.func82, Tryz.ntmps82
        go_wp2_with fail
        go_ret
        exact ⟨by first | rfl | (simp; omega), rfl⟩
    · have hb : blankB c = false := decide_eq_false (by omega)
      rw [hb]
      clear h1 hb
      go_enter Tryz.func82, Tryz.ntmps82
      go_wp2_with fail
      go_ret
      exact ⟨by first | rfl | (simp; omega), rfl⟩
theorem digit_any (c : UInt8) (w : World) : Calls Tryz.prog 182 #[.int .u8 c.toNat] w fun e w' => e = .returned (.bool (digitB c)) ∧ w = w' := by
  by_cases h2 : 48 ≤ c.toNat
  · by_cases h3 : c.toNat ≤ 57
    · have hb : digitB c = true := decide_eq_true ⟨h2, h3⟩
      rw [hb]
      clear hb
      go_enter Tryz.func182, Tryz.ntmps182
      go_wp2_with fail
      go_ret
      exact ⟨by first | rfl | (simp; omega), rfl⟩
    · have hb : digitB c = false := decide_eq_false (by omega)
      rw [hb]
      clear hb
      go_enter Tryz.func182, Tryz.ntmps182
      go_wp2_with fail
      go_ret
      exact ⟨by first | rfl | (simp; omega), rfl⟩
  · have hb : digitB c = false := decide_eq_false (by omega)
    rw [hb]
    clear hb
    go_enter Tryz.func182, Tryz.ntmps182
    go_wp2_with fail
    go_ret
    exact ⟨by first | rfl | (simp; omega), rfl⟩
theorem letter_any (c : UInt8) (w : World) : Calls Tryz.prog 139 #[.int .u8 c.toNat] w fun e w' => e = .returned (.bool (letterB c)) ∧ w = w' := by
  by_cases h1 : 65 ≤ c.toNat
  · by_cases h2 : c.toNat ≤ 90
    · have hb : letterB c = true := decide_eq_true (Or.inl ⟨h1, h2⟩)
      rw [hb]
      clear hb
      go_enter Tryz.func139, Tryz.ntmps139
      go_wp2_with fail
      go_ret
      exact ⟨by first | rfl | (simp; omega), rfl⟩
    · by_cases h3 : 97 ≤ c.toNat
      · by_cases h4 : c.toNat ≤ 122
        · have hb : letterB c = true := decide_eq_true (Or.inr ⟨h3, h4⟩)
          rw [hb]
          clear hb
          go_enter Tryz.func139, Tryz.ntmps139
          go_wp2_with fail
          go_ret
          exact ⟨by first | rfl | (simp; omega), rfl⟩
        · have hb : letterB c = false := decide_eq_false (by omega)
          rw [hb]
          clear hb
          go_enter Tryz.func139, Tryz.ntmps139
          go_wp2_with fail
          go_ret
          exact ⟨by first | rfl | (simp; omega), rfl⟩
      · have hb : letterB c = false := decide_eq_false (by omega)
        rw [hb]
        clear hb
        go_enter Tryz.func139, Tryz.ntmps139
        go_wp2_with fail
        go_ret
        exact ⟨by first | rfl | (simp; omega), rfl⟩
  · have hb : letterB c = false := decide_eq_false (by omega)
    have h3 : ¬ 97 ≤ c.toNat := by omega
    rw [hb]
    clear hb
    go_enter Tryz.func139, Tryz.ntmps139
    go_wp2_with fail
    go_ret
    exact ⟨by first | rfl | (simp; omega), rfl⟩
/-- What is left, as a string. -/
theorem RdAt.cell0 {w : World} {rb : Nat} {st : St} (h : RdAt w rb st) : w.cell? ⟨rb, 0, none⟩ = some (.string ⟨st.left.toArray⟩) := by
  unfold RdAt at h
  simp [World.cell?, h, rdCells]
theorem RdAt.ice0 {w : World} {rb : Nat} {st : St} (h : RdAt w rb st) : w.frozen? ⟨rb, 0, none⟩ = false := by
  unfold RdAt at h
  simp [World.frozen?, h]
theorem RdAt.lt {w : World} {rb : Nat} {st : St} (h : RdAt w rb st) : rb < w.heap.size := (Array.getElem?_eq_some_iff.1 h).1
theorem RdAt.setLeft {w : World} {rb : Nat} {st : St} (h : RdAt w rb st) (l : List UInt8) : RdAt (w.setCell ⟨rb, 0, none⟩ (.string ⟨l.toArray⟩)) rb (leftS st l) := row_setAt h 0 _
theorem ba_drop (s : ByteArray) (n : Nat) : s.extract n s.size = ⟨(s.data.toList.drop n).toArray⟩ := by
  apply ByteArray.ext
  apply Array.ext'
  simp
  exact List.take_of_length_le (by simp)
theorem grown_set (w : World) (rb i : Nat) (v : Value) : w.grownBy (w.setCell ⟨rb, i, none⟩ v) (some rb) := Lib.grownBy_setB (World.grownBy.refl w (some rb)) i v
set_option maxRecDepth 100000 in
set_option maxHeartbeats 1000000 in
theorem skip_any (k : Nat) (p : UInt8 → Bool) (hp : ∀ (c : UInt8) (w : World), Calls Tryz.prog k #[.int .u8 c.toNat] w fun e w' => e = .returned (.bool (p c)) ∧ w = w') (hen : ∀ args w, (callFunc k args).run Tryz.prog w = .ok (.enter k args) w) (rb : Nat) (st : St) (hl : st.left.length ≤ 70368744177664) (w : World) (h : RdAt w rb st) :
    Calls Tryz.prog 81 #[.pointer (some ⟨rb, 0, none⟩), .func (.func k) #[] #[]] w fun e w' => e = .returned (.tuple #[]) ∧ RdAt w' rb (skipS p st) ∧ w.grownBy w' (some rb) := by
  have hc := h.cell0
  have hi := h.ice0
  obtain ⟨s, hs⟩ : ∃ s : ByteArray, (⟨st.left.toArray⟩ : ByteArray) = s := ⟨_, rfl⟩
  have hls : s.data.toList = st.left := by rw [← hs]
  have hz : s.size ≤ 70368744177664 := by rw [← hs]; simpa [ByteArray.size] using hl
  rw [hs] at hc
  have HP := Lib.hid hp
  have HR := Lib.hid h
  have HLS := Lib.hid hls
  clear hp hs h hls hl
  go_enter Tryz.func81, Tryz.ntmps81
  go_wp2_with fail
  go_loop [4] (fun i => ∃ j : Nat, j ≤ s.size ∧ i = .int .i64 j ∧ Hid (s.data.toList.dropWhile p = (s.data.toList.drop j).dropWhile p)) (fun i => s.size - (intOf i).toNat)
  case atStart => exact ⟨0, by omega, rfl, Lib.hid rfl⟩
  case round =>
    obtain ⟨j, hj, rfl, HD⟩ := hrel
    by_cases hlt : j < s.size
    · obtain ⟨c, hc2⟩ : ∃ c, s[j] = c := ⟨_, rfl⟩
      have HE := Lib.hid (show s.data.toList.drop j = c :: s.data.toList.drop (j + 1) from by
        rw [List.drop_eq_getElem_cons (show j < s.data.toList.length by simpa using hlt)]
        rw [← hc2]
        rfl)
      by_cases hpc : p c = true
      · go_wp2_with fail
        refine (HP.out c _).mono ?_
        rw [hpc]
        rintro e w' ⟨rfl, rfl⟩
        go_wp2_with fail
        go_round
        case rel => exact ⟨j + 1, by omega, by go_num, Lib.hid (by rw [HD.out, HE.out, List.dropWhile_cons, if_pos hpc])⟩
        case measure => simp [intOf]; omega
      · have hpf : p c = false := by simpa using hpc
        have HF := Lib.hid (show st.left.dropWhile p = s.data.toList.drop j from by rw [← HLS.out, HD.out, HE.out, List.dropWhile_cons, if_neg hpc])
        clear hpc
        go_wp2_with fail
        refine (HP.out c _).mono ?_
        rw [hpf]
        rintro e w' ⟨rfl, rfl⟩
        go_wp2_with fail
        go_end0
        refine ⟨rfl, ?_, grown_set _ _ _ _⟩
        rw [ba_drop, ← HF.out]
        exact HR.out.setLeft _
    · have hjj : j = s.size := by omega
      subst hjj
      have HF := Lib.hid (show st.left.dropWhile p = s.data.toList.drop s.size from by rw [← HLS.out, HD.out, List.drop_of_length_le (by simp)]; rfl)
      clear hlt hj
      go_wp2_with fail
      go_end0
      refine ⟨rfl, ?_, grown_set _ _ _ _⟩
      have h1 := HR.out.setLeft []
      rw [List.drop_of_length_le (by simp)] at HF
      unfold skipS
      rw [HF.out]
      exact h1
theorem digK_le (m : Nat) (l : List UInt8) : digK m l ≤ l.length ∧ digK m l ≤ m := by
  have h1 := (List.takeWhile_sublist (p := digitB) (l := l.take m)).length_le
  rw [List.length_take] at h1
  unfold digK
  omega
theorem numOf_snoc (l : List UInt8) (c : UInt8) : numOf (l ++ [c]) = numOf l * 10 + ((c.toNat : Int) - 48) := by
  unfold numOf
  rw [List.foldl_append]
  rfl
theorem pow_le12 (j : Nat) (h : j ≤ 12) : (10 : Int) ^ j ≤ 1000000000000 := by
  have h1 : (10 : Nat) ^ j ≤ 10 ^ 12 := Nat.pow_le_pow_right (by omega) h
  have h2 : (10 : Nat) ^ 12 = 1000000000000 := by decide
  have h3 : ((10 : Nat) ^ j : Nat) ≤ 1000000000000 := by omega
  have h4 : (((10 : Nat) ^ j : Nat) : Int) = (10 : Int) ^ j := by simp
  omega
set_option maxRecDepth 100000 in
set_option maxHeartbeats 1000000 in
theorem digits_any (most : Nat) (hm : most ≤ 12) (rb : Nat) (st : St) (hl : st.left.length ≤ 70368744177664) (w : World) (h : RdAt w rb st) :
    Calls Tryz.prog 163 #[.pointer (some ⟨rb, 0, none⟩), .int .i64 most] w fun e w' => e = .returned (.tuple #[.int .i64 (digN most st.left), .int .i64 (digK most st.left)]) ∧ RdAt w' rb (leftS st (st.left.drop (digK most st.left))) ∧ w.grownBy w' (some rb) := by
  have hc := h.cell0
  have hi := h.ice0
  obtain ⟨s, hs⟩ : ∃ s : ByteArray, (⟨st.left.toArray⟩ : ByteArray) = s := ⟨_, rfl⟩
  have hls : s.data.toList = st.left := by rw [← hs]
  have hz : s.size ≤ 70368744177664 := by rw [← hs]; simpa [ByteArray.size] using hl
  rw [hs] at hc
  have HR := Lib.hid h
  have HLS := Lib.hid hls
  have HX : Hid (s.data.toList.length = s.size) := Lib.hid (by simp)
  clear hs h hls hl
  go_enter Tryz.func163, Tryz.ntmps163
  go_wp2_with fail
  go_loop [4, 5] (fun n i => ∃ (j : Nat) (v : Int), j ≤ s.size ∧ j ≤ most ∧ i = .int .i64 j ∧ n = .int .i64 v ∧ 0 ≤ v ∧ v ≤ 1000000000000 ∧ Hid (v < 10 ^ j) ∧ Hid (v = numOf (s.data.toList.take j)) ∧ Hid ((s.data.toList.take most).takeWhile digitB = s.data.toList.take j ++ ((s.data.toList.drop j).take (most - j)).takeWhile digitB)) (fun _ i => s.size - (intOf i).toNat)
  case atStart => exact ⟨0, 0, by omega, by omega, rfl, rfl, by omega, by omega, Lib.hid (by simp), Lib.hid rfl, Lib.hid (by simp)⟩
  case round =>
    obtain ⟨j, v, hj, hjm, rfl, rfl, hv1, hv2, HV, HN, HD⟩ := hrel
    by_cases hgo : j < most ∧ ∃ hlt : j < s.size, digitB s[j] = true
    · obtain ⟨hlm, hlt, hdg⟩ := hgo
      obtain ⟨c, hc2⟩ : ∃ c, s[j] = c := ⟨_, rfl⟩
      rw [hc2] at hdg
      obtain ⟨d1, d2⟩ : 48 ≤ c.toNat ∧ c.toNat ≤ 57 := of_decide_eq_true hdg
      have HE := Lib.hid (show s.data.toList.drop j = c :: s.data.toList.drop (j + 1) from by
        rw [List.drop_eq_getElem_cons (show j < s.data.toList.length by simpa using hlt)]
        rw [← hc2]
        rfl)
      have HT := Lib.hid (show s.data.toList.take (j + 1) = s.data.toList.take j ++ [c] from by
        rw [List.take_succ_eq_append_getElem (show j < s.data.toList.length by simpa using hlt)]
        rw [← hc2]
        rfl)
      have HG := Lib.hid hdg
      have hp := pow_le12 (j + 1) (by omega)
      have hq : v * 10 + ((c.toNat : Int) - 48) < 10 ^ (j + 1) := by
        have := HV.out
        rw [Int.pow_succ]
        omega
      have hr : v * 10 + ((c.toNat : Int) - 48) ≤ 1000000000000 := by omega
      have HQ := Lib.hid hq
      clear hp hq hdg
      go_wp2_with fail
      refine (digit_any c _).mono ?_
      rw [HG.out]
      rintro e w' ⟨rfl, rfl⟩
      go_wp2_with fail
      go_round
      case rel => exact ⟨j + 1, v * 10 + ((c.toNat : Int) - 48), by omega, by omega, by go_num, by go_num, by omega, hr, HQ, Lib.hid (by rw [HT.out, numOf_snoc, ← HN.out]), Lib.hid (by rw [HD.out, HE.out, HT.out, show most - j = (most - (j + 1)) + 1 from by omega, List.take_succ_cons, List.takeWhile_cons, if_pos HG.out, List.append_assoc]; rfl)⟩
      case measure => simp [intOf]; omega
    · have HK : Hid (digK most st.left = j ∧ digN most st.left = v) := Lib.hid (by
        have e : ((s.data.toList.drop j).take (most - j)).takeWhile digitB = [] := by
          by_cases h1 : j < most
          · by_cases h2 : j < s.size
            · have h3 : ¬ digitB s[j] = true := fun h => hgo ⟨h1, h2, h⟩
              rw [List.drop_eq_getElem_cons (show j < s.data.toList.length by simpa using h2), show most - j = (most - (j + 1)) + 1 from by omega, List.take_succ_cons, List.takeWhile_cons]
              exact if_neg h3
            · rw [List.drop_of_length_le (by rw [HX.out]; omega)]
              simp
          · rw [show most - j = 0 from by omega]
            simp
        have e2 : digK most st.left = j := by
          unfold digK
          rw [← HLS.out, HD.out, e, List.append_nil, List.length_take, HX.out]
          omega
        refine ⟨e2, ?_⟩
        unfold digN
        rw [e2, ← HLS.out, HN.out])
      have HGO := Lib.hid hgo
      clear hgo
      by_cases h1 : j < most
      · by_cases h2 : j < s.size
        · obtain ⟨c, hc2⟩ : ∃ c, s[j] = c := ⟨_, rfl⟩
          have hdf : digitB c = false := by
            have h3 : ¬ digitB s[j] = true := fun h => HGO.out ⟨h1, h2, h⟩
            rw [hc2] at h3
            simpa using h3
          have HF := Lib.hid hdf
          clear hdf
          go_wp2_with fail
          refine (digit_any c _).mono ?_
          rw [HF.out]
          rintro e w' ⟨rfl, rfl⟩
          go_wp2_with fail
          go_ret2
          refine ⟨by rw [HK.out.1, HK.out.2]; rfl, ?_, grown_set _ _ _ _⟩
          rw [HK.out.1, ba_drop, HLS.out]
          exact HR.out.setLeft _
        · have hjs : j = s.size := by omega
          subst hjs
          go_wp2_with fail
          go_ret2
          refine ⟨by rw [HK.out.1, HK.out.2]; rfl, ?_, grown_set _ _ _ _⟩
          rw [HK.out.1]
          have h4 := HR.out.setLeft []
          rw [List.drop_of_length_le (by rw [← HLS.out, HX.out]; omega)]
          exact h4
      · have hjs : j = most := by omega
        subst hjs
        go_wp2_with fail
        go_ret2
        refine ⟨by rw [HK.out.1, HK.out.2]; rfl, ?_, grown_set _ _ _ _⟩
        rw [HK.out.1, ba_drop, HLS.out]
        exact HR.out.setLeft _
end Go.Proofs.YtpjncnoejdaplaaGreatDoor

/- The document's reading: its state, blanks, digits. -/
import Derived.Test.YtpjncnoejdaplaaGreatDoorLAT
import Derived.Test.YtpjncnoejdaplaaGreatDoorLAX
import Derived.LoopTactic
import Derived.BigQuiet
namespace Go.Proofs.YtpjncnoejdaplaaGreatDoor
open Go Go.RowKit Go.Shelf

/-- The document's text on its way. -/
structure Dr where
  s : List UInt8
  bad : Bool
  year : Int
  cent : Int
  two : Int
  late : Bool
  anyY : Bool
  month : Int
  day : Int
  date : Bool
  yday : Int
  hour : Int
  half : Int
  twelv : Bool
  min : Int
  sec : Int
  all : Bool
  at' : Int
def cellsD (r : Dr) : Array Value := #[.string ⟨r.s.toArray⟩, .bool r.bad, .int .i64 r.year, .int .i64 r.cent, .int .i64 r.two, .bool r.late, .bool r.anyY, .int .i64 r.month, .int .i64 r.day, .bool r.date, .int .i64 r.yday, .int .i64 r.hour, .int .i64 r.half, .bool r.twelv, .int .i64 r.min, .int .i64 r.sec, .bool r.all, .int .i64 r.at']
def DrAt (w : World) (rb : Nat) (r : Dr) : Prop := w.heap[rb]? = some (.cells (cellsD r) 75 (0, 0))
theorem DrAt.lt {w : World} {rb : Nat} {r : Dr} (h : DrAt w rb r) : rb < w.heap.size := (Array.getElem?_eq_some_iff.1 h).1
theorem DrAt.cell {w : World} {rb : Nat} {r : Dr} (h : DrAt w rb r) (k : Nat) (u : Value) (hu : (cellsD r)[k]? = some u) : w.cell? ⟨rb, k, none⟩ = some u := by
  unfold DrAt at h
  simp only [World.cell?, h]
  exact hu
theorem DrAt.ice {w : World} {rb : Nat} {r : Dr} (h : DrAt w rb r) (k : Nat) : w.frozen? ⟨rb, k, none⟩ = false := by
  unfold DrAt at h
  simp [World.frozen?, h]
def Dr.left (r : Dr) (l : List UInt8) : Dr := { r with s := l }
def Dr.err (r : Dr) : Dr := { r with bad := true }
theorem DrAt.setS {w : World} {rb : Nat} {r : Dr} (h : DrAt w rb r) (l : List UInt8) : DrAt (w.setCell ⟨rb, 0, none⟩ (.string ⟨l.toArray⟩)) rb (r.left l) := row_setAt h 0 _
theorem DrAt.setBad {w : World} {rb : Nat} {r : Dr} (h : DrAt w rb r) : DrAt (w.setCell ⟨rb, 1, none⟩ (.bool true)) rb r.err := row_setAt h 1 _
/-- What a method of the reading leaves: nothing but its block is other than before. -/
def DrPost (rb : Nat) (w : World) (r' : Dr) (w' : World) : Prop := DrAt w' rb r' ∧ w.grownBy w' (some rb)
theorem rblank_any (c : UInt8) (w : World) : Calls Tryz.prog 84 #[.int .u8 (c.toNat : Int)] w fun e w' => e = .returned (.bool (blankB c)) ∧ w' = w := by
  have h1 := c.toNat_lt
  obtain ⟨n, hn⟩ : ∃ n, c.toNat = n := ⟨_, rfl⟩
  have key : ∀ b : Bool, blankB c = b → ((n = 32 ∨ (9 ≤ n ∧ n ≤ 13)) ↔ b = true) := by
    intro b hb
    rw [← hb]
    unfold blankB
    rw [hn, decide_eq_true_eq]
  obtain ⟨b, hb⟩ : ∃ b, blankB c = b := ⟨_, rfl⟩
  have hk := key b hb
  rw [hb]
  rw [hn] at h1 ⊢
  clear key hb hn
  by_cases a1 : n = 32
  · obtain rfl : b = true := hk.1 (.inl a1)
    subst a1
    clear hk
    go_enter Tryz.func84, Tryz.ntmps84
    go_wp2_with fail
    go_ret
    exact ⟨rfl, rfl⟩
  · have a1' : ((n : Int) == 32) = false := by rw [beq_eq_false_iff_ne]; omega
    by_cases a2 : 9 ≤ n
    · by_cases a3 : n ≤ 13
      · obtain rfl : b = true := hk.1 (.inr ⟨a2, a3⟩)
        have a4 : decide ((n : Int) ≤ 13) = true := decide_eq_true (by omega)
        clear hk a1
        go_enter Tryz.func84, Tryz.ntmps84
        go_wp2_with fail
        go_ret
        refine ⟨ret_boolK ?_, rfl⟩
        simp
        try omega
      · obtain rfl : b = false := by
          cases b
          · rfl
          · have := hk.2 rfl; omega
        have a4 : decide ((n : Int) ≤ 13) = false := decide_eq_false (by omega)
        clear hk a1
        go_enter Tryz.func84, Tryz.ntmps84
        go_wp2_with fail
        go_ret
        refine ⟨ret_boolK ?_, rfl⟩
        simp
        try omega
    · obtain rfl : b = false := by
        cases b
        · rfl
        · have := hk.2 rfl; omega
      have a4 : decide (9 ≤ (n : Int)) = false := decide_eq_false (by omega)
      clear hk a1
      go_enter Tryz.func84, Tryz.ntmps84
      go_wp2_with fail
      go_ret
      refine ⟨ret_boolK ?_, rfl⟩
      simp
      try omega
theorem rsmall_any (c : UInt8) (w : World) : Calls Tryz.prog 151 #[.int .u8 (c.toNat : Int)] w fun e w' => e = .returned (.int .u8 ((caseB false c).toNat : Int)) ∧ w' = w := by
  have h1 := c.toNat_lt
  by_cases h : 65 ≤ c.toNat ∧ c.toNat ≤ 90
  · have e : ((caseB false c).toNat : Int) = (c.toNat : Int) + 32 := by
      unfold caseB
      rw [if_neg (by simp), if_pos h, UInt8.toNat_add]
      show (((c.toNat + 32) % 256 : Nat) : Int) = _
      omega
    rw [e]
    obtain ⟨h2, h3⟩ := h
    clear e
    go_enter Tryz.func151, Tryz.ntmps151
    go_wp2_with fail
    all_goals go_ret
    all_goals exact ⟨rfl, rfl⟩
  · have e : caseB false c = c := by
      unfold caseB
      rw [if_neg (by simp), if_neg h]
    rw [e]
    have h4 : (c.toNat : Int) < 65 ∨ 90 < (c.toNat : Int) := by omega
    clear e h
    go_enter Tryz.func151, Tryz.ntmps151
    rcases h4 with h4 | h4
    all_goals
      go_wp2_with fail
      go_ret
      exact ⟨rfl, rfl⟩
def lenC (v : Option Value) : Nat := match v with
  | some (.string s) => s.size
  | _ => 0
theorem head_byte (c : UInt8) (l : List UInt8) (s : ByteArray) (hs : (⟨(c :: l).toArray⟩ : ByteArray) = s) : 0 < s.size ∧ (∀ h : 0 < s.size, s[0] = c) ∧ s.extract 1 s.size = ⟨l.toArray⟩ := by
  subst hs
  refine ⟨by simp [ByteArray.size], fun h => rfl, ?_⟩
  have h := ba_drop2 (c :: l) 1
  have e : (⟨(c :: l).toArray⟩ : ByteArray).size = (c :: l).length := by simp [ByteArray.size]
  rw [e]
  exact h
set_option maxRecDepth 100000 in
set_option maxHeartbeats 2000000 in
theorem rblanks_any (rb : Nat) (r : Dr) (hl : r.s.length ≤ 70368744177664) (w : World) (h : DrAt w rb r) :
    Calls Tryz.prog 32 #[.pointer (some ⟨rb, 0, none⟩)] w fun e w' => e = .returned (.tuple #[]) ∧ DrPost rb w (r.left (r.s.dropWhile blankB)) w' := by
  have HR := Lib.hid h
  clear h
  go_enter Tryz.func32, Tryz.ntmps32
  go_wp2_with fail
  go_loopw [] (fun W => ∃ l : List UInt8, l.length ≤ 70368744177664 ∧ Hid (l.dropWhile blankB = r.s.dropWhile blankB) ∧ Hid (DrPost rb w (r.left l) W)) (fun W => lenC (W.cell? ⟨rb, 0, none⟩))
  case atStart => exact ⟨r.s, hl, Lib.hid rfl, Lib.hid ⟨HR.out, World.grownBy.refl _ _⟩⟩
  case round =>
    obtain ⟨l, hl, HE, HI⟩ := hrel
    have c0 : wr.cell? ⟨rb, 0, none⟩ = some (.string ⟨l.toArray⟩) := HI.out.1.cell 0 _ rfl
    have z0 := HI.out.1.ice 0
    cases l with
    | nil =>
      go_wp2_with fail
      go_end0
      refine ⟨rfl, ?_⟩
      rw [← HE.out]
      exact HI.out
    | cons c l =>
      obtain ⟨s, hs⟩ : ∃ s : ByteArray, (⟨(c :: l).toArray⟩ : ByteArray) = s := ⟨_, rfl⟩
      obtain ⟨k1, k2, k3⟩ := head_byte c l s hs
      have k4 := k2 k1
      have hsz : s.size = l.length + 1 := by rw [← hs]; simp [ByteArray.size]
      rw [hs] at c0
      have HSZ := Lib.hid hsz
      have HC0 := Lib.hid c0
      rw [List.length_cons] at hl
      have hb1 : s.size ≤ 70368744177664 := by omega
      clear hs k2 hsz
      by_cases hb : blankB c = true
      · go_wp2_with fail
        refine (rblank_any c _).mono ?_
        rw [hb]
        rintro e w1 ⟨rfl, rfl⟩
        go_wp2_with fail
        go_roundw
        case rel => exact ⟨l, by omega, Lib.hid (by rw [← HE.out, List.dropWhile_cons, if_pos hb]), Lib.hid ⟨HI.out.1.setS l, Lib.grownBy_setB HI.out.2 0 _⟩⟩
        case measure =>
          rw [(HI.out.1.setS l).cell 0 _ rfl, HC0.out]
          show (⟨l.toArray⟩ : ByteArray).size < s.size
          rw [HSZ.out]
          simp [ByteArray.size]
      · have hb' : blankB c = false := by simpa using hb
        go_wp2_with fail
        refine (rblank_any c _).mono ?_
        rw [hb']
        rintro e w1 ⟨rfl, rfl⟩
        go_wp2_with fail
        go_end0
        refine ⟨rfl, ?_⟩
        rw [← HE.out, List.dropWhile_cons, if_neg hb]
        exact HI.out
theorem DrAt.below {w w' : World} {rb : Nat} {r : Dr} (h : DrAt w rb r) (hb : Below w.heap.size w w') : DrAt w' rb r := (hb.block rb h.lt).trans h
theorem DrAt.grown {w : World} {rb : Nat} {r : Dr} (h : DrAt w rb r) : DrPost rb w r w := ⟨h, World.grownBy.refl _ _⟩
def byteD (c : UInt8) (r : Dr) : Dr := match r.s with
  | [] => r.err
  | d :: l => if d = c then r.left l else r.err
set_option maxRecDepth 100000 in
set_option maxHeartbeats 2000000 in
theorem rbyte_any (c : UInt8) (rb : Nat) (r : Dr) (hl : r.s.length ≤ 70368744177664) (w : World) (h : DrAt w rb r) :
    Calls Tryz.prog 85 #[.pointer (some ⟨rb, 0, none⟩), .int .u8 (c.toNat : Int)] w fun e w' => e = .returned (.tuple #[]) ∧ DrPost rb w (byteD c r) w' := by
  have HR := Lib.hid h
  have c0 : w.cell? ⟨rb, 0, none⟩ = some (.string ⟨r.s.toArray⟩) := h.cell 0 _ rfl
  have z0 := h.ice 0
  have z1 := h.ice 1
  have c1 : w.cell? ⟨rb, 1, none⟩ = some (.bool r.bad) := h.cell 1 _ rfl
  clear h
  cases hr : r.s with
  | nil =>
    have HB := Lib.hid (show byteD c r = r.err from by unfold byteD; rw [hr])
    rw [hr] at c0
    clear hr hl
    go_enter Tryz.func85, Tryz.ntmps85
    go_wp2_with fail
    refine bodyPost_ret (results_none rfl _ _ _) rfl ?_
    rw [HB.out]
    exact ⟨rfl, HR.out.setBad, grown_set _ _ _ _⟩
  | cons d l =>
    have HB := Lib.hid (show byteD c r = if d = c then r.left l else r.err from by unfold byteD; rw [hr])
    rw [hr] at c0 hl
    obtain ⟨s, hs⟩ : ∃ s : ByteArray, (⟨(d :: l).toArray⟩ : ByteArray) = s := ⟨_, rfl⟩
    obtain ⟨k1, k2, k3⟩ := head_byte d l s hs
    have k4 := k2 k1
    have hsz : s.size = l.length + 1 := by rw [← hs]; simp [ByteArray.size]
    rw [hs] at c0
    rw [List.length_cons] at hl
    have hb1 : s.size ≤ 70368744177664 := by omega
    clear hs k2 hsz hr
    by_cases hd : d = c
    · subst hd
      have hz : ((s.size : Int) == 0) = false := by rw [beq_eq_false_iff_ne]; omega
      have hd' : ((d.toNat : Int) != (d.toNat : Int)) = false := by simp
      go_enter Tryz.func85, Tryz.ntmps85
      go_wp2_with fail
      go_end0
      rw [HB.out, if_pos trivial]
      exact ⟨rfl, HR.out.setS l, grown_set _ _ _ _⟩
    · have hd' : ((d.toNat : Int) == (c.toNat : Int)) = false := by
        rw [beq_eq_false_iff_ne]
        intro e
        exact hd (UInt8.toNat_inj.1 (by omega))
      have hz : ((s.size : Int) == 0) = false := by rw [beq_eq_false_iff_ne]; omega
      have hd'' : ((d.toNat : Int) != (c.toNat : Int)) = true := by
        unfold bne
        rw [hd']
        rfl
      clear hd'
      go_enter Tryz.func85, Tryz.ntmps85
      go_wp2_with fail
      refine bodyPost_ret (results_none rfl _ _ _) rfl ?_
      rw [HB.out, if_neg hd]
      exact ⟨rfl, HR.out.setBad, grown_set _ _ _ _⟩
theorem dig_at (most : Nat) (l : List UInt8) (k : Nat) (h : k < digK most l) : k < most ∧ ∃ h : k < l.length, digitB l[k] = true := by
  unfold digK at h
  have h1 : (l.take most).takeWhile digitB <+: l.take most := List.takeWhile_prefix _
  have hlen := h1.length_le
  rw [List.length_take] at hlen
  have hk : k < l.length := by omega
  refine ⟨by omega, hk, ?_⟩
  have e : ((l.take most).takeWhile digitB)[k] = l[k] := by
    have e2 := List.IsPrefix.getElem h1 h
    rw [e2, List.getElem_take]
  rw [← e]
  exact all_dig digitB _ _ (List.getElem_mem _)
theorem dig_stop (most : Nat) (l : List UInt8) : digK most l = most ∨ digK most l = l.length ∨ ∃ h : digK most l < l.length, digitB l[digK most l] = false := by
  have key : ∀ (m : List UInt8), (m.takeWhile digitB).length = m.length ∨ ∃ h : (m.takeWhile digitB).length < m.length, digitB m[(m.takeWhile digitB).length] = false := by
    intro m
    induction m with
    | nil => exact .inl rfl
    | cons c m ih =>
      by_cases hc : digitB c = true
      · rw [List.takeWhile_cons, if_pos hc]
        rcases ih with h | ⟨h, h2⟩
        · left; simp [h]
        · right
          exact ⟨by simpa using h, by simpa using h2⟩
      · right
        rw [List.takeWhile_cons, if_neg hc]
        exact ⟨by simp, by simpa using hc⟩
  unfold digK
  rcases key (l.take most) with h | ⟨h, h2⟩
  · rw [h, List.length_take]
    omega
  · have h3 : ((l.take most).takeWhile digitB).length < l.length := by rw [List.length_take] at h; omega
    right; right
    exact ⟨h3, by rw [List.getElem_take] at h2; exact h2⟩
theorem numOf_step (l : List UInt8) (k : Nat) (h : k < l.length) : numOf (l.take (k + 1)) = numOf (l.take k) * 10 + ((l[k].toNat : Int) - 48) := by
  rw [List.take_succ_eq_append_getElem h]
  unfold numOf
  rw [List.foldl_append]
  rfl
theorem numOf_bd (most : Nat) (hm : most ≤ 12) (l : List UInt8) (k : Nat) (h : k ≤ digK most l) : 0 ≤ numOf (l.take k) ∧ numOf (l.take k) ≤ 1000000000000 := by
  have hk := digK_le most l
  have hb := fold_bd (l.take k) 0 0 (fun c hc => by
    obtain ⟨j, hj, rfl⟩ := List.mem_iff_getElem.1 hc
    rw [List.length_take] at hj
    rw [List.getElem_take]
    exact (dig_at most l j (by omega)).2.choose_spec) (by omega) (by simp)
  have hp := pow_le12 (l.take k).length (by rw [List.length_take]; omega)
  rw [Nat.zero_add] at hb
  unfold numOf
  omega
set_option maxRecDepth 100000 in
set_option maxHeartbeats 4000000 in
theorem rdigits_any (most : Nat) (hm : most ≤ 12) (rb : Nat) (r : Dr) (hl : r.s.length ≤ 70368744177664) (w : World) (h : DrAt w rb r) :
    Calls Tryz.prog 170 #[.pointer (some ⟨rb, 0, none⟩), .int .i64 most] w fun e w' => e = .returned (.tuple #[.int .i64 (digN most r.s), .bool (decide (0 < digK most r.s))]) ∧ DrPost rb w (r.left (r.s.drop (digK most r.s))) w' := by
  have HR := Lib.hid h
  have c0 : w.cell? ⟨rb, 0, none⟩ = some (.string ⟨r.s.toArray⟩) := h.cell 0 _ rfl
  have z0 := h.ice 0
  clear h
  obtain ⟨l, hls⟩ : ∃ l, r.s = l := ⟨_, rfl⟩
  rw [hls] at c0 hl ⊢
  obtain ⟨s, hs⟩ : ∃ s : ByteArray, (⟨l.toArray⟩ : ByteArray) = s := ⟨_, rfl⟩
  rw [hs] at c0
  have hsl : s.size = l.length := by rw [← hs]; simp [ByteArray.size]
  have HSL := Lib.hid hsl
  have HAT : Hid (∀ (k : Nat) (h : k < l.length) (h' : k < s.size), s[k] = l[k]) := Lib.hid (fun k h h' => by subst hs; rfl)
  have HDR : Hid (∀ k, s.extract k s.size = ⟨(l.drop k).toArray⟩) := Lib.hid (fun k => by rw [hsl, ← hs]; exact ba_drop2 l k)
  have hb1 : s.size ≤ 70368744177664 := by omega
  obtain ⟨K, hK⟩ : ∃ K, digK most l = K := ⟨_, rfl⟩
  have hKm := digK_le most l
  rw [hK] at hKm
  have HK := Lib.hid hK
  have HN := Lib.hid (show digN most l = numOf (l.take K) from by unfold digN; rw [hK])
  clear hs hls hsl hK
  go_enter Tryz.func170, Tryz.ntmps170
  go_wp2_with fail
  go_loopw [6, 7] (fun N I W => ∃ k : Nat, I = .int .i64 k ∧ N = .int .i64 (numOf (l.take k)) ∧ k ≤ K ∧ W = w) (fun _ I _ => K - (intOf I).toNat)
  case atStart => exact ⟨0, rfl, rfl, Nat.zero_le _, rfl⟩
  case round =>
    obtain ⟨k, rfl, rfl, hk, rfl⟩ := hrel
    have hnb := numOf_bd most hm l k (by rw [HK.out]; exact hk)
    obtain ⟨n, hn⟩ : ∃ n, numOf (l.take k) = n := ⟨_, rfl⟩
    rw [hn] at hnb ⊢
    have HNN := Lib.hid hn
    clear hn
    by_cases hkK : k < K
    · obtain ⟨q1, q2, q3⟩ := dig_at most l k (by rw [HK.out]; exact hkK)
      obtain ⟨c, hc⟩ : ∃ c, l[k] = c := ⟨_, rfl⟩
      rw [hc] at q3
      have q4 : k < s.size := by rw [HSL.out]; exact q2
      have q5 : s[k] = c := by rw [HAT.out k q2 q4, hc]
      obtain ⟨q6, q7⟩ : 48 ≤ c.toNat ∧ c.toNat ≤ 57 := by unfold digitB at q3; simpa using q3
      have HST := Lib.hid (numOf_step l k q2)
      rw [hc, HNN.out] at HST
      clear q3 hc q2
      go_wp2_with fail
      go_roundw
      case rel =>
        refine ⟨k + 1, by go_num, ?_, by omega, trivial⟩
        rw [HST.out, Int.mul_comm]
      case measure =>
        show K - ((k : Int) + 1).toNat < K - ((k : Int)).toNat
        omega
    · obtain rfl : k = K := by omega
      have hst := dig_stop most l
      rw [HK.out] at hst
      have e4 : k ≤ s.size := by rw [HSL.out]; exact hKm.1
      by_cases e1 : k = most
      · subst e1
        clear hst
        go_wp2_with fail
        go_ret2
        rw [HN.out, HK.out, HNN.out, HDR.out]
        refine ⟨?_, HR.out.setS _, grown_set _ _ _ _⟩
        simp
      · by_cases e2 : k = l.length
        · have e3 : s.size ≤ k := by rw [HSL.out]; omega
          clear e2 hst
          go_wp2_with fail
          go_ret2
          rw [HN.out, HK.out, HNN.out, HDR.out]
          refine ⟨?_, HR.out.setS _, grown_set _ _ _ _⟩
          simp
        · obtain ⟨h1, h2⟩ : ∃ h : k < l.length, digitB l[k] = false := by
            rcases hst with h | h | h
            · exact absurd h e1
            · exact absurd h e2
            · exact h
          have q4 : k < s.size := by rw [HSL.out]; exact h1
          obtain ⟨c, hc⟩ : ∃ c, l[k] = c := ⟨_, rfl⟩
          rw [hc] at h2
          have q5 : s[k] = c := by rw [HAT.out k h1 q4, hc]
          have q6 : c.toNat < 48 ∨ (48 ≤ c.toNat ∧ 57 < c.toNat) := by
            unfold digitB at h2
            simp at h2
            omega
          have q8 : k < most := by omega
          have q9 := c.toNat_lt
          clear hst hc h2 h1 e1 e2
          rcases q6 with q6 | ⟨q6, q7⟩
          all_goals
            go_wp2_with fail
            go_ret2
            rw [HN.out, HK.out, HNN.out, HDR.out]
            refine ⟨?_, HR.out.setS _, grown_set _ _ _ _⟩
            simp
end Go.Proofs.YtpjncnoejdaplaaGreatDoor
namespace Go.Proofs.YtpjncnoejdaplaaGreatDoor
open Go Go.RowKit Go.Shelf

theorem DrPost.trans {rb : Nat} {w w1 w2 : World} {r1 r2 : Dr} (h : DrPost rb w r1 w1) (h2 : DrPost rb w1 r2 w2) : DrPost rb w r2 w2 := ⟨h2.1, Lib.grownBy_trans h.2 h2.2⟩
theorem DrPost.setS {rb : Nat} {w w1 : World} {r : Dr} (h : DrPost rb w r w1) (l : List UInt8) : DrPost rb w (r.left l) (w1.setCell ⟨rb, 0, none⟩ (.string ⟨l.toArray⟩)) := ⟨h.1.setS l, Lib.grownBy_setB h.2 0 _⟩
theorem DrPost.setBad {rb : Nat} {w w1 : World} {r : Dr} (h : DrPost rb w r w1) : DrPost rb w r.err (w1.setCell ⟨rb, 1, none⟩ (.bool true)) := ⟨h.1.setBad, Lib.grownBy_setB h.2 1 _⟩
theorem drop_len {p : UInt8 → Bool} (l : List UInt8) : (l.dropWhile p).length ≤ l.length := by
  have := List.takeWhile_append_dropWhile (p := p) (l := l)
  have h := congrArg List.length this
  rw [List.length_append] at h
  omega
def numD (most : Nat) (low high : Int) (r : Dr) : Int × Dr :=
  if 0 < digK most (r.s.dropWhile blankB) ∧ low ≤ digN most (r.s.dropWhile blankB) ∧ digN most (r.s.dropWhile blankB) ≤ high then (digN most (r.s.dropWhile blankB), r.left ((r.s.dropWhile blankB).drop (digK most (r.s.dropWhile blankB))))
  else (low, (r.left ((r.s.dropWhile blankB).drop (digK most (r.s.dropWhile blankB)))).err)
set_option maxRecDepth 100000 in
set_option maxHeartbeats 4000000 in
theorem rnumber_any (most : Nat) (hm : most ≤ 12) (low high : Int) (rb : Nat) (r : Dr) (hl : r.s.length ≤ 70368744177664) (w : World) (h : DrAt w rb r) :
    Calls Tryz.prog 147 #[.pointer (some ⟨rb, 0, none⟩), .int .i64 most, .int .i64 low, .int .i64 high] w fun e w' => e = .returned (.int .i64 (numD most low high r).1) ∧ DrPost rb w (numD most low high r).2 w' := by
  have hl2 := drop_len (p := blankB) r.s
  have HV : Hid (numD most low high r = if 0 < digK most (r.s.dropWhile blankB) ∧ low ≤ digN most (r.s.dropWhile blankB) ∧ digN most (r.s.dropWhile blankB) ≤ high then (digN most (r.s.dropWhile blankB), r.left ((r.s.dropWhile blankB).drop (digK most (r.s.dropWhile blankB))))
    else (low, (r.left ((r.s.dropWhile blankB).drop (digK most (r.s.dropWhile blankB)))).err)) := Lib.hid rfl
  have HR := Lib.hid h
  clear h
  go_enter Tryz.func147, Tryz.ntmps147
  go_wp2_with fail
  refine (rblanks_any rb r hl _ HR.out).mono ?_
  obtain ⟨l, hl3⟩ : ∃ l, r.s.dropWhile blankB = l := ⟨_, rfl⟩
  rw [hl3] at HV hl2 ⊢
  rintro e w1 ⟨rfl, h1⟩
  have H1 := Lib.hid h1
  clear h1 hl3
  go_wp2_with fail
  refine (rdigits_any most hm rb (r.left l) (by show l.length ≤ _; omega) _ H1.out.1).mono ?_
  rw [show (r.left l).s = l from rfl]
  rintro e w2 ⟨rfl, h2⟩
  change DrPost rb w1 (r.left (l.drop (digK most l))) w2 at h2
  have z1 := h2.1.ice 1
  have c1 : w2.cell? ⟨rb, 1, none⟩ = some (.bool r.bad) := h2.1.cell 1 _ rfl
  obtain ⟨k, hk⟩ : ∃ k, digK most l = k := ⟨_, rfl⟩
  obtain ⟨n, hn⟩ : ∃ n, digN most l = n := ⟨_, rfl⟩
  rw [hk] at h2 HV ⊢
  rw [hn] at HV ⊢
  have H2 := Lib.hid (H1.out.trans h2)
  clear h2 hk hn
  by_cases a1 : 0 < k
  · have a1' : decide (0 < k) = true := decide_eq_true a1
    rw [a1']
    clear a1'
    by_cases a2 : low ≤ n
    · by_cases a3 : n ≤ high
      · have e := HV.out
        rw [if_pos ⟨a1, a2, a3⟩] at e
        have HE := Lib.hid e
        clear e a1
        go_wp2_with fail
        go_ret
        rw [HE.out]
        exact ⟨rfl, H2.out⟩
      · have e := HV.out
        rw [if_neg (fun h => a3 h.2.2)] at e
        have HE := Lib.hid e
        clear e a1
        go_wp2_with fail
        go_ret
        rw [HE.out]
        exact ⟨rfl, H2.out.setBad⟩
    · have e := HV.out
      rw [if_neg (fun h => a2 h.2.1)] at e
      have HE := Lib.hid e
      clear e a1
      go_wp2_with fail
      go_ret
      rw [HE.out]
      exact ⟨rfl, H2.out.setBad⟩
  · have a1' : decide (0 < k) = false := decide_eq_false a1
    rw [a1']
    have e := HV.out
    rw [if_neg (fun h => a1 h.1)] at e
    have HE := Lib.hid e
    clear e a1 a1'
    go_wp2_with fail
    go_ret
    rw [HE.out]
    exact ⟨rfl, H2.out.setBad⟩
def pairD (r : Dr) : Dr := match r.s with
  | a :: b :: l => if digitB a = true ∧ digitB b = true then r.left l else r.err
  | _ => r.err
theorem two_bytes (a b : UInt8) (l : List UInt8) (s : ByteArray) (hs : (⟨(a :: b :: l).toArray⟩ : ByteArray) = s) : s.size = l.length + 2 ∧ (∀ h : 0 < s.size, s[0] = a) ∧ (∀ h : 1 < s.size, s[1] = b) ∧ s.extract 2 s.size = ⟨l.toArray⟩ := by
  subst hs
  refine ⟨by simp [ByteArray.size], fun h => rfl, fun h => rfl, ?_⟩
  have h := ba_drop2 (a :: b :: l) 2
  have e : (⟨(a :: b :: l).toArray⟩ : ByteArray).size = (a :: b :: l).length := by simp [ByteArray.size]
  rw [e]
  exact h
theorem digit_cases (a : UInt8) : (digitB a = true ∧ 48 ≤ a.toNat ∧ a.toNat ≤ 57) ∨ (digitB a = false ∧ a.toNat < 48) ∨ (digitB a = false ∧ 48 ≤ a.toNat ∧ 57 < a.toNat) := by
  unfold digitB
  simp
  omega
set_option maxRecDepth 100000 in
set_option maxHeartbeats 4000000 in
theorem rpair_any (rb : Nat) (r : Dr) (hl : r.s.length ≤ 70368744177664) (w : World) (h : DrAt w rb r) :
    Calls Tryz.prog 172 #[.pointer (some ⟨rb, 0, none⟩)] w fun e w' => e = .returned (.tuple #[]) ∧ DrPost rb w (pairD r) w' := by
  have HR := Lib.hid h.grown
  have c0 : w.cell? ⟨rb, 0, none⟩ = some (.string ⟨r.s.toArray⟩) := h.cell 0 _ rfl
  have z0 := h.ice 0
  have z1 := h.ice 1
  have c1 : w.cell? ⟨rb, 1, none⟩ = some (.bool r.bad) := h.cell 1 _ rfl
  clear h
  rcases hr : r.s with _ | ⟨a, _ | ⟨b, l⟩⟩
  · have HB := Lib.hid (show pairD r = r.err from by unfold pairD; rw [hr])
    rw [hr] at c0
    clear hr hl
    go_enter Tryz.func172, Tryz.ntmps172
    go_wp2_with fail
    refine bodyPost_ret (results_none rfl _ _ _) rfl ?_
    rw [HB.out]
    exact ⟨rfl, HR.out.setBad⟩
  · have HB := Lib.hid (show pairD r = r.err from by unfold pairD; rw [hr])
    rw [hr] at c0
    obtain ⟨s, hs⟩ : ∃ s : ByteArray, (⟨[a].toArray⟩ : ByteArray) = s := ⟨_, rfl⟩
    have hz : (s.size : Int) < 2 := by rw [← hs]; simp [ByteArray.size]
    have hz2 := s.size
    rw [hs] at c0
    clear hr hl hs
    go_enter Tryz.func172, Tryz.ntmps172
    go_wp2_with fail
    refine bodyPost_ret (results_none rfl _ _ _) rfl ?_
    rw [HB.out]
    exact ⟨rfl, HR.out.setBad⟩
  · have HB := Lib.hid (show pairD r = if digitB a = true ∧ digitB b = true then r.left l else r.err from by unfold pairD; rw [hr])
    rw [hr] at c0 hl
    obtain ⟨s, hs⟩ : ∃ s : ByteArray, (⟨(a :: b :: l).toArray⟩ : ByteArray) = s := ⟨_, rfl⟩
    obtain ⟨k1, k2, k3, k4⟩ := two_bytes a b l s hs
    have hz1 : 0 < s.size := by omega
    have hz2 : 1 < s.size := by omega
    have k5 := k2 hz1
    have k6 := k3 hz2
    rw [hs] at c0
    have hb1 : s.size ≤ 70368744177664 := by rw [List.length_cons, List.length_cons] at hl; omega
    have hz : ¬ (s.size : Int) < 2 := by omega
    have hz4 : 2 ≤ s.size := by omega
    clear hs k1 k2 k3 hr hl
    go_enter Tryz.func172, Tryz.ntmps172
    rcases digit_cases a with ⟨d1, a1, a2⟩ | ⟨d1, a1⟩ | ⟨d1, a1, a2⟩
    · rcases digit_cases b with ⟨e1, b1, b2⟩ | ⟨e1, b1⟩ | ⟨e1, b1, b2⟩
      · rw [if_pos ⟨d1, e1⟩] at HB
        clear d1 e1
        go_wp2_with fail
        go_end0
        rw [HB.out]
        exact ⟨rfl, HR.out.setS l⟩
      all_goals
        rw [if_neg (fun h => Bool.noConfusion (e1.symm.trans h.2))] at HB
        clear d1 e1
        go_wp2_with fail
        refine bodyPost_ret (results_none rfl _ _ _) rfl ?_
        rw [HB.out]
        exact ⟨rfl, HR.out.setBad⟩
    all_goals
      rw [if_neg (fun h => Bool.noConfusion (d1.symm.trans h.1))] at HB
      clear d1
      go_wp2_with fail
      refine bodyPost_ret (results_none rfl _ _ _) rfl ?_
      rw [HB.out]
      exact ⟨rfl, HR.out.setBad⟩
end Go.Proofs.YtpjncnoejdaplaaGreatDoor
namespace Go.Proofs.YtpjncnoejdaplaaGreatDoor
open Go Go.RowKit Go.Shelf

theorem DrPost.below {rb : Nat} {w w1 w2 : World} {r : Dr} (h : DrPost rb w r w1) (hb : Below w1.heap.size w1 w2) : DrPost rb w r w2 := ⟨h.1.below hb, h.2.andBelow' hb⟩
/-- Does a word stand there, letters of either case. -/
def begB (wd l : List UInt8) : Bool := decide (wd.length ≤ l.length ∧ (l.take wd.length).map (caseB false) = wd.map (caseB false))
theorem beg_step (f : UInt8 → UInt8) (l wd : List UInt8) (k : Nat) (h1 : k < l.length) (h2 : k < wd.length) (h : (l.take k).map f = (wd.take k).map f) (he : f l[k] = f wd[k]) : (l.take (k + 1)).map f = (wd.take (k + 1)).map f := by
  rw [List.take_succ_eq_append_getElem h1, List.take_succ_eq_append_getElem h2, List.map_append, List.map_append, h, List.map_singleton, List.map_singleton, he]
theorem beg_no (l wd : List UInt8) (k : Nat) (h1 : k < l.length) (h2 : k < wd.length) (he : caseB false l[k] ≠ caseB false wd[k]) : begB wd l = false := by
  unfold begB
  rw [decide_eq_false_iff_not]
  rintro ⟨a, b⟩
  apply he
  have e1 : ((l.take wd.length).map (caseB false))[k]? = some (caseB false l[k]) := by simp [h1, h2]
  have e2 : (wd.map (caseB false))[k]? = some (caseB false wd[k]) := by simp [h2]
  rw [b, e2] at e1
  exact (Option.some.inj e1).symm
set_option maxRecDepth 100000 in
set_option maxHeartbeats 1000000 in
theorem rbegins_any (wd : ByteArray) (hwd : wd.size ≤ 70368744177664) (rb : Nat) (r : Dr) (hl : r.s.length ≤ 70368744177664) (w : World) (h : DrAt w rb r) :
    Calls Tryz.prog 171 #[.pointer (some ⟨rb, 0, none⟩), .string wd] w fun e w' => e = .returned (.bool (begB wd.data.toList r.s)) ∧ DrPost rb w r w' := by
  have HR := Lib.hid h.grown
  have c0 : w.cell? ⟨rb, 0, none⟩ = some (.string ⟨r.s.toArray⟩) := h.cell 0 _ rfl
  obtain ⟨l, hls⟩ : ∃ l, r.s = l := ⟨_, rfl⟩
  rw [hls] at c0 hl ⊢
  obtain ⟨s, hs⟩ : ∃ s : ByteArray, (⟨l.toArray⟩ : ByteArray) = s := ⟨_, rfl⟩
  rw [hs] at c0
  have hsl : s.size = l.length := by rw [← hs]; simp [ByteArray.size]
  have HC : Hid (∀ W, DrPost rb w r W → W.cell? ⟨rb, 0, none⟩ = some (.string s)) := Lib.hid (fun W hW => by rw [← hs, ← hls]; exact hW.1.cell 0 _ rfl)
  have HAT : Hid (∀ (k : Nat) (h : k < l.length) (h' : k < s.size), s[k] = l[k]) := Lib.hid (fun k h h' => by subst hs; rfl)
  have HSL := Lib.hid hsl
  have hb1 : s.size ≤ 70368744177664 := by omega
  obtain ⟨v, hv⟩ : ∃ v, wd.data.toList = v := ⟨_, rfl⟩
  rw [hv]
  have hvl : wd.size = v.length := by rw [← hv, Array.length_toList]; rfl
  have HVL := Lib.hid hvl
  have HVT : Hid (∀ (k : Nat) (h : k < v.length) (h' : k < wd.size), wd[k] = v[k]) := Lib.hid (fun k h h' => by subst hv; rfl)
  clear hs hls hsl hv hvl h
  by_cases hlt : s.size < wd.size
  · have HB : Hid (begB v l = false) := Lib.hid (by unfold begB; rw [decide_eq_false_iff_not]; rintro ⟨a, -⟩; have := HSL.out; have := HVL.out; omega)
    go_enter Tryz.func171, Tryz.ntmps171
    go_wp2_with fail
    go_ret
    rw [HB.out]
    exact ⟨rfl, HR.out⟩
  · have HLE : Hid (v.length ≤ l.length) := Lib.hid (by have := HSL.out; have := HVL.out; omega)
    go_enter Tryz.func171, Tryz.ntmps171
    go_wp2_with fail
    clear c0
    go_loopw [5] (fun I W => ∃ k : Nat, I = .int .i64 k ∧ k ≤ wd.size ∧ Hid ((l.take k).map (caseB false) = (v.take k).map (caseB false)) ∧ Hid (DrPost rb w r W)) (fun I _ => wd.size - (intOf I).toNat)
    case atStart => exact ⟨0, rfl, Nat.zero_le _, Lib.hid rfl, HR⟩
    case round =>
      obtain ⟨k, rfl, hk, HE, HI⟩ := hrel
      have c0 := HC.out _ HI.out
      by_cases hkK : k < wd.size
      · have q1 : k < s.size := by omega
        obtain ⟨c, hc⟩ : ∃ c, s[k] = c := ⟨_, rfl⟩
        obtain ⟨d, hd⟩ : ∃ d, wd[k] = d := ⟨_, rfl⟩
        have HC1 : Hid (∃ h : k < l.length, l[k] = c) := Lib.hid ⟨by rw [← HSL.out]; exact q1, by rw [← HAT.out k _ q1, hc]⟩
        have HD1 : Hid (∃ h : k < v.length, v[k] = d) := Lib.hid ⟨by rw [← HVL.out]; exact hkK, by rw [← HVT.out k _ hkK, hd]⟩
        have HS := Lib.hid rsmall_any
        have i1 : (k : Int) < (s.size : Int) := by omega
        have i2 : (k : Int) < (wd.size : Int) := by omega
        go_wp2_with fail
        go_quiet ((go_at_call 151; exact Calls.quiet_of_same (HS.out _ _)))
        have HP : Hid (DrPost rb w r (wr.drewN nq)) := Lib.hid (HI.out.below (below_drewN (Below.refl _ _) _))
        by_cases ht : caseB false c = caseB false d
        · have ht2 : (((caseB false c).toNat : Int) != ((caseB false d).toNat : Int)) = false := by rw [ht]; simp
          have HE2 : Hid ((l.take (k + 1)).map (caseB false) = (v.take (k + 1)).map (caseB false)) := Lib.hid (by
            obtain ⟨x1, x2⟩ := HC1.out
            obtain ⟨y1, y2⟩ := HD1.out
            exact beg_step _ _ _ _ x1 y1 HE.out (by rw [x2, y2, ht]))
          clear ht
          go_wp2_with fail
          go_roundw
          case rel => exact ⟨k + 1, by go_num, by omega, HE2, HP⟩
          case measure =>
            show wd.size - ((k : Int) + 1).toNat < wd.size - ((k : Int)).toNat
            omega
        · have ht2 : (((caseB false c).toNat : Int) != ((caseB false d).toNat : Int)) = true := by
            rw [bne_iff_ne]
            intro e
            exact ht (UInt8.toNat_inj.1 (by omega))
          have HN : Hid (begB v l = false) := Lib.hid (by
            obtain ⟨x1, x2⟩ := HC1.out
            obtain ⟨y1, y2⟩ := HD1.out
            exact beg_no _ _ _ x1 y1 (by rw [x2, y2]; exact ht))
          clear ht
          go_wp2_with fail
          go_ret
          rw [HN.out]
          exact ⟨rfl, HP.out⟩
      · obtain rfl : k = wd.size := by omega
        go_wp2_with fail
        go_ret
        refine ⟨?_, HI.out⟩
        have hb : begB v l = true := by
          unfold begB
          rw [decide_eq_true_eq]
          refine ⟨HLE.out, ?_⟩
          have := HE.out
          rw [HVL.out, List.take_length] at this
          exact this
        rw [hb]
        rfl
end Go.Proofs.YtpjncnoejdaplaaGreatDoor
namespace Go.Proofs.YtpjncnoejdaplaaGreatDoor
open Go Go.RowKit Go.Shelf

theorem begB_len {wd l : List UInt8} (h : begB wd l = true) : wd.length ≤ l.length := by
  unfold begB at h
  exact (of_decide_eq_true h).1
def Dr.halved (r : Dr) (x : Int) : Dr := { r with half := x }
theorem DrPost.setHalf {rb : Nat} {w w1 : World} {r : Dr} (h : DrPost rb w r w1) (x : Int) : DrPost rb w (r.halved x) (w1.setCell ⟨rb, 12, none⟩ (.int .i64 x)) := ⟨row_setAt h.1 12 _, Lib.grownBy_setB h.2 12 _⟩
def halfD (r : Dr) : Dr := if begB [97, 109] r.s = true then (r.halved 1).left (r.s.drop 2) else if begB [112, 109] r.s = true then (r.halved 2).left (r.s.drop 2) else r.err
set_option maxRecDepth 100000 in
set_option maxHeartbeats 4000000 in
theorem rhalf_any (rb : Nat) (r : Dr) (hl : r.s.length ≤ 70368744177664) (w : World) (h : DrAt w rb r) :
    Calls Tryz.prog 150 #[.pointer (some ⟨rb, 0, none⟩)] w fun e w' => e = .returned (.tuple #[]) ∧ DrPost rb w (halfD r) w' := by
  have HR := Lib.hid h
  clear h
  obtain ⟨l, hls⟩ : ∃ l, r.s = l := ⟨_, rfl⟩
  have HB := Lib.hid (show halfD r = if begB [97, 109] l = true then (r.halved 1).left (l.drop 2) else if begB [112, 109] l = true then (r.halved 2).left (l.drop 2) else r.err from by unfold halfD; rw [hls])
  obtain ⟨s, hs⟩ : ∃ s : ByteArray, (⟨l.toArray⟩ : ByteArray) = s := ⟨_, rfl⟩
  have HC : Hid (∀ W, DrPost rb w r W → W.cell? ⟨rb, 0, none⟩ = some (.string s)) := Lib.hid (fun W hW => by rw [← hs, ← hls]; exact hW.1.cell 0 _ rfl)
  have hsl : s.size = l.length := by rw [← hs]; simp [ByteArray.size]
  have hb1 : s.size ≤ 70368744177664 := by rw [hsl, ← hls]; exact hl
  have HDR : Hid (2 ≤ s.size → s.extract 2 s.size = ⟨(l.drop 2).toArray⟩) := Lib.hid (fun _ => by rw [hsl, ← hs]; exact ba_drop2 l 2)
  have HSL := Lib.hid hsl
  have HQ : Hid (∀ (wd : ByteArray), wd.size ≤ 70368744177664 → ∀ W, DrAt W rb r → Calls Tryz.prog 171 #[.pointer (some ⟨rb, 0, none⟩), .string wd] W fun e w' => e = .returned (.bool (begB wd.data.toList l)) ∧ DrPost rb W r w') := Lib.hid (fun wd hwd W hW => by rw [← hls]; exact rbegins_any wd hwd rb r hl W hW)
  clear hls hs hsl hl
  go_enter Tryz.func150, Tryz.ntmps150
  go_wp2_with fail
  refine (HQ.out ⟨#[97, 109]⟩ (by decide) _ HR.out).mono ?_
  rw [show (⟨#[97, 109]⟩ : ByteArray).data.toList = [97, 109] from rfl]
  cases hb : begB [97, 109] l with
  | true =>
    rw [hb, if_pos rfl] at HB
    have hz2 : 2 ≤ s.size := by rw [HSL.out]; exact begB_len hb
    have hz3 := HDR.out hz2
    clear hb
    rintro e w1 ⟨rfl, h1⟩
    have H1 := Lib.hid h1
    have c0 := HC.out _ h1
    have z0 := h1.1.ice 0
    have z12 := h1.1.ice 12
    have c12 : w1.cell? ⟨rb, 12, none⟩ = some (.int .i64 r.half) := h1.1.cell 12 _ rfl
    clear h1
    go_wp2_with fail
    go_end0
    rw [HB.out]
    exact ⟨rfl, (H1.out.setHalf 1).setS _⟩
  | false =>
    rw [hb, if_neg Bool.false_ne_true] at HB
    clear hb
    rintro e w1 ⟨rfl, h1⟩
    have H1 := Lib.hid h1
    clear h1
    go_wp2_with fail
    refine (HQ.out ⟨#[112, 109]⟩ (by decide) _ H1.out.1).mono ?_
    rw [show (⟨#[112, 109]⟩ : ByteArray).data.toList = [112, 109] from rfl]
    cases hb : begB [112, 109] l with
    | true =>
      rw [hb, if_pos rfl] at HB
      have hz2 : 2 ≤ s.size := by rw [HSL.out]; exact begB_len hb
      have hz3 := HDR.out hz2
      clear hb
      rintro e w2 ⟨rfl, h2⟩
      have H2 := Lib.hid (H1.out.trans h2)
      have c0 := HC.out _ H2.out
      have z0 := h2.1.ice 0
      have z12 := h2.1.ice 12
      have c12 : w2.cell? ⟨rb, 12, none⟩ = some (.int .i64 r.half) := h2.1.cell 12 _ rfl
      clear h2
      go_wp2_with fail
      go_end0
      rw [HB.out]
      exact ⟨rfl, (H2.out.setHalf 2).setS _⟩
    | false =>
      rw [hb, if_neg Bool.false_ne_true] at HB
      clear hb
      rintro e w2 ⟨rfl, h2⟩
      have H2 := Lib.hid (H1.out.trans h2)
      have z1 := h2.1.ice 1
      have c1 : w2.cell? ⟨rb, 1, none⟩ = some (.bool r.bad) := h2.1.cell 1 _ rfl
      clear h2
      go_wp2_with fail
      refine bodyPost_ret (results_none rfl _ _ _) rfl ?_
      rw [HB.out]
      exact ⟨rfl, H2.out.setBad⟩
theorem pairD_len (r : Dr) : (pairD r).s.length ≤ r.s.length := by
  unfold pairD
  split
  · next a b l e =>
    split
    · show l.length ≤ _
      rw [e, List.length_cons, List.length_cons]
      omega
    · exact Nat.le_refl _
  · exact Nat.le_refl _
def colonD (r : Dr) : Dr := if r.s.head? = some 58 then r.left r.s.tail else r
def zoneD (r : Dr) : Dr :=
  if (r.s.dropWhile blankB).head? = some 90 then r.left (r.s.dropWhile blankB).tail
  else if (r.s.dropWhile blankB).head? = some 43 ∨ (r.s.dropWhile blankB).head? = some 45 then pairD (colonD (pairD (r.left (r.s.dropWhile blankB).tail)))
  else (r.left (r.s.dropWhile blankB)).err
end Go.Proofs.YtpjncnoejdaplaaGreatDoor

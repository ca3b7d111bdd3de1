/- A time that came in, opened. -/
import Derived.Test.YtpjncnoejdaplaaGreatDoorLAB
import Derived.WideShapes
import Derived.Laws.Cover2
import Derived.Carry
import Derived.Test.YtpjncnoejdaplaaGreatDoorLAE
import Derived.Laws.BytesArg
import Derived.Laws.BytesString
import Derived.LoopTactic
import Derived.Test.YtpjncnoejdaplaaGreatDoorLAX
import Derived.Deep.RegionLaw
import Derived.Deep.RegionHeld3
namespace Go.Proofs.YtpjncnoejdaplaaGreatDoor
open Go Go.ChangeShapes Go.WideShapes Go.ChangeAt Go.RowKit Go.Lib

section
variable {H : Type} {enc : TypeId × Value → H} {W : World} {base : Nat} {spare : Nat → Bool} {held : Bool}
theorem trod_floatC {P : Program} {fuel : Nat} {t : TypeId} {k : FloatKind} {v : Value} {x : DataW H × List MemPlace} (ht : P.underlying t = some (.float k)) (h : DataW.trod enc P W base spare held fuel t [v] = some x) :
    ∃ b, v = .float k b ∧ x = (.lit (.float k b), []) ∧ (Lit.float k b).wf = true := by
  cases fuel with
  | zero => simp [DataW.trod] at h
  | succ n =>
    rw [DataW.trod_step] at h
    unfold DataW.trodStep at h
    rw [ht] at h
    split at h <;> first | (exfalso; simp_all; done) | skip
    next k' k2 b e1 e2 =>
      split at h
      · next hc =>
        obtain ⟨rfl, hw⟩ := hc
        cases h
        cases e1
        cases e2
        exact ⟨b, rfl, rfl, hw⟩
      · cases h
theorem arr8 {α : Type} {cs : Array α} (h : cs.size = 8) : ∃ c0 c1 c2 c3 c4 c5 c6 c7, cs = #[c0, c1, c2, c3, c4, c5, c6, c7] := by
  obtain ⟨l⟩ := cs
  match l, h with
  | [c0, c1, c2, c3, c4, c5, c6, c7], _ => exact ⟨c0, c1, c2, c3, c4, c5, c6, c7, rfl⟩
def fitsI (n : Int) : Prop := (Lit.int .i64 n).wf = true
set_option maxRecDepth 100000 in
theorem open_time {r : Reach} {b0 : Nat} {v : Value} {d : DataW H} {ps : List MemPlace} (hval : Value.okWide Tryz.prog W r b0 24 v) (hd : DataW.Trod enc Tryz.prog W base spare held 24 v d ps) :
    ∃ (y m dd h i : Int) (s : Nat) (wd yd : Int), v = .agg (timeV y m dd h i s wd yd) ∧ ps = [] ∧ fitsI y ∧ fitsI m ∧ fitsI dd ∧ fitsI h ∧ fitsI i ∧ (Lit.float .f64 s).wf = true := by
  have hC : Tryz.prog.cellsOf 24 = 8 := by kernel_rfl
  have hi : Tryz.prog.underlying 3 = some (.int .i64) := by kernel_rfl
  have hf : Tryz.prog.underlying 22 = some (.float .f64) := by kernel_rfl
  have hs : ∃ f0 f1 f2 f3 f4 f5 f6 f7 : Field, Tryz.prog.underlying 24 = some (.struct #[f0, f1, f2, f3, f4, f5, f6, f7]) ∧ (f0.type = 3 ∧ f0.offset = 0) ∧ (f1.type = 3 ∧ f1.offset = 1) ∧ (f2.type = 3 ∧ f2.offset = 2) ∧ (f3.type = 3 ∧ f3.offset = 3) ∧ (f4.type = 3 ∧ f4.offset = 4) ∧ (f5.type = 22 ∧ f5.offset = 5) ∧ (f6.type = 3 ∧ f6.offset = 6) ∧ (f7.type = 3 ∧ f7.offset = 7) :=
    ⟨_, _, _, _, _, _, _, _, Tryz.underlying24, ⟨rfl, rfl⟩, ⟨rfl, rfl⟩, ⟨rfl, rfl⟩, ⟨rfl, rfl⟩, ⟨rfl, rfl⟩, ⟨rfl, rfl⟩, ⟨rfl, rfl⟩, ⟨rfl, rfl⟩⟩
  have ci : Tryz.prog.cellsOf 3 = 1 := by kernel_rfl
  have cf : Tryz.prog.cellsOf 22 = 1 := by kernel_rfl
  obtain ⟨f0, f1, f2, f3, f4, f5, f6, f7, hs, ⟨a0, o0⟩, ⟨a1, o1⟩, ⟨a2, o2⟩, ⟨a3, o3⟩, ⟨a4, o4⟩, ⟨a5, o5⟩, ⟨a6, o6⟩, ⟨a7, o7⟩⟩ := hs
  obtain ⟨cs, rfl, hsz⟩ := okWide_struct hs hval
  obtain ⟨c0, c1, c2, c3, c4, c5, c6, c7, rfl⟩ := arr8 (hsz.trans hC)
  obtain ⟨fuel, hfu⟩ := hd
  obtain ⟨xs, n, _, hx, _, hlen, hall⟩ := DataW.trod_struct hs hfu
  have g0 := hall 0 f0 rfl
  have g1 := hall 1 f1 rfl
  have g2 := hall 2 f2 rfl
  have g3 := hall 3 f3 rfl
  have g4 := hall 4 f4 rfl
  have g5 := hall 5 f5 rfl
  have g6 := hall 6 f6 rfl
  have g7 := hall 7 f7 rfl
  rw [a0, o0, ci] at g0
  rw [a1, o1, ci] at g1
  rw [a2, o2, ci] at g2
  rw [a3, o3, ci] at g3
  rw [a4, o4, ci] at g4
  rw [a5, o5, cf] at g5
  rw [a6, o6, ci] at g6
  rw [a7, o7, ci] at g7
  match xs, hlen with
  | [y0, y1, y2, y3, y4, y5, y6, y7], _ =>
    obtain ⟨n0, k0, rfl, w0⟩ := DataW.trod_int hi (show _ = some y0 from g0)
    obtain ⟨n1, k1, rfl, w1⟩ := DataW.trod_int hi (show _ = some y1 from g1)
    obtain ⟨n2, k2, rfl, w2⟩ := DataW.trod_int hi (show _ = some y2 from g2)
    obtain ⟨n3, k3, rfl, w3⟩ := DataW.trod_int hi (show _ = some y3 from g3)
    obtain ⟨n4, k4, rfl, w4⟩ := DataW.trod_int hi (show _ = some y4 from g4)
    obtain ⟨n5, rfl, rfl, w5⟩ := trod_floatC hf (show DataW.trod enc Tryz.prog W base spare held n _ [c5] = some y5 from g5)
    obtain ⟨n6, k6, rfl, w6⟩ := DataW.trod_int hi (show _ = some y6 from g6)
    obtain ⟨n7, k7, rfl, w7⟩ := DataW.trod_int hi (show _ = some y7 from g7)
    have e0 : c0 = .int .i64 n0 := by simpa [Value.cells] using k0
    have e1 : c1 = .int .i64 n1 := by simpa [Value.cells] using k1
    have e2 : c2 = .int .i64 n2 := by simpa [Value.cells] using k2
    have e3 : c3 = .int .i64 n3 := by simpa [Value.cells] using k3
    have e4 : c4 = .int .i64 n4 := by simpa [Value.cells] using k4
    have e6 : c6 = .int .i64 n6 := by simpa [Value.cells] using k6
    have e7 : c7 = .int .i64 n7 := by simpa [Value.cells] using k7
    subst e0 e1 e2 e3 e4 e6 e7
    refine ⟨n0, n1, n2, n3, n4, n5, n6, n7, rfl, ?_, w0, w1, w2, w3, w4, w5⟩
    have := congrArg Prod.snd hx
    simpa using this
end
theorem fitsI_bd {n : Int} (h : fitsI n) : -9223372036854775808 ≤ n ∧ n ≤ 9223372036854775807 := by
  unfold fitsI at h
  simp [Lit.wf] at h
  have e1 : IntKind.i64.min = -9223372036854775808 := by decide
  have e2 : IntKind.i64.max = 9223372036854775807 := by decide
  omega
theorem bits_bd {s : Nat} (h : (Lit.float .f64 s).wf = true) : s < 18446744073709551616 := by
  simp [Lit.wf] at h
  exact h
end Go.Proofs.YtpjncnoejdaplaaGreatDoor
namespace Go.Proofs.YtpjncnoejdaplaaGreatDoor
open Go Go.RowKit Go.Shelf

/-- A number's text. -/
def decT (n : Int) : List UInt8 := (if n < 0 then [45] else []) ++ Lib.decDigits n.natAbs
def strE (v : Value) : Nat := match v with
  | .string s => if s.size = 0 then 1 else 0
  | _ => 0
/-- What stands behind k, of N's digits. -/
def DecI (N k : Nat) (t : List UInt8) : Prop := (t = [] ∧ k = N) ∨ (t ≠ [] ∧ if k = 0 then t = Lib.decDigits N else Lib.decDigits N = Lib.decDigits k ++ t)
theorem DecI.step {N k : Nat} {t : List UInt8} (h : DecI N k t) (h0 : 0 < k ∨ t = []) : DecI N (k / 10) (UInt8.ofNat (48 + k % 10) :: t) := by
  right
  refine ⟨by simp, ?_⟩
  have key : ∀ r, (if k / 10 = 0 then UInt8.ofNat (48 + k % 10) :: r = Lib.decDigits k ++ r else Lib.decDigits k ++ r = Lib.decDigits (k / 10) ++ UInt8.ofNat (48 + k % 10) :: r) := by
    intro r
    by_cases hk : k < 10
    · rw [if_pos (by omega), Lib.decDigits_one hk, show k % 10 = k by omega]
      rfl
    · rw [if_neg (by omega)]
      conv => lhs; rw [Lib.decDigits, dif_neg hk]
      simp
  rcases h with ⟨rfl, rfl⟩ | ⟨hn, h⟩
  · have := key []
    simpa using this
  · have hk : 0 < k := by
      rcases h0 with h0 | h0
      · exact h0
      · exact absurd h0 hn
    rw [if_neg (by omega)] at h
    have := key t
    rw [h]
    split
    · next e => rw [if_pos e] at this; exact this
    · next e => rw [if_neg e] at this; exact this
theorem DecI.done {N : Nat} {t : List UInt8} (h : DecI N 0 t) (h0 : t ≠ []) : t = Lib.decDigits N := by
  rcases h with ⟨h, _⟩ | ⟨_, h⟩
  · exact absurd h h0
  · simpa using h
theorem digits13 (n : Nat) (h : n ≤ 1000000000000) : (Lib.decDigits n).length ≤ 13 := by
  have nle : ∀ (k n : Nat), n < 10 ^ (k + 1) → Lib.nDigits n ≤ k + 1 := by
    intro k
    induction k with
    | zero => intro n h; rw [Lib.nDigits_small (by simpa using h)]; omega
    | succ k ih =>
      intro n h
      by_cases h1 : n < 10
      · rw [Lib.nDigits_small h1]; omega
      · rw [Lib.nDigits_big h1]
        have := ih (n / 10) (by rw [Nat.pow_succ] at h; omega)
        omega
  rw [Lib.decDigits_length]
  exact nle 12 n (by have h4 : (10 : Nat) ^ (12 + 1) = 10000000000000 := by decide
                     omega)
theorem DecI.len {N k : Nat} {t : List UInt8} (hN : N ≤ 1000000000000) (h : DecI N k t) : t.length ≤ 13 := by
  have hd := digits13 N hN
  rcases h with ⟨rfl, _⟩ | ⟨_, h⟩
  · simp
  · split at h
    · rw [h]; exact hd
    · rw [h, List.length_append] at hd; omega
theorem str_cons (c : UInt8) (t : List UInt8) : (⟨#[c]⟩ : ByteArray) ++ ⟨t.toArray⟩ = ⟨(c :: t).toArray⟩ := by
  apply ByteArray.ext
  simp
theorem one_str {c : Nat} (_h : c < 256) (w : World) (g : Nat) (hg : w.cell? ⟨g, 0, none⟩ = some (.int .u8 (c : Int))) :
    (convert 104 9 (.slice (some ⟨g, 0, none⟩) 1 1)).run Tryz.prog w = .ok (.string ⟨#[UInt8.ofNat c]⟩) w := by
  have hl := run_loadCells_list (P := Tryz.prog) w ⟨g, 0, none⟩ [.int .u8 (c : Int)] (fun j u hu => by
    match j with
    | 0 => obtain rfl := Option.some.inj hu; exact hg
    | j + 1 => simp at hu)
  rw [run_convert_bytes_string w 104 9 5 _ _ _ Tryz.underlying104 Tryz.underlying5 Tryz.underlying9, run_bytesToString w _ _ _ [(c : Int)] (by simpa using hl)]
  simp [ByteArray.empty, ByteArray.emptyWithCapacity, ByteArray.push]
  rfl
set_option maxRecDepth 100000 in
set_option maxHeartbeats 2000000 in
theorem Dec_any (n : Int) (h1 : -1000000000000 ≤ n) (h2 : n ≤ 1000000000000) (w : World) : Calls Tryz.prog 130 #[.int .i64 n] w fun e w' => e = .returned (.string ⟨(decT n).toArray⟩) ∧ Below w.heap.size w w' := by
  obtain ⟨N, hN⟩ : ∃ N, n.natAbs = N := ⟨_, rfl⟩
  have hNb : N ≤ 1000000000000 := by omega
  by_cases hs : n < 0
  · have e1 : decT n = 45 :: Lib.decDigits N := by unfold decT; rw [if_pos hs, hN]; rfl
    rw [e1]
    obtain rfl : n = -(N : Int) := by omega
    have hN0 : 0 < N := by omega
    have hw : IntKind.u64.wrap (-IntKind.u64.wrap (-(N : Int))) = (N : Int) := by
      unfold IntKind.wrap
      have e : IntKind.u64.bits = 64 := rfl
      have e2 : IntKind.u64.signed = false := rfl
      simp only [e, e2]
      simp
      omega
    clear e1 h1 h2 hs hN
    go_enter Tryz.func130, Tryz.ntmps130
    go_wp2_with fail
    go_loopw [3, 5] (fun u s W => ∃ (k : Nat) (t : List UInt8), u = .int .u64 k ∧ s = .string ⟨t.toArray⟩ ∧ k ≤ 1000000000000 ∧ DecI N k t ∧ Below w.heap.size w W) (fun u s _ => 2 * (Go.RowKit.intOf u).toNat + strE s)
    case atStart => exact ⟨N, [], rfl, rfl, hNb, .inl ⟨rfl, rfl⟩, Below.refl _ _⟩
    case round =>
      obtain ⟨k, t, rfl, rfl, hk, hD, hB⟩ := hrel
      have hlen := hD.len hNb
      have HD := Lib.hid hD
      have HB := Lib.hid hB
      clear hD hB
      have hcv : ∀ c : Nat, c < 256 → (convert 104 9 (.slice (some ⟨wr.heap.size, 0, none⟩) 1 1)).run Tryz.prog (wr.alloc (.cells #[.int .u8 (c : Int)] 5)) = .ok (.string ⟨#[UInt8.ofNat c]⟩) (wr.alloc (.cells #[.int .u8 (c : Int)] 5)) := fun c hc => one_str hc _ _ (by unfold World.cell?; rw [heap_alloc_new]; rfl)
      rcases Nat.eq_zero_or_pos k with rfl | hk0
      · cases t with
        | nil =>
          have hcv0 : (convert 104 9 (.slice (some ⟨wr.heap.size, 0, none⟩) 1 1)).run Tryz.prog (wr.alloc (.cells #[.int .u8 48] 5)) = .ok (.string ⟨#[48]⟩) (wr.alloc (.cells #[.int .u8 48] 5)) := hcv 48 (by omega)
          clear hcv hlen
          go_wp2_with fail
          go_roundw
          · exact ⟨0, [48], rfl, by apply congrArg Value.string; apply ByteArray.ext; simp, by omega, HD.out.step (.inr rfl), HB.out.alloc HB.out.size _⟩
          · show 2 * 0 + 0 < 2 * 0 + 1
            omega
        | cons c r =>
          rw [List.length_cons] at hlen
          clear hcv
          go_wp2_with fail
          go_ret
          refine ⟨?_, HB.out⟩
          have e := HD.out.done (by simp)
          rw [e]
          apply congrArg Ending.returned
          apply congrArg Value.string
          apply ByteArray.ext
          simp
      · have hcv0 := hcv (48 + k % 10) (by omega)
        have e : (((48 + k % 10 : Nat)) : Int) = 48 + (k : Int) % 10 := by omega
        rw [e] at hcv0
        obtain ⟨b, hb⟩ : ∃ b, UInt8.ofNat (48 + k % 10) = b := ⟨_, rfl⟩
        rw [hb] at hcv0
        have HBB := Lib.hid hb
        clear hcv e hb
        go_wp2_with fail
        go_roundw
        · exact ⟨k / 10, _, by go_num, by apply congrArg Value.string; exact str_cons _ _, by omega, by rw [← HBB.out]; exact HD.out.step (.inl hk0), HB.out.alloc HB.out.size _⟩
        · rw [str_cons]
          show 2 * ((k : Int) / 10).toNat + 0 < 2 * (k : Int).toNat + strE _
          omega
  · have e1 : decT n = Lib.decDigits N := by unfold decT; rw [if_neg hs, hN]; rfl
    rw [e1]
    obtain rfl : n = (N : Int) := by omega
    clear e1 h1 h2 hs hN
    go_enter Tryz.func130, Tryz.ntmps130
    go_wp2_with fail
    go_loopw [3, 5] (fun u s W => ∃ (k : Nat) (t : List UInt8), u = .int .u64 k ∧ s = .string ⟨t.toArray⟩ ∧ k ≤ 1000000000000 ∧ DecI N k t ∧ Below w.heap.size w W) (fun u s _ => 2 * (Go.RowKit.intOf u).toNat + strE s)
    case atStart => exact ⟨N, [], rfl, rfl, hNb, .inl ⟨rfl, rfl⟩, Below.refl _ _⟩
    case round =>
      obtain ⟨k, t, rfl, rfl, hk, hD, hB⟩ := hrel
      have hlen := hD.len hNb
      have HD := Lib.hid hD
      have HB := Lib.hid hB
      clear hD hB
      have hcv : ∀ c : Nat, c < 256 → (convert 104 9 (.slice (some ⟨wr.heap.size, 0, none⟩) 1 1)).run Tryz.prog (wr.alloc (.cells #[.int .u8 (c : Int)] 5)) = .ok (.string ⟨#[UInt8.ofNat c]⟩) (wr.alloc (.cells #[.int .u8 (c : Int)] 5)) := fun c hc => one_str hc _ _ (by unfold World.cell?; rw [heap_alloc_new]; rfl)
      rcases Nat.eq_zero_or_pos k with rfl | hk0
      · cases t with
        | nil =>
          have hcv0 : (convert 104 9 (.slice (some ⟨wr.heap.size, 0, none⟩) 1 1)).run Tryz.prog (wr.alloc (.cells #[.int .u8 48] 5)) = .ok (.string ⟨#[48]⟩) (wr.alloc (.cells #[.int .u8 48] 5)) := hcv 48 (by omega)
          clear hcv hlen
          go_wp2_with fail
          go_roundw
          · exact ⟨0, [48], rfl, by apply congrArg Value.string; apply ByteArray.ext; simp, by omega, HD.out.step (.inr rfl), HB.out.alloc HB.out.size _⟩
          · show 2 * 0 + 0 < 2 * 0 + 1
            omega
        | cons c r =>
          rw [List.length_cons] at hlen
          clear hcv
          go_wp2_with fail
          go_ret
          refine ⟨?_, HB.out⟩
          have e := HD.out.done (by simp)
          rw [e]
          apply congrArg Ending.returned
          apply congrArg Value.string
          apply ByteArray.ext
          simp
      · have hcv0 := hcv (48 + k % 10) (by omega)
        have e : (((48 + k % 10 : Nat)) : Int) = 48 + (k : Int) % 10 := by omega
        rw [e] at hcv0
        obtain ⟨b, hb⟩ : ∃ b, UInt8.ofNat (48 + k % 10) = b := ⟨_, rfl⟩
        rw [hb] at hcv0
        have HBB := Lib.hid hb
        clear hcv e hb
        go_wp2_with fail
        go_roundw
        · exact ⟨k / 10, _, by go_num, by apply congrArg Value.string; exact str_cons _ _, by omega, by rw [← HBB.out]; exact HD.out.step (.inl hk0), HB.out.alloc HB.out.size _⟩
        · rw [str_cons]
          show 2 * ((k : Int) / 10).toNat + 0 < 2 * (k : Int).toNat + strE _
          omega
end Go.Proofs.YtpjncnoejdaplaaGreatDoor
namespace Go.Proofs.YtpjncnoejdaplaaGreatDoor
open Go Go.RowKit Go.Shelf

theorem rfloor_any (n by' : Int) (h1 : -1000000000000 ≤ n) (h2 : n ≤ 1000000000000) (h3 : 0 < by') (h4 : by' ≤ 100000) (w : World) : Calls Tryz.prog 126 #[.int .i64 n, .int .i64 by'] w fun e w' => e = .returned (.int .i64 (n / by')) ∧ w = w' := by
  rcases Int.lt_or_le n 0 with h | h
  · obtain ⟨z, hz⟩ : ∃ z : Int, z = -n := ⟨_, rfl⟩
    obtain rfl : n = -z := by omega
    have q : (-z).tdiv by' = -(z / by') := by rw [Int.neg_tdiv, Int.tdiv_eq_ediv_of_nonneg (by omega)]
    have r : (-z).tmod by' = -(z % by') := by rw [Int.neg_tmod, Int.tmod_eq_emod_of_nonneg (by omega)]
    have hd := Int.emod_add_mul_ediv z by'
    have hm0 := Int.emod_nonneg z (show by' ≠ 0 by omega)
    have hm1 := Int.emod_lt_of_pos z h3
    have hz0 : 0 ≤ z / by' := Int.ediv_nonneg (by omega) (by omega)
    have hz1 : z / by' ≤ z := Int.ediv_le_self by' (by omega)
    obtain ⟨a, ha⟩ : ∃ a, z / by' = a := ⟨_, rfl⟩
    obtain ⟨b, hb⟩ : ∃ b, z % by' = b := ⟨_, rfl⟩
    rw [ha] at q hd hz0 hz1
    rw [hb] at r hd hm0 hm1
    by_cases hb0 : b = 0
    · have e : (-z) / by' = -a := by
        rw [show -z = by' * (-a) by rw [Int.mul_neg]; omega, Int.mul_ediv_cancel_left _ (by omega)]
      rw [e]
      subst hb0
      have hab : a ≤ 1000000000000 := by omega
      clear e hd ha hb hz h1 h2
      go_enter Tryz.func126, Tryz.ntmps126
      go_wp2_with fail
      go_ret
      exact ⟨rfl, rfl⟩
    · have e : (-z) / by' = -a - 1 := by
        have e2 : -z = (by' - b) + by' * (-a - 1) := by rw [Int.mul_sub, Int.mul_neg, Int.mul_one]; omega
        rw [e2, Int.add_mul_ediv_left _ _ (by omega), Int.ediv_eq_zero_of_lt (by omega) (by omega)]
        omega
      rw [e]
      clear e hd ha hb hz
      go_enter Tryz.func126, Tryz.ntmps126
      go_wp2_with fail
      go_ret
      exact ⟨rfl, rfl⟩
  · have q : n.tdiv by' = n / by' := Int.tdiv_eq_ediv_of_nonneg h
    have r : n.tmod by' = n % by' := Int.tmod_eq_emod_of_nonneg h
    have hm0 := Int.emod_nonneg n (show by' ≠ 0 by omega)
    have hq0 : 0 ≤ n / by' := Int.ediv_nonneg h (by omega)
    have hq1 : n / by' ≤ n := Int.ediv_le_self by' h
    obtain ⟨a, ha⟩ : ∃ a, n / by' = a := ⟨_, rfl⟩
    obtain ⟨b, hb⟩ : ∃ b, n % by' = b := ⟨_, rfl⟩
    rw [ha] at q hq0 hq1 ⊢
    rw [hb] at r hm0
    clear ha hb
    go_enter Tryz.func126, Tryz.ntmps126
    go_wp2_with fail
    go_ret
    exact ⟨rfl, rfl⟩
def lenS (v : Value) : Nat := match v with
  | .string s => s.size
  | _ => 0
theorem rep_len (b : UInt8) (k : Nat) : (Lib.repeatL [b] k).length = k := by rw [Lib.repeatL_length]; simp
theorem str_ahead (b : UInt8) (t : List UInt8) (f : ByteArray) (hf : f = ⟨#[b]⟩) : f ++ ⟨t.toArray⟩ = ⟨(b :: t).toArray⟩ := by
  subst hf
  exact str_cons b t
set_option maxRecDepth 100000 in
theorem rpad_any (n : Int) (h0 : 0 ≤ n) (h1 : n ≤ 1000000000000) (d : Nat) (hd : d ≤ 10) (b : UInt8) (w : World) : Calls Tryz.prog 133 #[.int .i64 n, .int .i64 d, .string ⟨#[b]⟩] w fun e w' => e = .returned (.string ⟨(padT d ⟨#[b]⟩ n).toArray⟩) ∧ Below w.heap.size w w' := by
  obtain ⟨t, ht⟩ : ∃ t, Lib.decDigits n.natAbs = t := ⟨_, rfl⟩
  have hl := digits13 n.natAbs (by omega)
  have e1 : padT d ⟨#[b]⟩ n = Lib.repeatL [b] (d - t.length) ++ t := by unfold padT; rw [if_neg (by omega), ht]; rfl
  have e2 : decT n = t := by unfold decT; rw [if_neg (by omega), ht]; rfl
  rw [e1]
  rw [ht] at hl
  have HD := Lib.hid (fun w => Dec_any n (by omega) h1 w)
  rw [e2] at HD
  clear e1 e2 ht h0 h1
  go_enter Tryz.func133, Tryz.ntmps133
  go_wp2_with fail
  refine (HD.out _).mono ?_
  rintro e w1 ⟨rfl, hb⟩
  have HB := Lib.hid hb
  clear hb HD
  go_wp2_with fail
  go_loopw [7] (fun s W => ∃ k : Nat, s = .string ⟨(Lib.repeatL [b] k ++ t).toArray⟩ ∧ k ≤ d - t.length ∧ W = w1) (fun s _ => d - lenS s)
  case atStart => exact ⟨0, rfl, Nat.zero_le _, rfl⟩
  case round =>
    obtain ⟨k, rfl, hk, rfl⟩ := hrel
    obtain ⟨q, hq⟩ : ∃ q, Lib.repeatL [b] k ++ t = q := ⟨_, rfl⟩
    have hql : q.length = k + t.length := by rw [← hq, List.length_append, rep_len]
    rw [hq]
    have HQ := Lib.hid hq
    have HL := Lib.hid hql
    clear hq hql
    by_cases hlt : k + t.length < d
    · have hlt2 : q.length < d := by have := HL.out; omega
      go_wp2_with fail
      go_roundw
      · refine ⟨k + 1, ?_, by omega, trivial⟩
        rw [str_cons, ← HQ.out]
        rfl
      · rw [str_cons]
        show d - (b :: q).toArray.size < d - q.toArray.size
        simp
        omega
    · have hlt2 : ¬ q.length < d := by have := HL.out; omega
      have hq13 : q.length ≤ 30 := by have := HL.out; omega
      go_wp2_with fail
      go_ret
      refine ⟨?_, HB.out⟩
      rw [← HQ.out, show k = d - t.length by omega]
      rfl
theorem rtwo_any (n : Int) (h0 : 0 ≤ n) (h1 : n ≤ 1000000000000) (w : World) : Calls Tryz.prog 132 #[.int .i64 n] w fun e w' => e = .returned (.string ⟨(padT 2 z0 n).toArray⟩) ∧ Below w.heap.size w w' := by
  have HP := Lib.hid (fun w => rpad_any n h0 h1 2 (by omega) 48 w)
  clear h0 h1
  go_enter Tryz.func132, Tryz.ntmps132
  go_wp2_with fail
  refine (HP.out _).mono ?_
  rintro e w1 ⟨rfl, hb⟩
  have HB := Lib.hid hb
  clear hb
  go_wp2_with fail
  go_ret
  exact ⟨rfl, HB.out⟩
theorem pad_short (d : Nat) (hd : d ≤ 10) (f : ByteArray) (hf : f.size = 1) (n : Int) (h0 : 0 ≤ n) (h : n ≤ 1000000000000) : (padT d f n).length ≤ 30 := by
  have hl := digits13 n.natAbs (by omega)
  have hf' : f.data.toList.length = 1 := by simpa using hf
  unfold padT
  rw [if_neg (by omega), List.nil_append, List.length_append, Lib.repeatL_length, hf']
  omega
theorem rcentury_any (y : Int) (h1 : -100000 ≤ y) (h2 : y ≤ 100000) (w : World) : Calls Tryz.prog 131 #[.int .i64 y] w fun e w' => e = .returned (.string ⟨(padT 2 z0 (y / 100)).toArray⟩) ∧ Below w.heap.size w w' := by
  have HF := Lib.hid (fun w => rfloor_any y 100 (by omega) (by omega) (by omega) (by omega) w)
  obtain ⟨c, hc⟩ : ∃ c, y / 100 = c := ⟨_, rfl⟩
  have hb1 : -10000 ≤ c := by omega
  have hb2 : c ≤ 10000 := by omega
  rw [hc] at HF ⊢
  clear hc h1 h2
  rcases Int.lt_or_le c 0 with h | h
  · have HT := Lib.hid (fun w => rtwo_any (-c) (by omega) (by omega) w)
    obtain ⟨t, ht⟩ : ∃ t, padT 2 z0 (-c) = t := ⟨_, rfl⟩
    have hl : t.length ≤ 30 := by rw [← ht]; exact pad_short 2 (by omega) z0 rfl (-c) (by omega) (by omega)
    have e1 : padT 2 z0 c = 45 :: t := by
      rw [← ht]
      unfold padT
      rw [if_pos h, if_neg (by omega), Int.natAbs_neg]
      rfl
    rw [e1]
    rw [ht] at HT
    clear e1 ht
    go_enter Tryz.func131, Tryz.ntmps131
    go_wp2_with fail
    refine (HF.out _).mono ?_
    rintro e w1 ⟨rfl, rfl⟩
    go_wp2_with fail
    refine (HT.out _).mono ?_
    rintro e w2 ⟨rfl, hb⟩
    have HB := Lib.hid hb
    clear hb
    go_wp2_with fail
    go_ret
    refine ⟨?_, HB.out⟩
    apply congrArg Ending.returned
    apply congrArg Value.string
    exact str_cons 45 t
  · have HT := Lib.hid (fun w => rtwo_any c h (by omega) w)
    go_enter Tryz.func131, Tryz.ntmps131
    go_wp2_with fail
    refine (HF.out _).mono ?_
    rintro e w1 ⟨rfl, rfl⟩
    go_wp2_with fail
    refine (HT.out _).mono ?_
    rintro e w2 ⟨rfl, hb⟩
    have HB := Lib.hid hb
    clear hb
    go_wp2_with fail
    go_ret
    exact ⟨rfl, HB.out⟩
/-- A row of names, made anew. -/
def NamesP (w : World) (l : List ByteArray) (e : Ending) (w' : World) : Prop := e = .returned (.slice (some ⟨w.heap.size, 0, none⟩) l.length l.length) ∧ w'.heap[w.heap.size]? = some (.cells (l.map Value.string).toArray 9 (0, 0)) ∧ Below w.heap.size w w'
theorem rDays_any (w : World) : Calls Tryz.prog 128 #[] w fun e w' => NamesP w dayNames e w' := by
  have HH := Lib.hid (heap_alloc_new w (.cells (dayNames.map Value.string).toArray 9))
  go_enter Tryz.func128, Tryz.ntmps128
  go_wp2_with fail
  go_ret
  exact ⟨rfl, HH.out, (Below.refl _ _).alloc (Nat.le_refl _) _⟩
theorem rMonths_any (w : World) : Calls Tryz.prog 129 #[] w fun e w' => NamesP w monthNames e w' := by
  have HH := Lib.hid (heap_alloc_new w (.cells (monthNames.map Value.string).toArray 9))
  go_enter Tryz.func129, Tryz.ntmps129
  go_wp2_with fail
  go_ret
  exact ⟨rfl, HH.out, (Below.refl _ _).alloc (Nat.le_refl _) _⟩
/-- What a directive stands for; empty: nothing. -/
def longT (c : Nat) : ByteArray := (formOf c).getD ⟨#[]⟩
theorem rLonger_any (c : Nat) (w : World) : Calls Tryz.prog 78 #[.int .u8 c] w fun e w' => e = .returned (.string (longT c)) ∧ w = w' := by
  by_cases h68 : c = 68
  · subst h68
    go_enter Tryz.func78, Tryz.ntmps78
    go_wp2_with fail
    go_ret
    exact ⟨rfl, rfl⟩
  by_cases h120 : c = 120
  · subst h120
    go_enter Tryz.func78, Tryz.ntmps78
    go_wp2_with fail
    go_ret
    exact ⟨rfl, rfl⟩
  by_cases h70 : c = 70
  · subst h70
    go_enter Tryz.func78, Tryz.ntmps78
    go_wp2_with fail
    go_ret
    exact ⟨rfl, rfl⟩
  by_cases h82 : c = 82
  · subst h82
    go_enter Tryz.func78, Tryz.ntmps78
    go_wp2_with fail
    go_ret
    exact ⟨rfl, rfl⟩
  by_cases h84 : c = 84
  · subst h84
    go_enter Tryz.func78, Tryz.ntmps78
    go_wp2_with fail
    go_ret
    exact ⟨rfl, rfl⟩
  by_cases h88 : c = 88
  · subst h88
    go_enter Tryz.func78, Tryz.ntmps78
    go_wp2_with fail
    go_ret
    exact ⟨rfl, rfl⟩
  by_cases h114 : c = 114
  · subst h114
    go_enter Tryz.func78, Tryz.ntmps78
    go_wp2_with fail
    go_ret
    exact ⟨rfl, rfl⟩
  by_cases h99 : c = 99
  · subst h99
    go_enter Tryz.func78, Tryz.ntmps78
    go_wp2_with fail
    go_ret
    exact ⟨rfl, rfl⟩
  have g68 : ¬ (c : Int) = 68 := by omega
  have g120 : ¬ (c : Int) = 120 := by omega
  have g70 : ¬ (c : Int) = 70 := by omega
  have g82 : ¬ (c : Int) = 82 := by omega
  have g84 : ¬ (c : Int) = 84 := by omega
  have g88 : ¬ (c : Int) = 88 := by omega
  have g114 : ¬ (c : Int) = 114 := by omega
  have g99 : ¬ (c : Int) = 99 := by omega
  have e : longT c = ⟨#[]⟩ := by
    unfold longT formOf
    rw [if_neg (by omega), if_neg h70, if_neg h82, if_neg (by omega), if_neg h114, if_neg h99]
    rfl
  rw [e]
  clear e h68 h120 h70 h82 h84 h88 h114 h99
  go_enter Tryz.func78, Tryz.ntmps78
  go_wp2_with fail
  go_ret
  exact ⟨rfl, rfl⟩
end Go.Proofs.YtpjncnoejdaplaaGreatDoor
namespace Go.Proofs.YtpjncnoejdaplaaGreatDoor
open Go Go.RowKit Go.Shelf

/-- A second of a day that is one, its double. -/
structure PcQ (y m d a : Int) (s : Nat) : Prop where
  ok : OkD y m d
  num : numI y m d = a / 86400
  sz : szB s < 9218868437227405312
  fl : flI s = a % 86400 % 60
structure PcK (y m d a : Int) (s : Nat) (h i n wk b0 iy iw fs fm q1 ss : Int) : Prop where
  ok : OkD y m d
  ok1 : OkD y 0 1
  sz : szB s < 9218868437227405312
  fl : flI s = ss
  eh : a % 86400 / 3600 = h
  ei : a % 86400 / 60 % 60 = i
  en : a / 86400 = n
  en2 : numI y m d = n
  eb : numI y 0 1 = b0
  eiy : isoI n y = iy
  eiw : weekI n iy = iw
  efs : sunI n y = fs
  efm : monI n y = fm
  ewk : (n + 4) % 7 = wk
  ba : -1000000000000 ≤ a ∧ a ≤ 1000000000000
  bounds : (-1000000000000 ≤ a ∧ a ≤ 1000000000000) ∧ (-9999 ≤ y ∧ y ≤ 9999) ∧ (0 ≤ m ∧ m ≤ 11) ∧ (1 ≤ d ∧ d ≤ 31) ∧ (0 ≤ h ∧ h ≤ 23) ∧ (0 ≤ i ∧ i ≤ 59) ∧ (-4371587 ≤ n ∧ n ≤ 2932896) ∧ (0 ≤ wk ∧ wk ≤ 6) ∧ (b0 ≤ n ∧ n ≤ b0 + 365) ∧ (-10000 ≤ iy ∧ iy ≤ 10000) ∧ (0 ≤ iw ∧ iw ≤ 53) ∧ (0 ≤ fs ∧ fs ≤ 53) ∧ (0 ≤ fm ∧ fm ≤ 53) ∧ (-6 ≤ q1 ∧ q1 ≤ 6) ∧ (0 ≤ ss ∧ ss ≤ 59)
  r1 : (n + 4).tmod 7 = q1
  r2 : (q1 + 7).tmod 7 = wk
  r3 : (h + 11).tmod 12 = (h + 11) % 12
  r4 : h.tdiv 12 = h / 12
  r5 : (wk + 6).tmod 7 = (wk + 6) % 7
  txt_97 : (semP (mkMom y m d a) 97).getD [] = (nameAt dayNames wk).take 3
  txt_65 : (semP (mkMom y m d a) 65).getD [] = nameAt dayNames wk
  txt_98 : (semP (mkMom y m d a) 98).getD [] = (nameAt monthNames m).take 3
  txt_104 : (semP (mkMom y m d a) 104).getD [] = (nameAt monthNames m).take 3
  txt_66 : (semP (mkMom y m d a) 66).getD [] = nameAt monthNames m
  txt_89 : (semP (mkMom y m d a) 89).getD [] = padT 1 z0 y
  txt_67 : (semP (mkMom y m d a) 67).getD [] = padT 2 z0 (y / 100)
  txt_121 : (semP (mkMom y m d a) 121).getD [] = padT 2 z0 (y - 100 * (y / 100))
  txt_109 : (semP (mkMom y m d a) 109).getD [] = padT 2 z0 (m + 1)
  txt_100 : (semP (mkMom y m d a) 100).getD [] = padT 2 z0 d
  txt_101 : (semP (mkMom y m d a) 101).getD [] = padT 2 bl d
  txt_72 : (semP (mkMom y m d a) 72).getD [] = padT 2 z0 h
  txt_107 : (semP (mkMom y m d a) 107).getD [] = padT 2 bl h
  txt_73 : (semP (mkMom y m d a) 73).getD [] = padT 2 z0 ((h + 11) % 12 + 1)
  txt_108 : (semP (mkMom y m d a) 108).getD [] = padT 2 bl ((h + 11) % 12 + 1)
  txt_77 : (semP (mkMom y m d a) 77).getD [] = padT 2 z0 i
  txt_83 : (semP (mkMom y m d a) 83).getD [] = padT 2 z0 ss
  txt_106 : (semP (mkMom y m d a) 106).getD [] = padT 3 z0 (n - b0 + 1)
  txt_112 : (semP (mkMom y m d a) 112).getD [] = if h < 12 then [65, 77] else [80, 77]
  txt_80 : (semP (mkMom y m d a) 80).getD [] = if h < 12 then [97, 109] else [112, 109]
  txt_117 : (semP (mkMom y m d a) 117).getD [] = padT 1 z0 ((wk + 6) % 7 + 1)
  txt_119 : (semP (mkMom y m d a) 119).getD [] = padT 1 z0 wk
  txt_85 : (semP (mkMom y m d a) 85).getD [] = padT 2 z0 fs
  txt_87 : (semP (mkMom y m d a) 87).getD [] = padT 2 z0 fm
  txt_86 : (semP (mkMom y m d a) 86).getD [] = padT 2 z0 iw
  txt_71 : (semP (mkMom y m d a) 71).getD [] = padT 1 z0 iy
  txt_103 : (semP (mkMom y m d a) 103).getD [] = padT 2 z0 (iy - 100 * (iy / 100))
  txt_115 : (semP (mkMom y m d a) 115).getD [] = padT 1 z0 a
  txt_110 : (semP (mkMom y m d a) 110).getD [] = [10]
  txt_116 : (semP (mkMom y m d a) 116).getD [] = [9]
  txt_37 : (semP (mkMom y m d a) 37).getD [] = [37]
  txt_122 : (semP (mkMom y m d a) 122).getD [] = [43, 48, 48, 48, 48]
  txt_90 : (semP (mkMom y m d a) 90).getD [] = [85, 84, 67]
theorem dec_pad (n : Int) : decT n = padT 1 z0 n := by
  have h : 0 < (Lib.decDigits n.natAbs).length := by
    rw [Lib.decDigits]
    split <;> simp
  unfold decT padT
  rw [show 1 - (Lib.decDigits n.natAbs).length = 0 by omega]
  rfl
theorem name_cell {w : World} {g : Nat} {l : List ByteArray} (h : w.heap[g]? = some (.cells (l.map Value.string).toArray 9 (0, 0))) (k : Nat) (hk : k < l.length) (nm : ByteArray) (hn : l.getD k ⟨#[]⟩ = nm) : w.cell? ⟨g, k, none⟩ = some (.string nm) := by
  rw [List.getD_eq_getElem?_getD, List.getElem?_eq_getElem hk, Option.getD_some] at hn
  subst hn
  simp [World.cell?, h, hk]
theorem rMonths12 (w : World) : Calls Tryz.prog 129 #[] w fun e w' => e = .returned (.slice (some ⟨w.heap.size, 0, none⟩) 12 12) ∧ w'.heap[w.heap.size]? = some (.cells (monthNames.map Value.string).toArray 9 (0, 0)) ∧ Below w.heap.size w w' := (rMonths_any w).mono fun _ _ h => h
theorem pc_y {w W : World} {y m d h i : Int} {s : Nat} {wd yd : Int} {l : List (Nat × Array Value × TypeId)} (H : HW w W ((w.heap.size, #[.int .i64 y, .int .i64 m, .int .i64 d, .int .i64 h, .int .i64 i, .float .f64 s, .int .i64 wd, .int .i64 yd], 24) :: l)) : W.cell? ⟨w.heap.size, 0, none⟩ = some (.int .i64 y) := (row8p (H.rows _ (.head _))).1
theorem HW.drewH {w W : World} {l : List (Nat × Array Value × TypeId)} (H : HW w W l) : HW w W.drew l := H.below (Below.refl _ _).drew
theorem kwrap (x : Int) (h1 : -9223372036854775808 ≤ x) (h2 : x ≤ 9223372036854775807) : IntKind.i64.wrap x = x := by
  unfold IntKind.wrap
  have e : IntKind.i64.bits = 64 := rfl
  have e2 : IntKind.i64.signed = true := rfl
  simp only [e, e2]
  simp
  split <;> omega
theorem tmod_bd7 (k : Int) : -6 ≤ k.tmod 7 ∧ k.tmod 7 ≤ 6 ∧ (k.tmod 7 + 7).tmod 7 = k % 7 := by
  rcases Int.lt_or_le k 0 with h | h
  · obtain ⟨z, rfl⟩ : ∃ z, k = -z := ⟨-k, by omega⟩
    rw [Int.neg_tmod, Int.tmod_eq_emod_of_nonneg (by omega)]
    have h1 := Int.emod_nonneg z (show (7 : Int) ≠ 0 by omega)
    refine ⟨by omega, by omega, ?_⟩
    rw [Int.tmod_eq_emod_of_nonneg (by omega)]
    omega
  · rw [Int.tmod_eq_emod_of_nonneg h]
    refine ⟨by omega, by omega, ?_⟩
    rw [Int.tmod_eq_emod_of_nonneg (by omega)]
    omega
theorem PcQ.know {y m d a : Int} {s : Nat} (Q : PcQ y m d a s) : ∃ h i n wk b0 iy iw fs fm q1 ss, PcK y m d a s h i n wk b0 iy iw fs fm q1 ss := by
  have hM := mkMom_ok y m d a Q.ok Q.num.symm
  have hr := num_range y m d Q.ok
  have hn := Q.num
  have hl := lenI_bd y 0 (by omega) (by omega)
  have hy : -9999 ≤ y ∧ y ≤ 9999 := Q.ok.1
  have e1 : numI y 0 1 = beginI y 0 := by unfold numI; omega
  obtain ⟨m1, m2, m3, m4, m5, m6, m7, m8, m9, m10, m11, m12, m13⟩ := hM
  simp only [mkMom] at m1 m2 m3 m4 m5 m6 m7 m8 m9 m10 m11 m12 m13
  have hd := tmod_bd7 (numI y m d + 4)
  refine ⟨a % 86400 / 3600, a % 86400 / 60 % 60, a / 86400, (numI y m d + 4) % 7, numI y 0 1, isoI (numI y m d) y, weekI (numI y m d) (isoI (numI y m d) y), sunI (numI y m d) y, monI (numI y m d) y, (numI y m d + 4).tmod 7, a % 86400 % 60, ?_⟩
  refine { ok := Q.ok, ok1 := ⟨hy, by omega, by omega, by omega⟩, sz := Q.sz, fl := Q.fl, eh := rfl, ei := rfl, en := rfl, en2 := hn, eb := rfl, eiy := by rw [hn], eiw := by rw [hn], efs := by rw [hn], efm := by rw [hn], ewk := by rw [hn], ba := by omega, bounds := ⟨by omega, hy, m2, m3, by omega, by omega, by omega, by omega, by omega, m10, m11, m12, m13, by omega, by omega⟩, r1 := by rw [hn], r2 := hd.2.2, r3 := Int.tmod_eq_emod_of_nonneg (by omega), r4 := Int.tdiv_eq_ediv_of_nonneg (by omega), r5 := Int.tmod_eq_emod_of_nonneg (by omega), txt_97 := rfl, txt_65 := rfl, txt_98 := rfl, txt_104 := rfl, txt_66 := rfl, txt_89 := rfl, txt_67 := rfl, txt_121 := rfl, txt_109 := rfl, txt_100 := rfl, txt_101 := rfl, txt_72 := rfl, txt_107 := rfl, txt_73 := rfl, txt_108 := rfl, txt_77 := rfl, txt_83 := rfl, txt_106 := by rw [e1, ← hn]; rfl, txt_112 := rfl, txt_80 := rfl, txt_117 := rfl, txt_119 := rfl, txt_85 := rfl, txt_87 := rfl, txt_86 := rfl, txt_71 := rfl, txt_103 := rfl, txt_115 := rfl, txt_110 := rfl, txt_116 := rfl, txt_37 := rfl, txt_122 := rfl, txt_90 := rfl }
end Go.Proofs.YtpjncnoejdaplaaGreatDoor

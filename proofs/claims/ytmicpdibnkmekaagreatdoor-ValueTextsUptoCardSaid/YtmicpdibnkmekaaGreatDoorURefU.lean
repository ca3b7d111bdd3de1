/- The document's escape of a code point. -/
import Derived.Test.YtmicpdibnkmekaaGreatDoorUEsc
import Derived.Test.YtmicpdibnkmekaaGreatDoorURefQ
import Derived.WalkLawsBesides
import Derived.Lib.MapLaws
namespace Go.Proofs.YtmicpdibnkmekaaGreatDoor
open Go Go.RowKit

theorem and15l {x : Int} (h0 : 0 ≤ x) (h1 : x < 4294967296) : bits .and .i64 x 15 = x % 16 :=
  bits_mask .i64 40 (by decide) (fun n h0 h1 => by rw [IntKind.wrap_i64]; omega) 4 (by omega) x h0 (by omega)
set_option maxRecDepth 100000 in
set_option maxHeartbeats 16000000 in
theorem refUnit_any (u : Nat) (hu : u < 65536) (B : Nat) (L : List UInt8) (hp : L.length ≤ 1099511627776) (v : Value) (w : World) (hown : w.ownsRow B 5 1 v L.length (Lib.byteCells L)) (hB : B ≤ w.heap.size) :
    Calls Tryz.prog 140 #[v, .int .i64 u] w fun e w' => ∃ v', e = .returned v' ∧ w'.ownsRow B 5 1 v' (L ++ unitT u).length (Lib.byteCells (L ++ unitT u)) ∧ Below B w w' := by
  obtain ⟨A, cp, rfl⟩ := own_sliceV hown
  obtain ⟨i0, hi0, hz0, hz1, hz2⟩ := info_parts infoU8
  have HOW := Lib.hid hown
  obtain ⟨a1, ha1⟩ : ∃ a, u / 4096 = a := ⟨_, rfl⟩
  obtain ⟨a2, ha2⟩ : ∃ a, u / 256 = a := ⟨_, rfl⟩
  obtain ⟨a3, ha3⟩ : ∃ a, u / 16 = a := ⟨_, rfl⟩
  obtain ⟨q1, hq1⟩ : ∃ q, u / 4096 % 16 = q := ⟨_, rfl⟩
  obtain ⟨q2, hq2⟩ : ∃ q, u / 256 % 16 = q := ⟨_, rfl⟩
  obtain ⟨q3, hq3⟩ : ∃ q, u / 16 % 16 = q := ⟨_, rfl⟩
  obtain ⟨q4, hq4⟩ : ∃ q, u % 16 = q := ⟨_, rfl⟩
  have l1 : q1 < 16 := by omega
  have l2 : q2 < 16 := by omega
  have l3 : q3 < 16 := by omega
  have l4 : q4 < 16 := by omega
  have hU : unitT u = [92, 117, hexC q1, hexC q2, hexC q3, hexC q4] := by unfold unitT; rw [hq1, hq2, hq3, hq4]
  rw [← hex_is q1 l1, ← hex_is q2 l2, ← hex_is q3 l3, ← hex_is q4 l4] at hU
  have d1 : (u : Int) / 4096 = (a1 : Int) := by omega
  have d2 : (u : Int) / 256 = (a2 : Int) := by omega
  have d3 : (u : Int) / 16 = (a3 : Int) := by omega
  have b1 : bits .and .i64 (a1 : Int) 15 = (q1 : Int) := by rw [and15l (by omega) (by omega)]; omega
  have b2 : bits .and .i64 (a2 : Int) 15 = (q2 : Int) := by rw [and15l (by omega) (by omega)]; omega
  have b3 : bits .and .i64 (a3 : Int) 15 = (q3 : Int) := by rw [and15l (by omega) (by omega)]; omega
  have b4 : bits .and .i64 (u : Int) 15 = (q4 : Int) := by rw [and15l (by omega) (by omega)]; omega
  have w1 : IntKind.i64.wrap (a1 : Int) = (a1 : Int) := IntWalk.i64_in _ (by omega)
  have w2 : IntKind.i64.wrap (a2 : Int) = (a2 : Int) := IntWalk.i64_in _ (by omega)
  have w3 : IntKind.i64.wrap (a3 : Int) = (a3 : Int) := IntWalk.i64_in _ (by omega)
  have i1 : (0 : Int) ≤ (q1 : Int) := by omega
  have j1 : (q1 : Int) < 16 := by omega
  have i2 : (0 : Int) ≤ (q2 : Int) := by omega
  have j2 : (q2 : Int) < 16 := by omega
  have i3 : (0 : Int) ≤ (q3 : Int) := by omega
  have j3 : (q3 : Int) < 16 := by omega
  have i4 : (0 : Int) ≤ (q4 : Int) := by omega
  have j4 : (q4 : Int) < 16 := by omega
  rw [hU]
  clear hU hq1 hq2 hq3 hq4 ha1 ha2 ha3 hown
  go_enter Tryz.func140, Tryz.ntmps140
  go_wp2_with fail
  go_region_law ((refine step_append_lies _ (by rfl) _ _ _ (by rfl) B 5 i0 _ 1 1 Tryz.underlying56 hi0 hz0 hz1 hz2 rfl (by omega) (.slice A L.length cp) L.length (Lib.byteCells L) (by rfl) ((show w.drew.ownsRow B 5 1 (.slice A L.length cp) L.length (Lib.byteCells L) from HOW.out).alloc _) ⟨w.heap.size, 0, none⟩ 6 6 (Lib.byteCells [92, 117, (⟨#[48, 49, 50, 51, 52, 53, 54, 55, 56, 57, 97, 98, 99, 100, 101, 102]⟩ : ByteArray)[q1]'l1, (⟨#[48, 49, 50, 51, 52, 53, 54, 55, 56, 57, 97, 98, 99, 100, 101, 102]⟩ : ByteArray)[q2]'l2, (⟨#[48, 49, 50, 51, 52, 53, 54, 55, 56, 57, 97, 98, 99, 100, 101, 102]⟩ : ByteArray)[q3]'l3, (⟨#[48, 49, 50, 51, 52, 53, 54, 55, 56, 57, 97, 98, 99, 100, 101, 102]⟩ : ByteArray)[q4]'l4]) (by rfl) (by rfl) (World.news_of_block (t := 5) (fr := (0, 0)) (heap_alloc_new w.drew _)) (by simp [Value.oneCell', Lib.byteCells]) (by omega) (by unfold maxLen; omega) (by omega) (by simp; omega) (w.heap.size + 1) (by simp) ?_; intro gg cap wx hownx hgx hatx hltx))
  all_goals
    have hbx : Below B w wx := ((Below.refl B w).drew.alloc (by simp; omega) _).grown hgx (by simp; omega) (fun j hj => (HOW.out.lt j hj).1)
    go_wp2_with fail
    go_ret
    refine ⟨_, rfl, ?_, hbx⟩
    rw [List.length_append, Lib.byteCells_append]
    exact hownx
end Go.Proofs.YtmicpdibnkmekaaGreatDoor
namespace Go.Proofs.YtmicpdibnkmekaaGreatDoor
open Go Go.RowKit

theorem qB_high {c : UInt8} (h : 128 ≤ c.toNat) : qB c = [c] := by
  have hne : ∀ d : UInt8, d.toNat < 128 → c ≠ d := fun d hd e => by rw [e] at h; omega
  have h127 : ¬ (c.toNat < 32 ∨ c = 127) := fun e => e.elim (fun e => by omega) (fun e => hne _ (by decide) e)
  have h34 : ¬ (c = 34 ∨ c = 92) := fun e => e.elim (hne _ (by decide)) (hne _ (by decide))
  unfold qB
  rw [if_neg h34, if_neg (hne _ (by decide)), if_neg (hne _ (by decide)), if_neg (hne _ (by decide)), if_neg (hne _ (by decide)), if_neg (hne _ (by decide)), if_neg h127]
theorem flat_high : ∀ l : List UInt8, (∀ c ∈ l, 128 ≤ c.toNat) → l.flatMap qB = l
  | [], _ => rfl
  | c :: l, h => by
    rw [List.flatMap_cons, qB_high (h c (by simp)), flat_high l (fun d hd => h d (by simp [hd]))]
    rfl
theorem low_eq : ∀ n : Fin 128, ([n.val.toUInt8] : List UInt8).flatMap qB = escR (n.val : Int) := by decide +kernel
theorem enc_high (p : Nat) (h : 128 ≤ p) (h2 : p ≤ 1114111) (h3 : p < 55296 ∨ 57343 < p) : ∀ c ∈ Lib.encodeRune (p : Int), 128 ≤ c.toNat := by
  intro c hc
  unfold Lib.encodeRune at hc
  rw [List.mem_map] at hc
  obtain ⟨x, hx, rfl⟩ := hc
  have hb := Lib.encodeRuneZ_byte (p : Int) x hx
  have h128 : 128 ≤ x := by
    by_cases e1 : p ≤ 2047
    · rw [Lib.encodeRuneZ_two (by omega) (by omega)] at hx
      simp at hx
      omega
    · by_cases e2 : p ≤ 65535
      · rw [Lib.encodeRuneZ_three (by omega)] at hx
        simp at hx
        omega
      · rw [Lib.encodeRuneZ_four (by omega) (by omega)] at hx
        simp at hx
        omega
  obtain ⟨n, rfl⟩ := Int.eq_ofNat_of_zero_le hb.1
  show 128 ≤ ((n : Int).toNat.toUInt8).toNat
  rw [Int.toNat_natCast, UInt8.toNat_ofNat']
  omega
theorem enc_low (p : Nat) (h : p < 128) : Lib.encodeRune (p : Int) = [p.toUInt8] := by
  unfold Lib.encodeRune
  rw [Lib.encodeRuneZ_one (by omega) (by omega)]
  simp
theorem esc_enc (p : Nat) (h2 : p ≤ 1114111) (h3 : p < 55296 ∨ 57343 < p) : (Lib.encodeRune (p : Int)).flatMap qB = escR (p : Int) := by
  by_cases h : p < 128
  · rw [enc_low p h]
    exact low_eq ⟨p, h⟩
  · rw [flat_high _ (enc_high p (by omega) h2 h3)]
    unfold escR
    rw [if_neg (by omega), if_neg (by omega), if_neg (by omega), if_neg (by omega), if_neg (by omega), if_neg (by omega), if_pos (by omega)]
theorem body_eq (s : ByteArray) : ∀ (k pos : Nat), s.size - pos ≤ k → allGood s pos = true → (s.data.toList.drop pos).flatMap qB = bodyR s pos := by
  intro k
  induction k with
  | zero =>
    intro pos hk _
    rw [bodyR_nil s pos (by omega), List.drop_of_length_le (by simp; omega)]
    rfl
  | succ k ih =>
    intro pos hk hg
    by_cases hlt : pos < s.size
    · rw [allGood_cons s pos hlt, Bool.and_eq_true] at hg
      have hwd := wid s pos hlt
      have hf := dec_fits s pos hlt
      have hpt := dec_point s pos
      have hne : s.data.toList.drop pos ≠ [] := by
        intro e
        have := congrArg List.length e
        rw [List.length_drop] at this
        simp at this
        omega
      have hgd := hg.1
      unfold good at hgd
      rw [decide_eq_true_iff, ← Lib.decodeL_drop] at hgd
      have he := Lib.encode_decode _ hne hgd
      rw [Lib.decodeL_drop] at he
      rw [bodyR_cons s pos hlt, ← ih _ (by omega) hg.2, ← esc_enc _ hpt.1 hpt.2, he, ← List.flatMap_append, ← List.drop_drop, List.take_append_drop]
    · rw [bodyR_nil s pos hlt, List.drop_of_length_le (by simp; omega)]
      rfl
theorem quote_eq (s : ByteArray) (h : allGood s 0 = true) : quoteB s = quoteR s := by
  unfold quoteB quoteR qT
  have := body_eq s _ 0 (Nat.le_refl _) h
  rw [List.drop_zero] at this
  rw [List.take_of_length_le (by simp), this]
end Go.Proofs.YtmicpdibnkmekaaGreatDoor

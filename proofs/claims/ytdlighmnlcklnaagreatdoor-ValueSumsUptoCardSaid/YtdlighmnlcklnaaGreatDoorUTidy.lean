/- What is cleaned: plain (the first part of layer 1's text). -/
import Derived.Test.YtdlighmnlcklnaaGreatDoorURunes
import Derived.Lib.MapLaws
namespace Go.Proofs.YtdlighmnlcklnaaGreatDoor
open Go Go.WideShapes

theorem dec_self {α : Type} [DecidableEq α] (l : α) : decide (l = l) = true := decide_eq_true rfl
theorem byte_nat (z : Int) (h0 : 0 ≤ z) (h1 : z < 256) : z.toNat.toUInt8.toNat = z.toNat := by
  show (UInt8.ofNat z.toNat).toNat = _
  rw [UInt8.toNat_ofNat']
  omega
/-- What is encoded is decoded again. -/
theorem dec_enc (p : Nat) (hr : right (p : Int) = true) (t : List UInt8) : Lib.decodeL (Lib.encodeRune (p : Int) ++ t) = (p, (Lib.encodeRune (p : Int)).length) := by
  obtain ⟨_, h1, h2⟩ := (right_iff p).1 hr
  rw [Lib.decodeL_N]
  unfold Lib.encodeRune
  by_cases c1 : p ≤ 127
  · rw [Lib.encodeRuneZ_one (by omega) (by omega)]
    simp only [List.map_cons, List.map_nil, List.cons_append, List.nil_append, List.length_cons, List.length_nil, List.getD_cons_zero]
    rw [byte_nat _ (by omega) (by omega)]
    unfold Lib.decodeN
    rw [if_pos (by omega)]
    simp
  · by_cases c2 : p ≤ 2047
    · rw [Lib.encodeRuneZ_two (by omega) (by omega)]
      simp only [List.map_cons, List.map_nil, List.cons_append, List.nil_append, List.length_cons, List.length_nil, List.getD_cons_zero, List.getD_cons_succ]
      rw [byte_nat _ (by omega) (by omega), byte_nat _ (by omega) (by omega)]
      unfold Lib.decodeN
      rw [if_neg (by omega), if_pos (by omega), if_pos (by omega)]
      refine Prod.ext ?_ rfl
      show _ = p
      omega
    · by_cases c3 : p ≤ 65535
      · rw [Lib.encodeRuneZ_three (by omega)]
        simp only [List.map_cons, List.map_nil, List.cons_append, List.nil_append, List.length_cons, List.length_nil, List.getD_cons_zero, List.getD_cons_succ]
        rw [byte_nat _ (by omega) (by omega), byte_nat _ (by omega) (by omega), byte_nat _ (by omega) (by omega)]
        unfold Lib.decodeN
        rw [if_neg (by omega), if_neg (by omega), if_pos (by omega), if_pos (by omega)]
        refine Prod.ext ?_ rfl
        show _ = p
        omega
      · rw [Lib.encodeRuneZ_four (by omega) (by omega)]
        simp only [List.map_cons, List.map_nil, List.cons_append, List.nil_append, List.length_cons, List.length_nil, List.getD_cons_zero, List.getD_cons_succ]
        rw [byte_nat _ (by omega) (by omega), byte_nat _ (by omega) (by omega), byte_nat _ (by omega) (by omega), byte_nat _ (by omega) (by omega)]
        unfold Lib.decodeN
        rw [if_neg (by omega), if_neg (by omega), if_neg (by omega), if_pos (by omega), if_pos (by omega)]
        refine Prod.ext ?_ rfl
        show _ = p
        omega
theorem enc_pos (p : Int) : 1 ≤ (Lib.encodeRune p).length := by
  have := (Lib.encodeRuneZ_length p).1
  unfold Lib.encodeRune
  rw [List.length_map]
  exact this
theorem enc_bad : (Lib.encodeRune ((65533 : Nat) : Int)).length = 3 := by kernel_rfl

/-- A text that is made of code points has these code points, and each of its pieces is one's bytes. -/
theorem pts_enc (s : ByteArray) : ∀ (l : List Nat) (pos : Nat), (∀ p ∈ l, right (p : Int) = true) → s.data.toList.drop pos = encAll l → pts s pos = l ∧ allGood s pos = true := by
  intro l
  induction l with
  | nil =>
    intro pos _ h
    have h' : s.data.toList.length ≤ pos := List.drop_eq_nil_iff.1 h
    rw [Array.length_toList] at h'
    have hs : ¬ pos < s.size := by show ¬ pos < s.data.size; omega
    exact ⟨pts_nil s pos hs, allGood_nil s pos hs⟩
  | cons p r ih =>
    intro pos hr h
    have hp := hr p (List.mem_cons_self ..)
    have e : encAll (p :: r) = Lib.encodeRune (p : Int) ++ encAll r := rfl
    rw [e] at h
    have hd : Utf8.decode s pos = (p, (Lib.encodeRune (p : Int)).length) := by rw [← Lib.decodeL_drop, h]; exact dec_enc p hp _
    have h1 := enc_pos (p : Int)
    have hlen := congrArg List.length h
    rw [List.length_drop, List.length_append, Array.length_toList] at hlen
    have hs : pos < s.size := by show pos < s.data.size; omega
    have hn : s.data.toList.drop (pos + (Lib.encodeRune (p : Int)).length) = encAll r := by
      rw [← List.drop_drop, h, List.drop_append_of_le_length (Nat.le_refl _), List.drop_length, List.nil_append]
    obtain ⟨i1, i2⟩ := ih _ (fun q hq => hr q (List.mem_cons_of_mem _ hq)) hn
    refine ⟨by rw [pts_cons s pos hs, hd, i1], ?_⟩
    rw [allGood_cons s pos hs, hd, i2, Bool.and_true]
    unfold good
    rw [hd, decide_eq_true_iff]
    rintro ⟨a, b⟩
    dsimp only at a b
    subst a
    rw [enc_bad] at b
    omega
theorem pts_right (s : ByteArray) (pos : Nat) : ∀ p ∈ pts s pos, right (p : Int) = true := by
  intro p hp
  obtain ⟨x, _, rfl⟩ := List.mem_map.1 hp
  exact right_pt s x
theorem clean_pts (s : ByteArray) : pts (cleanS s) 0 = pts s 0 ∧ allGood (cleanS s) 0 = true := pts_enc _ _ 0 (pts_right s 0) (by unfold cleanS; simp)
theorem clean_clean (s : ByteArray) : cleanS (cleanS s) = cleanS s := by
  show (⟨(encAll (pts (cleanS s) 0)).toArray⟩ : ByteArray) = _
  rw [(clean_pts s).1]
  rfl
theorem good_enc (s : ByteArray) : ∀ (k pos : Nat), s.size - pos ≤ k → allGood s pos = true → encAll (pts s pos) = s.data.toList.drop pos := by
  intro k
  induction k with
  | zero =>
    intro pos h _
    rw [pts_nil s pos (by omega), List.drop_eq_nil_iff.2 (by rw [Array.length_toList]; show s.size ≤ pos; omega)]
    rfl
  | succ k ih =>
    intro pos h hg
    by_cases hp : pos < s.size
    · have hw := wid s pos hp
      rw [allGood_cons s pos hp, Bool.and_eq_true] at hg
      rw [pts_cons s pos hp]
      have e : ∀ (p : Nat) (r : List Nat), encAll (p :: r) = Lib.encodeRune (p : Int) ++ encAll r := fun _ _ => rfl
      rw [e, ih _ (by omega) hg.2]
      have hne : s.data.toList.drop pos ≠ [] := by
        intro h0
        have := List.drop_eq_nil_iff.1 h0
        rw [Array.length_toList] at this
        have : s.size ≤ pos := this
        omega
      have hgd := hg.1
      unfold good at hgd
      rw [decide_eq_true_iff, ← Lib.decodeL_drop] at hgd
      have := Lib.encode_decode _ hne hgd
      rw [← Lib.decodeL_drop, this, ← List.drop_drop]
      exact List.take_append_drop _ _
    · rw [pts_nil s pos hp, List.drop_eq_nil_iff.2 (by rw [Array.length_toList]; show s.size ≤ pos; omega)]
      rfl
/-- A text is valid if and only if cleaning leaves it as it is. -/
theorem good_clean (s : ByteArray) : allGood s 0 = decide (cleanS s = s) := by
  rw [Bool.eq_iff_iff, decide_eq_true_iff]
  constructor
  · intro h
    apply bytes_inj
    show (encAll (pts s 0)).toArray.toList = _
    rw [good_enc s _ 0 (Nat.le_refl _) h, List.drop_zero]
  · intro h
    rw [← h]
    exact (clean_pts s).2
end Go.Proofs.YtdlighmnlcklnaaGreatDoor

/- ISO texts are in the order of time: plain. -/
import Derived.Test.YtpjncnoejdaplaaGreatDoorLAU
import Derived.Test.YtpjncnoejdaplaaGreatDoorLAX
import Derived.Test.YtpjncnoejdaplaaGreatDoorLAR
import Derived.Test.YtpjncnoejdaplaaGreatDoorLAQ
namespace Go.Proofs.YtpjncnoejdaplaaGreatDoor
open Go

def d2 (n : Nat) : List UInt8 := [UInt8.ofNat (48 + n / 10), UInt8.ofNat (48 + n % 10)]
theorem d2_bytes : ∀ n : Fin 100, Lib.decDigits n.val = if n.val < 10 then [UInt8.ofNat (48 + n.val % 10)] else d2 n.val := by decide +kernel
theorem pad2_is (n : Int) (h0 : 0 ≤ n) (h1 : n < 100) : padT 2 z0 n = d2 n.toNat := by
  obtain ⟨k, rfl⟩ : ∃ k : Nat, n = k := ⟨n.toNat, by omega⟩
  have e := d2_bytes ⟨k, by omega⟩
  simp only at e
  unfold padT
  rw [if_neg (by omega), Int.natAbs_natCast, e]
  split
  · next h =>
    show [] ++ (Lib.repeatL [48] (2 - 1) ++ _) = _
    unfold d2
    rw [show ((k : Int).toNat) = k by omega, show k / 10 = 0 by omega]
    rfl
  · show [] ++ (Lib.repeatL [48] (2 - 2) ++ _) = _
    rfl
theorem year_is (y : Int) (h0 : 1000 ≤ y) (h1 : y ≤ 9999) : padT 1 z0 y = d2 (y.toNat / 100) ++ d2 (y.toNat % 100) := by
  obtain ⟨k, rfl⟩ : ∃ k : Nat, y = k := ⟨y.toNat, by omega⟩
  have e : Lib.decDigits k = d2 (k / 100) ++ d2 (k % 100) := by
    rw [Lib.decDigits, dif_neg (by omega), Lib.decDigits, dif_neg (by omega), Lib.decDigits_two (by omega) (by omega)]
    unfold d2
    rw [show k / 10 / 10 / 10 = k / 100 / 10 by omega, show k / 10 / 10 % 10 = k / 100 % 10 by omega, show k / 10 % 10 = k % 100 / 10 by omega, show k % 10 = k % 100 % 10 by omega]
    simp
  unfold padT
  rw [if_neg (by omega), Int.natAbs_natCast, e, show ((k : Int).toNat) = k by omega]
  show [] ++ (Lib.repeatL [48] (1 - 4) ++ _) = _
  rfl
/-- The text of an ISO time. -/
def isoT (c q m d h i s : Nat) : List UInt8 := d2 c ++ (d2 q ++ (45 :: (d2 m ++ (45 :: (d2 d ++ (84 :: (d2 h ++ (58 :: (d2 i ++ (58 :: (d2 s ++ [90])))))))))))
def isoF : ByteArray := ⟨#[37, 89, 45, 37, 109, 45, 37, 100, 84, 37, 72, 58, 37, 77, 58, 37, 83, 90]⟩
theorem isoT_len (c q m d h i s : Nat) : (isoT c q m d h i s).length = 20 := by simp [isoT, d2]
theorem time_iso (y m d a : Int) (hD : OkD y m d) (_hN : numI y m d = a / 86400) (hy : 1000 ≤ y) :
    timeT (mkMom y m d a) isoF = isoT (y.toNat / 100) (y.toNat % 100) (m + 1).toNat d.toNat (a % 86400 / 3600).toNat (a % 86400 / 60 % 60).toNat (a % 86400 % 60).toNat := by
  have hl := lenI_bd y m hD.2.1.1 hD.2.1.2
  obtain ⟨⟨a1, a2⟩, ⟨b1, b2⟩, c1, c2⟩ := hD
  have e : timeT (mkMom y m d a) isoF = padT 1 z0 y ++ (45 :: (padT 2 z0 (m + 1) ++ (45 :: (padT 2 z0 d ++ (84 :: (padT 2 z0 (a % 86400 / 3600) ++ (58 :: (padT 2 z0 (a % 86400 / 60 % 60) ++ (58 :: (padT 2 z0 (a % 86400 % 60) ++ [90])))))))))) := rfl
  rw [e, year_is y hy (by omega), pad2_is _ (by omega) (by omega), pad2_is _ (by omega) (by omega), pad2_is _ (by omega) (by omega), pad2_is _ (by omega) (by omega), pad2_is _ (by omega) (by omega)]
  unfold isoT
  rw [List.append_assoc]
theorem d2_less : ∀ n k : Fin 100, Op.bytesLess [UInt8.ofNat (48 + n.val / 10)] [UInt8.ofNat (48 + k.val / 10)] = decide (n.val / 10 < k.val / 10) := by decide +kernel
theorem dig_lt (a b : Nat) (ha : a < 10) (hb : b < 10) : decide (UInt8.ofNat (48 + a) < UInt8.ofNat (48 + b)) = decide (a < b) := by
  have h : ∀ a b : Fin 10, decide (UInt8.ofNat (48 + a.val) < UInt8.ofNat (48 + b.val)) = decide (a.val < b.val) := by decide
  exact h ⟨a, ha⟩ ⟨b, hb⟩
theorem dig_eq (a b : Nat) (ha : a < 10) (hb : b < 10) : (UInt8.ofNat (48 + a) == UInt8.ofNat (48 + b)) = decide (a = b) := by
  have h : ∀ a b : Fin 10, (UInt8.ofNat (48 + a.val) == UInt8.ofNat (48 + b.val)) = decide (a.val = b.val) := by decide
  exact h ⟨a, ha⟩ ⟨b, hb⟩
theorem less_d2 (n k : Nat) (hn : n < 100) (hk : k < 100) (X Y : List UInt8) : Op.bytesLess (d2 n ++ X) (d2 k ++ Y) = (decide (n < k) || (decide (n = k) && Op.bytesLess X Y)) := by
  unfold d2
  simp only [List.cons_append, List.nil_append, Op.bytesLess]
  rw [dig_lt _ _ (by omega) (by omega), dig_eq _ _ (by omega) (by omega), dig_lt _ _ (by omega) (by omega), dig_eq _ _ (by omega) (by omega)]
  cases Op.bytesLess X Y <;> rw [Bool.eq_iff_iff] <;> simp only [Bool.or_eq_true, Bool.and_eq_true, decide_eq_true_eq, Bool.false_eq_true, and_false, or_false, and_true] <;> omega
theorem eq_d2 (n k : Nat) (hn : n < 100) (hk : k < 100) (X Y : List UInt8) : (d2 n ++ X == d2 k ++ Y) = (decide (n = k) && (X == Y)) := by
  unfold d2
  show (UInt8.ofNat (48 + n / 10) == UInt8.ofNat (48 + k / 10) && (UInt8.ofNat (48 + n % 10) == UInt8.ofNat (48 + k % 10) && (X == Y))) = _
  rw [dig_eq _ _ (by omega) (by omega), dig_eq _ _ (by omega) (by omega)]
  cases (X == Y) <;> rw [Bool.eq_iff_iff] <;> simp only [Bool.and_eq_true, decide_eq_true_eq, Bool.false_eq_true, and_false, and_true]
  omega
theorem less_sep (c : UInt8) (X Y : List UInt8) : Op.bytesLess (c :: X) (c :: Y) = Op.bytesLess X Y := by
  simp [Op.bytesLess]
theorem eq_sep (c : UInt8) (X Y : List UInt8) : (c :: X == c :: Y) = (X == Y) := by simp
/-- A time as one number that is in the order of its parts. -/
def keyN (c q m d h i s : Nat) : Nat := (((((c * 100 + q) * 100 + m) * 100 + d) * 100 + h) * 100 + i) * 100 + s
theorem lex_step (n k A B M : Nat) (hA : A < M) (hB : B < M) : (decide (n < k) || (decide (n = k) && decide (A < B))) = decide (n * M + A < k * M + B) := by
  rcases Nat.lt_trichotomy n k with h | h | h
  · have : n * M + M ≤ k * M := by rw [← Nat.succ_mul]; exact Nat.mul_le_mul_right M h
    simp [h]
    omega
  · subst h
    simp
  · have : k * M + M ≤ n * M := by rw [← Nat.succ_mul]; exact Nat.mul_le_mul_right M h
    have h1 : ¬ n < k := by omega
    have h2 : ¬ n = k := by omega
    simp [h1, h2]
    omega
theorem eq_step (n k A B M : Nat) (hA : A < M) (hB : B < M) : (decide (n = k) && decide (A = B)) = decide (n * M + A = k * M + B) := by
  rcases Nat.lt_trichotomy n k with h | h | h
  · have : n * M + M ≤ k * M := by rw [← Nat.succ_mul]; exact Nat.mul_le_mul_right M h
    have h2 : ¬ n = k := by omega
    simp [h2]
    omega
  · subst h
    simp
  · have : k * M + M ≤ n * M := by rw [← Nat.succ_mul]; exact Nat.mul_le_mul_right M h
    have h2 : ¬ n = k := by omega
    simp [h2]
    omega
/-- The parts, from the right, as one number. -/
def keyR (c q m d h i s : Nat) : Nat := c * 1000000000000 + (q * 10000000000 + (m * 100000000 + (d * 1000000 + (h * 10000 + (i * 100 + s)))))
theorem iso_less (c q m d h i s c' q' m' d' h' i' s' : Nat) (h1 : c < 100 ∧ q < 100 ∧ m < 100 ∧ d < 100 ∧ h < 100 ∧ i < 100 ∧ s < 100) (h2 : c' < 100 ∧ q' < 100 ∧ m' < 100 ∧ d' < 100 ∧ h' < 100 ∧ i' < 100 ∧ s' < 100) :
    Op.bytesLess (isoT c q m d h i s) (isoT c' q' m' d' h' i' s') = decide (keyR c q m d h i s < keyR c' q' m' d' h' i' s') := by
  obtain ⟨a1, a2, a3, a4, a5, a6, a7⟩ := h1
  obtain ⟨b1, b2, b3, b4, b5, b6, b7⟩ := h2
  unfold isoT keyR
  rw [less_d2 _ _ a1 b1, less_d2 _ _ a2 b2, less_sep, less_d2 _ _ a3 b3, less_sep, less_d2 _ _ a4 b4, less_sep, less_d2 _ _ a5 b5, less_sep, less_d2 _ _ a6 b6, less_sep, less_d2 _ _ a7 b7, less_sep]
  rw [show Op.bytesLess [] [] = false from rfl, Bool.and_false, Bool.or_false, lex_step i i' s s' 100 (by omega) (by omega), lex_step h h' _ _ 10000 (by omega) (by omega), lex_step d d' _ _ 1000000 (by omega) (by omega), lex_step m m' _ _ 100000000 (by omega) (by omega), lex_step q q' _ _ 10000000000 (by omega) (by omega), lex_step c c' _ _ 1000000000000 (by omega) (by omega)]
theorem iso_eq (c q m d h i s c' q' m' d' h' i' s' : Nat) (h1 : c < 100 ∧ q < 100 ∧ m < 100 ∧ d < 100 ∧ h < 100 ∧ i < 100 ∧ s < 100) (h2 : c' < 100 ∧ q' < 100 ∧ m' < 100 ∧ d' < 100 ∧ h' < 100 ∧ i' < 100 ∧ s' < 100) :
    (isoT c q m d h i s == isoT c' q' m' d' h' i' s') = decide (keyR c q m d h i s = keyR c' q' m' d' h' i' s') := by
  obtain ⟨a1, a2, a3, a4, a5, a6, a7⟩ := h1
  obtain ⟨b1, b2, b3, b4, b5, b6, b7⟩ := h2
  unfold isoT keyR
  rw [eq_d2 _ _ a1 b1, eq_d2 _ _ a2 b2, eq_sep, eq_d2 _ _ a3 b3, eq_sep, eq_d2 _ _ a4 b4, eq_sep, eq_d2 _ _ a5 b5, eq_sep, eq_d2 _ _ a6 b6, eq_sep, eq_d2 _ _ a7 b7, show (([90] : List UInt8) == [90]) = true from by decide, Bool.and_true]
  rw [eq_step i i' s s' 100 (by omega) (by omega), eq_step h h' _ _ 10000 (by omega) (by omega), eq_step d d' _ _ 1000000 (by omega) (by omega), eq_step m m' _ _ 100000000 (by omega) (by omega), eq_step q q' _ _ 10000000000 (by omega) (by omega), eq_step c c' _ _ 1000000000000 (by omega) (by omega)]
theorem num_mono (y m d y' m' d' : Int) (hD : OkD y m d) (hD' : OkD y' m' d') (h : y * 10000 + m * 100 + d < y' * 10000 + m' * 100 + d') : numI y m d < numI y' m' d' := by
  obtain ⟨⟨a1, a2⟩, ⟨b1, b2⟩, c1, c2⟩ := hD
  obtain ⟨⟨a1', a2'⟩, ⟨b1', b2'⟩, c1', c2'⟩ := hD'
  have l1 := lenI_bd y m b1 b2
  have l2 := lenI_bd y' m' b1' b2'
  have k1 := cumI_bd y m b1 b2
  have k2 := cumI_bd y' m' b1' b2'
  unfold numI beginI
  rcases Int.lt_trichotomy y y' with hy | hy | hy
  · have e1 := dby_succ y
    have e2 := dby_mono (y + 1) y' (by omega)
    omega
  · subst hy
    rcases Int.lt_trichotomy m m' with hm | hm | hm
    · have := cumI_mono y m m' b1 hm b2'
      omega
    · subst hm
      omega
    · omega
  · omega
/-- The key of a second. -/
def keyS (y m d a : Int) : Nat := keyR (y.toNat / 100) (y.toNat % 100) (m + 1).toNat d.toNat (a % 86400 / 3600).toNat (a % 86400 / 60 % 60).toNat (a % 86400 % 60).toNat
theorem hms (r : Int) (h0 : 0 ≤ r) (h1 : r < 86400) : ∃ h i s : Nat, (r / 3600).toNat = h ∧ (r / 60 % 60).toNat = i ∧ (r % 60).toNat = s ∧ r = 3600 * h + 60 * i + s ∧ h < 24 ∧ i < 60 ∧ s < 60 := by
  refine ⟨_, _, _, rfl, rfl, rfl, ?_, ?_, ?_, ?_⟩ <;> omega
theorem keyS_lt (y m d a y' m' d' a' : Int) (hD : OkD y m d) (hD' : OkD y' m' d') (hN : numI y m d = a / 86400) (hN' : numI y' m' d' = a' / 86400) (hy : 1000 ≤ y) (hy' : 1000 ≤ y') (h : a < a') : keyS y m d a < keyS y' m' d' a' := by
  have hm := num_mono y' m' d' y m d hD' hD
  have hl := lenI_bd y m hD.2.1.1 hD.2.1.2
  have hl' := lenI_bd y' m' hD'.2.1.1 hD'.2.1.2
  obtain ⟨⟨a1, a2⟩, ⟨b1, b2⟩, c1, c2⟩ := id hD
  obtain ⟨⟨a1', a2'⟩, ⟨b1', b2'⟩, c1', c2'⟩ := id hD'
  obtain ⟨p, i, s, e1, e2, e3, e4, e5, e6, e7⟩ := hms (a % 86400) (by omega) (by omega)
  obtain ⟨p', i', s', e1', e2', e3', e4', e5', e6', e7'⟩ := hms (a' % 86400) (by omega) (by omega)
  unfold keyS keyR
  rw [e1, e2, e3, e1', e2', e3']
  clear e1 e2 e3 e1' e2' e3'
  rcases Int.lt_trichotomy (y * 10000 + m * 100 + d) (y' * 10000 + m' * 100 + d') with g | g | g
  · clear hm e4 e4' hN hN' h
    obtain ⟨Y, rfl⟩ : ∃ Y : Nat, y = Y := ⟨y.toNat, by omega⟩
    obtain ⟨Y', rfl⟩ : ∃ Y : Nat, y' = Y := ⟨y'.toNat, by omega⟩
    obtain ⟨M, rfl⟩ : ∃ Y : Nat, m = Y := ⟨m.toNat, by omega⟩
    obtain ⟨M', rfl⟩ : ∃ Y : Nat, m' = Y := ⟨m'.toNat, by omega⟩
    obtain ⟨D, rfl⟩ : ∃ Y : Nat, d = Y := ⟨d.toNat, by omega⟩
    obtain ⟨D', rfl⟩ : ∃ Y : Nat, d' = Y := ⟨d'.toNat, by omega⟩
    omega
  · have e : a / 86400 = a' / 86400 := by
      rw [← hN, ← hN', show y = y' by omega, show m = m' by omega, show d = d' by omega]
    obtain rfl : y = y' := by omega
    obtain rfl : m = m' := by omega
    obtain rfl : d = d' := by omega
    have hr : a % 86400 < a' % 86400 := by omega
    rw [e4, e4'] at hr
    clear hm e4 e4' hN hN' h e
    omega
  · have := hm g
    omega
theorem keyS_both (y m d a y' m' d' a' : Int) (hD : OkD y m d) (hD' : OkD y' m' d') (hN : numI y m d = a / 86400) (hN' : numI y' m' d' = a' / 86400) (hy : 1000 ≤ y) (hy' : 1000 ≤ y') :
    (keyS y m d a < keyS y' m' d' a' ↔ a < a') ∧ (keyS y m d a = keyS y' m' d' a' ↔ a = a') := by
  have h1 := keyS_lt y m d a y' m' d' a' hD hD' hN hN' hy hy'
  have h2 := keyS_lt y' m' d' a' y m d a hD' hD hN' hN hy' hy
  rcases Int.lt_trichotomy a a' with h | h | h
  · have := h1 h; omega
  · subst h
    obtain ⟨rfl, rfl, rfl⟩ := num_inj y m d y' m' d' hD hD' (hN.trans hN'.symm)
    simp
  · have := h2 h; omega
end Go.Proofs.YtpjncnoejdaplaaGreatDoor
namespace Go.Proofs.YtpjncnoejdaplaaGreatDoor
open Go Go.RowKit Go.Shelf

theorem rsplit_at (a : Int) (hk : knownS a) (y m d : Int) (hD : OkD y m d) (hN : numI y m d = a / 86400) (w : World) :
    Calls Tryz.prog 19 #[.float .f64 (fI a)] w fun e w' => e = .returned (.tuple #[.agg (tmI y m d a), .int .i64 0]) ∧ Below w.heap.size w w' := by
  obtain ⟨k1, k2⟩ := hk
  have hz := (fI_is a (by omega) (by omega)).1
  have hf := flI_fI a (by omega) (by omega)
  have e := refSplit_of (fI a) hz y m d (a % 86400) hD (by rw [hf]; exact hN.symm) (by rw [hf]) w
  rw [sec_fI a (a % 86400 % 60) (by omega) (by omega) (by omega) (by omega)] at e
  exact e
theorem isnan_no (s : Nat) (hs : szB s < 9218868437227405312) (w : World) : Calls Tryz.prog 20 #[.float .f64 s] w fun e w' => e = .returned (.bool false) ∧ w = w' := by
  have hf : (FloatKind.f64.format.order s s != some .eq) = false := by
    have h := eq_self s (Nat.le_of_lt hs)
    show (Ieee.double.order s s != some .eq) = false
    rw [h]
    rfl
  go_enter Tryz.func20, Tryz.ntmps20
  go_wp2_with fail
  go_ret
  exact ⟨rfl, rfl⟩
/-- A text, and what is known of it. -/
theorem iso_text (y m d a wd yd : Int) (hD : OkD y m d) (hN : numI y m d = a / 86400) (hy : 1000 ≤ y) (t : List UInt8) (ht : t = isoT (y.toNat / 100) (y.toNat % 100) (m + 1).toNat d.toNat (a % 86400 / 3600).toNat (a % 86400 / 60 % 60).toNat (a % 86400 % 60).toNat) (eb : Addr) (w : World) (hG : GlobW w eb) :
    Calls Tryz.prog 21 #[.agg (timeV y m d (a % 86400 / 3600) (a % 86400 / 60 % 60) (fI (a % 86400 % 60)) wd yd), .string ⟨#[37, 89, 45, 37, 109, 45, 37, 100, 84, 37, 72, 58, 37, 77, 58, 37, 83, 90]⟩] w fun e w' => e = .returned (.string ⟨t.toArray⟩) ∧ Below w.heap.size w w' := by
  have h := text_at y m d a wd yd hD hN isoF (by decide) eb w hG
  rw [time_iso y m d a hD hN hy, ← ht] at h
  exact h
theorem key_bd (y m d a : Int) (hD : OkD y m d) (hy : 1000 ≤ y) : y.toNat / 100 < 100 ∧ y.toNat % 100 < 100 ∧ (m + 1).toNat < 100 ∧ d.toNat < 100 ∧ (a % 86400 / 3600).toNat < 100 ∧ (a % 86400 / 60 % 60).toNat < 100 ∧ (a % 86400 % 60).toNat < 100 := by
  have hl := lenI_bd y m hD.2.1.1 hD.2.1.2
  obtain ⟨⟨a1, a2⟩, ⟨b1, b2⟩, c1, c2⟩ := id hD
  omega
theorem iso_both (y m d a y' m' d' a' : Int) (hD : OkD y m d) (hD' : OkD y' m' d') (hN : numI y m d = a / 86400) (hN' : numI y' m' d' = a' / 86400) (hy : 1000 ≤ y) (hy' : 1000 ≤ y') (t t' : List UInt8)
    (ht : t = isoT (y.toNat / 100) (y.toNat % 100) (m + 1).toNat d.toNat (a % 86400 / 3600).toNat (a % 86400 / 60 % 60).toNat (a % 86400 % 60).toNat) (ht' : t' = isoT (y'.toNat / 100) (y'.toNat % 100) (m' + 1).toNat d'.toNat (a' % 86400 / 3600).toNat (a' % 86400 / 60 % 60).toNat (a' % 86400 % 60).toNat) :
    Op.bytesLess t t' = decide (a < a') ∧ (t == t') = decide (a = a') ∧ t.length = 20 ∧ t'.length = 20 := by
  obtain ⟨k1, k2⟩ := keyS_both y m d a y' m' d' a' hD hD' hN hN' hy hy'
  subst ht ht'
  refine ⟨?_, ?_, isoT_len .., isoT_len ..⟩
  · rw [iso_less _ _ _ _ _ _ _ _ _ _ _ _ _ _ (key_bd y m d a hD hy) (key_bd y' m' d' a' hD' hy')]
    exact decide_eq_decide.2 k1
  · rw [iso_eq _ _ _ _ _ _ _ _ _ _ _ _ _ _ (key_bd y m d a hD hy) (key_bd y' m' d' a' hD' hy')]
    exact decide_eq_decide.2 k2
set_option maxRecDepth 100000 in
set_option maxHeartbeats 4000000 in
theorem clockOrder_true (sa sb : Int) (eb : Addr) (w : World) (hG : GlobW w eb) : Calls Tryz.prog 7 #[.int .i64 sa, .int .i64 sb] w fun e w' => e = .returned (.bool true) ∧ Below w.heap.size w w' := by
  have hsf := run_store_float Tryz.prog
  have hci := conv_int
  obtain ⟨hb1, hb2⟩ := tmod_bd sa 253402300800 (by omega)
  obtain ⟨hb3, hb4⟩ := tmod_bd sb 253402300800 (by omega)
  have HG := Lib.hid (fun W (hW : Below w.heap.size w W) => hG.below hW)
  clear hG
  obtain ⟨a, ha⟩ : ∃ z, sa.tmod 253402300800 = z := ⟨_, rfl⟩
  obtain ⟨b, hb⟩ : ∃ z, sb.tmod 253402300800 = z := ⟨_, rfl⟩
  rw [ha] at hb1 hb2
  rw [hb] at hb3 hb4
  obtain ⟨y, m, d, hD, hN⟩ := num_ex (a / 86400) (by omega) (by omega)
  obtain ⟨y', m', d', hD', hN'⟩ := num_ex (b / 86400) (by omega) (by omega)
  have hk : knownS a := ⟨by omega, by omega⟩
  have hk' : knownS b := ⟨by omega, by omega⟩
  have HS1 := Lib.hid (fun w => rsplit_at a hk y m d hD hN w)
  have HS2 := Lib.hid (fun w => rsplit_at b hk' y' m' d' hD' hN' w)
  have HT := Lib.hid (fun w hG => heads_true eb w hG)
  have HX1 := Lib.hid (fun hy t ht w hG => iso_text y m d a ((numI y m d + 4) % 7) (numI y m d - beginI y 0) hD hN hy t ht eb w hG)
  have HX2 := Lib.hid (fun hy t ht w hG => iso_text y' m' d' b ((numI y' m' d' + 4) % 7) (numI y' m' d' - beginI y' 0) hD' hN' hy t ht eb w hG)
  have HO := Lib.hid (fun hy hy' t t' ht ht' => iso_both y m d a y' m' d' b hD hD' hN hN' hy hy' t t' ht ht')
  have hsz : szB (fI (a % 86400 % 60)) < 9218868437227405312 := (fI_is _ (by omega) (by omega)).1
  have HNN := Lib.hid hsz
  unfold tmI timeV at HS1 HS2
  unfold timeV at HX1 HX2
  clear hsz hk hk' hD hD' hN hN' hb1 hb2 hb3 hb4
  obtain ⟨h1, e1⟩ : ∃ h, a % 86400 / 3600 = h := ⟨_, rfl⟩
  obtain ⟨i1, e2⟩ : ∃ h, a % 86400 / 60 % 60 = h := ⟨_, rfl⟩
  obtain ⟨s1, e3⟩ : ∃ h, fI (a % 86400 % 60) = h := ⟨_, rfl⟩
  obtain ⟨wd1, e4⟩ : ∃ h, (numI y m d + 4) % 7 = h := ⟨_, rfl⟩
  obtain ⟨yd1, e5⟩ : ∃ h, numI y m d - beginI y 0 = h := ⟨_, rfl⟩
  obtain ⟨h2, e6⟩ : ∃ h, b % 86400 / 3600 = h := ⟨_, rfl⟩
  obtain ⟨i2, e7⟩ : ∃ h, b % 86400 / 60 % 60 = h := ⟨_, rfl⟩
  obtain ⟨s2, e8⟩ : ∃ h, fI (b % 86400 % 60) = h := ⟨_, rfl⟩
  obtain ⟨wd2, e9⟩ : ∃ h, (numI y' m' d' + 4) % 7 = h := ⟨_, rfl⟩
  obtain ⟨yd2, e10⟩ : ∃ h, numI y' m' d' - beginI y' 0 = h := ⟨_, rfl⟩
  obtain ⟨k1, e11⟩ : ∃ h, a % 86400 % 60 = h := ⟨_, rfl⟩
  obtain ⟨k2, e12⟩ : ∃ h, b % 86400 % 60 = h := ⟨_, rfl⟩
  rw [e1, e2, e3, e4, e5] at HS1
  rw [e6, e7, e8, e9, e10] at HS2
  rw [e3] at HNN
  simp only [e1, e2, e3, e4, e5] at HX1
  simp only [e11] at HX1
  simp only [e6, e7, e8, e9, e10] at HX2
  simp only [e12] at HX2
  simp only [e1, e2, e11, e6, e7, e12] at HO
  clear e1 e2 e3 e4 e5 e6 e7 e8 e9 e10 e11 e12
  go_enter Tryz.func7, Tryz.ntmps7
  go_wp2_with fail
  refine (HS1.out _).mono ?_
  rintro e w1 ⟨rfl, hb⟩
  have hh := ((HW.start w).below hb).one #[.int .i64 y, .int .i64 m, .int .i64 d, .int .i64 h1, .int .i64 i1, .float .f64 s1, .int .i64 wd1, .int .i64 yd1] 24
  clear hb HS1
  go_upto_region 4 with fail
  obtain ⟨g1, hg1⟩ : ∃ g, w1.heap.size = g := ⟨_, rfl⟩
  rw [hg1] at hh ⊢
  generalize w1.alloc (.cells #[.int .i64 y, .int .i64 m, .int .i64 d, .int .i64 h1, .int .i64 i1, .float .f64 s1, .int .i64 wd1, .int .i64 yd1] 24) = X1 at hh ⊢
  have H := Lib.hid hh
  clear hh hg1
  go_wp2_with fail
  refine (HS2.out _).mono ?_
  rintro e w2 ⟨rfl, hb⟩
  have hh := (H.out.below hb).one #[.int .i64 y', .int .i64 m', .int .i64 d', .int .i64 h2, .int .i64 i2, .float .f64 s2, .int .i64 wd2, .int .i64 yd2] 24
  clear hb HS2 H
  go_upto_region 5 with fail
  obtain ⟨g2, hg2⟩ : ∃ g, w2.heap.size = g := ⟨_, rfl⟩
  rw [hg2] at hh ⊢
  generalize w2.alloc (.cells #[.int .i64 y', .int .i64 m', .int .i64 d', .int .i64 h2, .int .i64 i2, .float .f64 s2, .int .i64 wd2, .int .i64 yd2] 24) = X2 at hh ⊢
  have H := Lib.hid hh
  clear hh hg2
  obtain ⟨t0, t1, t2, t3, t4, t5, t6, t7⟩ := row8p (H.out.rows _ (.head _))
  obtain ⟨u0, u1, u2, u3, u4, u5, u6, u7⟩ := row8p (H.out.rows _ (.tail _ (.head _)))
  by_cases hy : y < 1000
  · go_wp2_with fail
    refine (HT.out _ (HG.out _ H.out.bel)).mono ?_
    rintro e w4 ⟨rfl, hb⟩
    have HF := Lib.hid (H.out.bel.trans (hb.mono H.out.bel.size))
    clear hb H t0 t1 t2 t3 t4 t5 t6 t7 u0 u1 u2 u3 u4 u5 u6 u7
    go_wp2_with fail
    go_ret
    exact ⟨rfl, HF.out⟩
  · by_cases hy' : y' < 1000
    · go_wp2_with fail
      refine (HT.out _ (HG.out _ H.out.bel)).mono ?_
      rintro e w4 ⟨rfl, hb⟩
      have HF := Lib.hid (H.out.bel.trans (hb.mono H.out.bel.size))
      clear hb H t0 t1 t2 t3 t4 t5 t6 t7 u0 u1 u2 u3 u4 u5 u6 u7
      go_wp2_with fail
      go_ret
      exact ⟨rfl, HF.out⟩
    · obtain ⟨s, hs⟩ : ∃ s, isoT (y.toNat / 100) (y.toNat % 100) (m + 1).toNat d.toNat h1.toNat i1.toNat k1.toNat = s := ⟨_, rfl⟩
      obtain ⟨v, hv⟩ : ∃ s, isoT (y'.toNat / 100) (y'.toNat % 100) (m' + 1).toNat d'.toNat h2.toNat i2.toNat k2.toNat = s := ⟨_, rfl⟩
      have hr := HO.out (by omega) (by omega) s v hs.symm hv.symm
      have HR := Lib.hid hr
      have HX1' := Lib.hid (HX1.out (by omega) s hs.symm)
      have HX2' := Lib.hid (HX2.out (by omega) v hv.symm)
      clear HX1 HX2 HO hs hv hr
      go_wp2_with fail
      refine (isnan_no s1 HNN.out _).mono ?_
      rintro e w3 ⟨rfl, rfl⟩
      go_wp2_with fail
      refine (HX1'.out _ (HG.out _ H.out.bel)).mono ?_
      rintro e w4 ⟨rfl, hb⟩
      have hh := H.out.below hb
      clear hb H t0 t1 t2 t3 t4 t5 t6 t7 u0 u1 u2 u3 u4 u5 u6 u7
      have H := Lib.hid hh
      clear hh
      obtain ⟨t0, t1, t2, t3, t4, t5, t6, t7⟩ := row8p (H.out.rows _ (.head _))
      go_wp2_with fail
      refine (HX2'.out _ (HG.out _ H.out.bel)).mono ?_
      rintro e w5 ⟨rfl, hb⟩
      have hh := H.out.below hb
      clear hb H t0 t1 t2 t3 t4 t5 t6 t7
      have H := Lib.hid hh
      clear hh
      obtain ⟨r1, r2, r3, r4⟩ := HR.out
      have r5 : (a == b) = decide (a = b) := rfl
      go_wp2_with fail
      refine (HT.out _ (HG.out _ H.out.bel)).mono ?_
      rintro e w6 ⟨rfl, hb⟩
      have HF := Lib.hid (H.out.bel.trans (hb.mono H.out.bel.size))
      clear hb H
      go_wp2_with fail
      go_ret
      exact ⟨rfl, HF.out⟩
end Go.Proofs.YtpjncnoejdaplaaGreatDoor
namespace Go.Proofs.YtpjncnoejdaplaaGreatDoor
open Go

theorem fol_dir {sem : Nat → Option (St → Option St)} {d : UInt8} {r : List UInt8} {st st' : St} {f : St → Option St} (h1 : sem d.toNat = some f) (h2 : f st = some st') : followT sem (37 :: d :: r) st = followT sem r st' := by
  rw [followT_dir, h1]
  show (f st).bind (followT sem r) = _
  rw [h2]
  rfl
theorem fol_lit {sem : Nat → Option (St → Option St)} {c : UInt8} {r X : List UInt8} {st : St} (h : c ≠ 37) (hb : blankB c = false) (hl : st.left = c :: X) : followT sem (c :: r) st = followT sem r (leftS st X) := by
  rw [followT_lit _ _ _ _ h]
  unfold literalS
  rw [hb, hl]
  simp
theorem fol_blank {sem : Nat → Option (St → Option St)} {c : UInt8} {r X : List UInt8} {st : St} (h : c ≠ 37) (hb : blankB c = true) (hl : st.left.dropWhile blankB = X) : followT sem (c :: r) st = followT sem r (leftS st X) := by
  rw [followT_lit _ _ _ _ h]
  unfold literalS
  rw [if_pos hb]
  unfold skipS
  rw [hl]
  rfl
theorem fol_nil {sem : Nat → Option (St → Option St)} {st : St} : followT sem [] st = some st := by simp [followT]
theorem stepA_plain {c : Nat} {p : RP} (h1 : formOf c = none) (h2 : plainR c = some p) : stepA c = some fun st => p.step st := by
  unfold stepA stepP
  rw [h1, h2]
  rfl
theorem stepP_plain {c : Nat} {p : RP} (h2 : plainR c = some p) : stepP c = some fun st => p.step st := by
  unfold stepP
  rw [h2]
  rfl
/-- Digits alone. -/
def DigL (l : List UInt8) : Prop := ∀ c ∈ l, digitB c = true
theorem takeWhile_all {l : List UInt8} (h : DigL l) : l.takeWhile digitB = l := by
  induction l with
  | nil => rfl
  | cons c l ih =>
    rw [List.takeWhile_cons, if_pos (h c (by simp)), ih (fun x hx => h x (by simp [hx]))]
theorem dig_full {l X : List UInt8} {k : Nat} (h : DigL l) (hl : l.length = k) : digK k (l ++ X) = k ∧ digN k (l ++ X) = numOf l ∧ (l ++ X).drop k = X := by
  have e : (l ++ X).take k = l := by rw [← hl, List.take_left]
  have e2 : digK k (l ++ X) = k := by unfold digK; rw [e, takeWhile_all h, hl]
  refine ⟨e2, ?_, by rw [← hl, List.drop_left]⟩
  unfold digN
  rw [e2, e]
theorem dig_blank {c : UInt8} (h : digitB c = true) : blankB c = false := by
  unfold digitB at h
  unfold blankB
  simp only [decide_eq_true_eq] at h
  exact decide_eq_false (by omega)
theorem rd_full {l X : List UInt8} {k : Nat} {st : St} {a b : Int} {p : Nat} (h : DigL l) (hl : l.length = k) (hk : 0 < k) (hs : st.left = l ++ X) (ha : a ≤ numOf l) (hb : numOf l ≤ b) : numberS k a b p st = some (tellS (leftS st X) p (numOf l)) := by
  have e0 : skipS blankB st = st := by
    unfold skipS
    rw [hs]
    cases l with
    | nil => simp at hl; omega
    | cons c l =>
      rw [List.cons_append, List.dropWhile_cons, if_neg (by rw [dig_blank (h c (by simp))]; simp)]
      rw [← List.cons_append, ← hs]
      rfl
  obtain ⟨e1, e2, e3⟩ := dig_full (X := X) h hl
  unfold numberS
  simp only [e0, hs, e1, e2, e3]
  rw [if_neg (by omega)]
theorem d2_dig : ∀ n : Fin 100, ∀ c ∈ d2 n.val, digitB c = true := by decide +kernel
theorem d2_num : ∀ n : Fin 100, numOf (d2 n.val) = (n.val : Int) := by decide +kernel
theorem d2_digL (n : Nat) (h : n < 100) : DigL (d2 n) := d2_dig ⟨n, h⟩
theorem numOf_app (l : List UInt8) (n : Nat) (h : n < 100) : numOf (l ++ d2 n) = numOf l * 100 + n := by
  have e : ∀ (a : Int) (b c : UInt8), ([b, c] : List UInt8).foldl (fun n c => n * 10 + ((c.toNat : Int) - 48)) a = a * 100 + ([b, c] : List UInt8).foldl (fun n c => n * 10 + ((c.toNat : Int) - 48)) 0 := by
    intro a b c
    simp only [List.foldl_cons, List.foldl_nil]
    omega
  have h2 := d2_num ⟨n, h⟩
  unfold numOf at h2 ⊢
  rw [List.foldl_append]
  unfold d2 at h2 ⊢
  rw [e, h2]
theorem rd2 {n : Nat} {X : List UInt8} {st : St} {a b : Int} {p : Nat} (hn : n < 100) (hs : st.left = d2 n ++ X) (ha : a ≤ n) (hb : (n : Int) ≤ b) : numberS 2 a b p st = some (tellS (leftS st X) p n) := by
  have e := d2_num ⟨n, hn⟩
  simp only at e
  have := rd_full (k := 2) (p := p) (a := a) (b := b) (d2_digL n hn) rfl (by omega) hs (by rw [e]; exact ha) (by rw [e]; exact hb)
  rw [e] at this
  exact this
theorem rd4 {c q : Nat} {X : List UInt8} {st : St} {a b : Int} {p : Nat} (hc : c < 100) (hq : q < 100) (hs : st.left = d2 c ++ (d2 q ++ X)) (ha : a ≤ c * 100 + q) (hb : (c : Int) * 100 + q ≤ b) : numberS 4 a b p st = some (tellS (leftS st X) p (c * 100 + q)) := by
  have e : numOf (d2 c ++ d2 q) = (c : Int) * 100 + q := by
    rw [numOf_app _ _ hq]
    have := d2_num ⟨c, hc⟩
    simp only at this
    rw [this]
  have h : DigL (d2 c ++ d2 q) := by
    intro x hx
    rcases List.mem_append.1 hx with h | h
    · exact d2_digL c hc x h
    · exact d2_digL q hq x h
  have := rd_full (k := 4) (p := p) (a := a) (b := b) h rfl (by omega) (by rw [hs, List.append_assoc]) (by rw [e]; exact ha) (by rw [e]; exact hb)
  rw [e] at this
  exact this
/-- A name's first letters, and what stands behind them. -/
def cutB (L nm : List UInt8) : Bool := decide (nm.length ≤ 3) && ((L.take nm.length).map (caseB false) == nm.map (caseB false))
theorem cutName_L {a b c s : UInt8} {X : List UInt8} {st : St} (hs : st.left = a :: b :: c :: s :: X) (nm : List UInt8) (hn : ∀ x ∈ nm, caseB false x ≠ caseB false s) :
    cutName nm st = if cutB [a, b, c] nm = true then some (leftS st (st.left.drop nm.length)) else none := by
  unfold cutName cutB
  by_cases h3 : nm.length ≤ 3
  · have e : (a :: b :: c :: s :: X).take nm.length = [a, b, c].take nm.length := by
      rw [show a :: b :: c :: s :: X = [a, b, c] ++ s :: X from rfl, List.take_append_of_le_length (by simpa using h3)]
    rw [hs, e]
    by_cases h : ([a, b, c].take nm.length).map (caseB false) = nm.map (caseB false)
    · rw [if_pos ⟨by simp; omega, h⟩, if_pos (by rw [h]; simp [h3])]
    · rw [if_neg (fun hh => h hh.2), if_neg (by intro hh; rw [Bool.and_eq_true] at hh; exact h (eq_of_beq hh.2))]
  · have e : decide (nm.length ≤ 3) = false := by simpa using h3
    rw [e, Bool.false_and]
    have key : ¬ (nm.length ≤ st.left.length ∧ (st.left.take nm.length).map (caseB false) = nm.map (caseB false)) := ?_
    · rw [if_neg key]
      rfl
    rintro ⟨_, h⟩
    have h4 := congrArg (fun l => l[3]?) h
    rw [hs] at h4
    have h5 : ((a :: b :: c :: s :: X).take nm.length)[3]? = some s := by
      rw [List.getElem?_take, if_pos (by omega)]
      rfl
    simp only [List.getElem?_map, h5, Option.map_some] at h4
    have h6 : nm[3]? = some (nm[3]'(by omega)) := List.getElem?_eq_getElem _
    rw [h6, Option.map_some] at h4
    exact hn _ (List.getElem_mem _) (Option.some.inj h4).symm
def findL (L : List UInt8) (names : List ByteArray) (letters : Nat) : Nat → Option (Nat × Nat)
  | 0 => none
  | k + 1 =>
    let i := names.length - (k + 1)
    let nm := (names.getD i ⟨#[]⟩).data.toList
    if cutB L nm = true then some (i, nm.length) else if cutB L (nm.take letters) = true then some (i, (nm.take letters).length) else findL L names letters k
theorem nameS_L {a b c s : UInt8} {X : List UInt8} {st : St} (hs : st.left = a :: b :: c :: s :: X) (names : List ByteArray) (letters p : Nat) (hn : ∀ i, ∀ x ∈ (names.getD i ⟨#[]⟩).data.toList, caseB false x ≠ caseB false s) :
    ∀ k, nameS names letters p st k = (findL [a, b, c] names letters k).map fun q => tellS (leftS st (st.left.drop q.2)) p (q.1 + 1)
  | 0 => rfl
  | k + 1 => by
    unfold nameS findL
    simp only
    rw [cutName_L hs _ (hn _), cutName_L hs _ (fun x hx => hn _ x (List.mem_of_mem_take hx))]
    by_cases h1 : cutB [a, b, c] (names.getD (names.length - (k + 1)) ⟨#[]⟩).data.toList = true
    · rw [if_pos h1, if_pos h1]
      rfl
    · rw [if_neg h1, if_neg h1]
      by_cases h2 : cutB [a, b, c] ((names.getD (names.length - (k + 1)) ⟨#[]⟩).data.toList.take letters) = true
      · rw [if_pos h2, if_pos h2]
        rfl
      · rw [if_neg h2, if_neg h2]
        exact nameS_L hs names letters p hn k
theorem names_no (l : List ByteArray) (s : UInt8) (h : l.all (fun n => n.data.toList.all fun x => caseB false x != caseB false s) = true) (i : Nat) : ∀ x ∈ (l.getD i ⟨#[]⟩).data.toList, caseB false x ≠ caseB false s := by
  intro x hx
  rw [List.getD_eq_getElem?_getD] at hx
  rcases Nat.lt_or_ge i l.length with hi | hi
  · rw [List.getElem?_eq_getElem hi] at hx
    have h1 := List.all_eq_true.1 h _ (List.getElem_mem hi)
    have h2 := List.all_eq_true.1 h1 x hx
    simpa using h2
  · rw [List.getElem?_eq_none hi] at hx
    simp at hx
theorem day_find : ∀ k : Fin 7, findL ((dayNames.getD k.val ⟨#[]⟩).data.toList.take 3) dayNames 3 7 = some (k.val, 3) := by decide +kernel
theorem mon_find : ∀ k : Fin 12, findL ((monthNames.getD k.val ⟨#[]⟩).data.toList.take 3) monthNames 3 12 = some (k.val, 3) := by decide +kernel
theorem three_of (l : List UInt8) (h : 3 ≤ l.length) : ∃ a b c, l.take 3 = [a, b, c] := by
  match l, h with
  | a :: b :: c :: _, _ => exact ⟨a, b, c, rfl⟩
theorem day_three : ∀ k : Fin 7, 3 ≤ (dayNames.getD k.val ⟨#[]⟩).data.toList.length := by decide +kernel
theorem mon_three : ∀ k : Fin 12, 3 ≤ (monthNames.getD k.val ⟨#[]⟩).data.toList.length := by decide +kernel
theorem rd_day {wd : Int} {s : UInt8} {X : List UInt8} {st : St} (h0 : 0 ≤ wd) (h1 : wd ≤ 6) (hs : s = 32 ∨ s = 47) (hl : st.left = (nameAt dayNames wd).take 3 ++ s :: X) : nameS dayNames 3 0 st dayNames.length = some (tellS (leftS st (s :: X)) 0 (wd + 1)) := by
  obtain ⟨a, b, c, e⟩ := three_of _ (day_three ⟨wd.toNat, by omega⟩)
  have hf := day_find ⟨wd.toNat, by omega⟩
  simp only at e hf
  unfold nameAt at hl
  rw [e] at hl hf
  rw [nameS_L (a := a) (b := b) (c := c) (s := s) (X := X) hl dayNames 3 0 (names_no _ _ (by rcases hs with rfl | rfl <;> decide +kernel)), show dayNames.length = 7 from rfl, hf, Option.map_some]
  show some (tellS (leftS st (st.left.drop 3)) 0 ((wd.toNat : Int) + 1)) = _
  rw [hl, show ((wd.toNat : Nat) : Int) = wd by omega]
  rfl
theorem rd_mon {m : Int} {s : UInt8} {X : List UInt8} {st : St} (h0 : 0 ≤ m) (h1 : m ≤ 11) (hs : s = 32 ∨ s = 47) (hl : st.left = (nameAt monthNames m).take 3 ++ s :: X) : nameS monthNames 3 4 st monthNames.length = some (tellS (leftS st (s :: X)) 4 (m + 1)) := by
  obtain ⟨a, b, c, e⟩ := three_of _ (mon_three ⟨m.toNat, by omega⟩)
  have hf := mon_find ⟨m.toNat, by omega⟩
  simp only at e hf
  unfold nameAt at hl
  rw [e] at hl hf
  rw [nameS_L (a := a) (b := b) (c := c) (s := s) (X := X) hl monthNames 3 4 (names_no _ _ (by rcases hs with rfl | rfl <;> decide +kernel)), show monthNames.length = 12 from rfl, hf, Option.map_some]
  show some (tellS (leftS st (st.left.drop 3)) 4 ((m.toNat : Int) + 1)) = _
  rw [hl, show ((m.toNat : Nat) : Int) = m by omega]
  rfl
theorem rd_half {X : List UInt8} {st : St} (pm : Bool) (hl : st.left = (if pm = true then [80, 77] else [65, 77]) ++ X) : nameS halfNames 2 9 st halfNames.length = some (tellS (leftS st X) 9 (if pm = true then 2 else 1)) := by
  cases pm
  · have e : cutName [97, 109] st = some (leftS st X) := by
      unfold cutName
      rw [hl]
      rw [if_pos ⟨by simp, by show [caseB false 65, caseB false 77] = [caseB false 97, caseB false 109]; decide⟩]
      rfl
    show (match cutName [97, 109] st with | some s => some (tellS s 9 ((0 : Nat) + 1)) | none => _) = _
    rw [e]
    rfl
  · have e : cutName [97, 109] st = none := by
      unfold cutName
      rw [hl, if_neg (by rintro ⟨_, h⟩; exact absurd h (by show ¬ [caseB false 80, caseB false 77] = [caseB false 97, caseB false 109]; decide))]
    have e2 : cutName [112, 109] st = some (leftS st X) := by
      unfold cutName
      rw [hl]
      rw [if_pos ⟨by simp, by show [caseB false 80, caseB false 77] = [caseB false 112, caseB false 109]; decide⟩]
      rfl
    show (match cutName [97, 109] st with | some s => some (tellS s 9 ((0 : Nat) + 1)) | none => match cutName ([97, 109].take 2) st with | some s => some (tellS s 9 ((0 : Nat) + 1)) | none => (match cutName [112, 109] st with | some s => some (tellS s 9 ((1 : Nat) + 1)) | none => _)) = _
    rw [show ([97, 109] : List UInt8).take 2 = [97, 109] from rfl, e, e2]
    rfl
end Go.Proofs.YtpjncnoejdaplaaGreatDoor

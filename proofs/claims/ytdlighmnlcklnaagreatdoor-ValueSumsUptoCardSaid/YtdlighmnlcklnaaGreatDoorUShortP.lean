/- What a text's first bytes say of its first code points. -/
import Derived.Test.YtdlighmnlcklnaaGreatDoorURunes
namespace Go.Proofs.YtdlighmnlcklnaaGreatDoor
open Go Go.RowKit

theorem get_list (l : List UInt8) (j : Nat) : (⟨l.toArray⟩ : ByteArray).get! j = l.getD j 0 := by
  show l.toArray[j]! = _
  simp only [List.getElem!_toArray, List.getElem!_eq_getElem?_getD, List.getD]
  rfl
theorem take_get {a b : List UInt8} {N : Nat} (h : a.take N = b.take N) (j : Nat) (hj : j < N) : a.getD j 0 = b.getD j 0 := by
  have h1 : (a.take N)[j]? = (b.take N)[j]? := by rw [h]
  rw [List.getElem?_take_of_lt hj, List.getElem?_take_of_lt hj] at h1
  simp [List.getD, h1]
theorem dec_same {a b : List UInt8} {N i : Nat} (ha : N ≤ a.length) (hb : N ≤ b.length) (h : a.take N = b.take N) (hi : i + 4 ≤ N) : Utf8.decode ⟨a.toArray⟩ i = Utf8.decode ⟨b.toArray⟩ i := by
  have sa : (⟨a.toArray⟩ : ByteArray).size = a.length := by show a.toArray.size = _; simp
  have sb : (⟨b.toArray⟩ : ByteArray).size = b.length := by show b.toArray.size = _; simp
  have g := fun k (hk : k < 4) => take_get h (i + k) (by omega)
  have c := fun k (hk : k < 4) => (show decide (i + k < a.length) = decide (i + k < b.length) by rw [decide_eq_true (by omega), decide_eq_true (by omega)])
  unfold Utf8.decode
  simp only [get_list, sa, sb, g 0 (by omega), g 1 (by omega), g 2 (by omega), g 3 (by omega), c 1 (by omega), c 2 (by omega), c 3 (by omega)]
theorem st_same {a b : List UInt8} {N : Nat} (ha : N ≤ a.length) (hb : N ≤ b.length) (h : a.take N = b.take N) : ∀ k pos, pos + 4 * k ≤ N → (st ⟨a.toArray⟩ pos).take k = (st ⟨b.toArray⟩ pos).take k := by
  have sa : (⟨a.toArray⟩ : ByteArray).size = a.length := by show a.toArray.size = _; simp
  have sb : (⟨b.toArray⟩ : ByteArray).size = b.length := by show b.toArray.size = _; simp
  intro k
  induction k with
  | zero => intro pos _; rw [List.take_zero, List.take_zero]
  | succ k ih =>
    intro pos hp
    have h1 : pos < (⟨a.toArray⟩ : ByteArray).size := by rw [sa]; omega
    have h2 : pos < (⟨b.toArray⟩ : ByteArray).size := by rw [sb]; omega
    have hd := dec_same ha hb h (show pos + 4 ≤ N by omega)
    have hw := (dec_fits _ pos h1).2
    rw [st_cons _ pos h1, st_cons _ pos h2, ← hd, List.take_succ_cons, List.take_succ_cons, ih _ (by omega)]
theorem st_many (s : ByteArray) : ∀ k pos, pos + 4 * k < s.size → k + 1 ≤ (st s pos).length := by
  intro k
  induction k with
  | zero => intro pos hp; rw [st_cons s pos (by omega), List.length_cons]; omega
  | succ k ih =>
    intro pos hp
    have hw := (dec_fits s pos (by omega)).2
    have := ih (pos + (Utf8.decode s pos).2) (by omega)
    rw [st_cons s pos (by omega), List.length_cons]
    omega
theorem st_near (s : ByteArray) : ∀ (k pos x : Nat), (st s pos)[k]? = some x → x ≤ pos + 4 * k := by
  intro k
  induction k with
  | zero =>
    intro pos x hx
    by_cases hp : pos < s.size
    · rw [st_cons s pos hp] at hx
      simp at hx
      omega
    · rw [st_nil s pos hp] at hx
      cases hx
  | succ k ih =>
    intro pos x hx
    by_cases hp : pos < s.size
    · rw [st_cons s pos hp, List.getElem?_cons_succ] at hx
      have := ih _ _ hx
      have hw := (dec_fits s pos hp).2
      omega
    · rw [st_nil s pos hp] at hx
      cases hx
/-- What Short makes of a text. -/
def shortS (s : ByteArray) : ByteArray := if 24 < (st s 0).length then sliceS s 0 21 ++ ⟨#[46, 46, 46]⟩ else s
theorem short_same {a b : List UInt8} (ha : 97 ≤ a.length) (hb : 97 ≤ b.length) (h : a.take 97 = b.take 97) : shortS ⟨a.toArray⟩ = shortS ⟨b.toArray⟩ := by
  have sa : (⟨a.toArray⟩ : ByteArray).size = a.length := by show a.toArray.size = _; simp
  have sb : (⟨b.toArray⟩ : ByteArray).size = b.length := by show b.toArray.size = _; simp
  have la := st_many ⟨a.toArray⟩ 24 0 (by rw [sa]; omega)
  have lb := st_many ⟨b.toArray⟩ 24 0 (by rw [sb]; omega)
  have ht := st_same ha hb h 24 0 (by omega)
  have hg : ∀ j, j < 24 → (st ⟨a.toArray⟩ 0)[j]? = (st ⟨b.toArray⟩ 0)[j]? := by
    intro j hj
    have h1 : ((st ⟨a.toArray⟩ 0).take 24)[j]? = ((st ⟨b.toArray⟩ 0).take 24)[j]? := by rw [ht]
    rwa [List.getElem?_take_of_lt hj, List.getElem?_take_of_lt hj] at h1
  obtain ⟨x, hx⟩ : ∃ x, (st ⟨a.toArray⟩ 0)[21]? = some x := ⟨_, List.getElem?_eq_getElem (by omega)⟩
  obtain ⟨z, hz⟩ : ∃ z, (st ⟨a.toArray⟩ 0)[0]? = some z := ⟨_, List.getElem?_eq_getElem (by omega)⟩
  have hx2 := hx
  rw [hg 21 (by omega)] at hx2
  have hz2 := hz
  rw [hg 0 (by omega)] at hz2
  have hn := st_near _ 21 0 x hx
  have e1 : ∀ (s : ByteArray), (st s 0)[21]? = some x → (st s 0)[0]? = some z → sliceS s 0 21 = s.extract z x := by
    intro s h1 h2
    unfold sliceS
    rw [if_pos (by decide)]
    show s.extract (atP s 0) (atP s 21) = _
    unfold atP
    rw [h1, h2]
    rfl
  unfold shortS
  rw [if_pos (by omega), if_pos (by omega), e1 _ hx hz, e1 _ hx2 hz2]
  congr 1
  apply ByteArray.ext
  apply Array.toList_inj.1
  rw [Lib.extract_data, Lib.extract_data]
  have d : ∀ l : List UInt8, (⟨l.toArray⟩ : ByteArray).data.toList = l := fun l => by simp
  rw [d, d, List.take_drop, List.take_drop]
  have t : ∀ l : List UInt8, (l.take 97).take (z + (x - z)) = l.take (z + (x - z)) := fun l => by
    rw [List.take_take]
    congr 1
    have := st_near _ 0 0 z hz
    omega
  rw [← t a, ← t b, h]
end Go.Proofs.YtdlighmnlcklnaaGreatDoor

/- The order of values: what it is. No walk. -/
import Derived.Test.YtkklfdfmfdnjoaaGreatDoorQPut
import Derived.Test.YtkklfdfmfdnjoaaGreatDoorQRefPut
import Derived.Test.YtkklfdfmfdnjoaaGreatDoorQKeeps
namespace Go.Proofs.YtkklfdfmfdnjoaaGreatDoor
open Go Go.RowKit

/-- The order of two doubles, by their bits. -/
def cmpB (a b : Nat) : Int := if 9218868437227405312 < szB a then -1 else if 9218868437227405312 < szB b then 1 else if sv a < sv b then -1 else if sv b < sv a then 1 else 0
/-- The order of two strings. -/
def cmpS (a b : ByteArray) : Int := Lib.compareBytes a.data.toList b.data.toList
/-- The order of two rows. -/
def cmpRow {α : Type} (f : α → α → Int) : List α → List α → Int
  | [], [] => 0
  | [], _ :: _ => -1
  | _ :: _, [] => 1
  | x :: xs, y :: ys => if f x y = 0 then cmpRow f xs ys else f x y
/-- An object's values in the order of its sorted keys. -/
def byK (v : V) : List V := (sortK v.ks).map fun k => v.l.getD (Lib.idxOfS v.ks k).toNat default
/-- The order of two values of at most so many levels. -/
def cmpV : Nat → V → V → Int
  | 0, _, _ => 0
  | m + 1, a, b =>
    if a.k = b.k then
      if a.k = 3 then cmpB a.f b.f
      else if a.k = 4 then cmpS a.s b.s
      else if a.k = 5 then cmpRow (cmpV m) a.l b.l
      else if a.k = 6 then (if cmpRow cmpS (sortK a.ks) (sortK b.ks) = 0 then cmpRow (cmpV m) (byK a) (byK b) else cmpRow cmpS (sortK a.ks) (sortK b.ks))
      else 0
    else cmpI a.k b.k
theorem cmpV_succ (m : Nat) (a b : V) : cmpV (m + 1) a b = if a.k = b.k then
      if a.k = 3 then cmpB a.f b.f
      else if a.k = 4 then cmpS a.s b.s
      else if a.k = 5 then cmpRow (cmpV m) a.l b.l
      else if a.k = 6 then (if cmpRow cmpS (sortK a.ks) (sortK b.ks) = 0 then cmpRow (cmpV m) (byK a) (byK b) else cmpRow cmpS (sortK a.ks) (sortK b.ks))
      else 0
    else cmpI a.k b.k := rfl
/-- One step of a row's order. -/
theorem cmpRow_go {α : Type} {f : α → α → Int} {xs ys : List α} {i : Nat} (h1 : i < xs.length) (h2 : i < ys.length) (h : cmpRow f xs ys = cmpRow f (xs.drop i) (ys.drop i)) :
    cmpRow f xs ys = if f xs[i] ys[i] = 0 then cmpRow f (xs.drop (i + 1)) (ys.drop (i + 1)) else f xs[i] ys[i] := by
  rw [h, List.drop_eq_getElem_cons h1, List.drop_eq_getElem_cons h2]
  rfl
/-- The shorter row is at its end. -/
theorem cmpRow_end {α : Type} {f : α → α → Int} {xs ys : List α} {i : Nat} (hi : i = min xs.length ys.length) (h : cmpRow f xs ys = cmpRow f (xs.drop i) (ys.drop i)) :
    cmpRow f xs ys = cmpI xs.length ys.length := by
  rw [h]
  unfold cmpI
  rcases Nat.lt_trichotomy xs.length ys.length with q | q | q
  · have e1 : xs.drop i = [] := List.drop_of_length_le (by omega)
    have e2 : ys.drop i = ys[i]'(by omega) :: ys.drop (i + 1) := List.drop_eq_getElem_cons (by omega)
    rw [e1, e2, if_pos (by omega)]
    rfl
  · have e1 : xs.drop i = [] := List.drop_of_length_le (by omega)
    have e2 : ys.drop i = [] := List.drop_of_length_le (by omega)
    rw [e1, e2, if_neg (by omega), if_neg (by omega)]
    rfl
  · have e1 : xs.drop i = xs[i]'(by omega) :: xs.drop (i + 1) := List.drop_eq_getElem_cons (by omega)
    have e2 : ys.drop i = [] := List.drop_of_length_le (by omega)
    rw [e1, e2, if_neg (by omega), if_pos (by omega)]
    rfl
theorem compareInt_is (a b : Int) : Lib.compareInt a b = cmpI a b := by
  unfold Lib.compareInt cmpI
  rfl
/-- Strings: -1, 1 or 0 by their bytes' order. -/
theorem compareBytes_is : ∀ x y : List UInt8, Lib.compareBytes x y = if x < y then -1 else if y < x then 1 else 0
  | [], [] => by simp [Lib.compareBytes]
  | [], _ :: _ => by simp [Lib.compareBytes]
  | _ :: _, [] => by simp [Lib.compareBytes]
  | a :: x, b :: y => by
    rw [Lib.compareBytes, compareBytes_is x y]
    by_cases h : a < b
    · simp [List.cons_lt_cons_iff, h]
    · by_cases h2 : b < a
      · have : ¬ a = b := fun e => by subst e; exact h h2
        simp [List.cons_lt_cons_iff, h, h2, this]
      · have : a = b := by
          rw [UInt8.lt_iff_toNat_lt] at h h2
          exact UInt8.toNat_inj.1 (by omega)
        subst this
        simp [h]
theorem cmpS_is (a b : ByteArray) : cmpS a b = if a.data.toList < b.data.toList then -1 else if b.data.toList < a.data.toList then 1 else 0 := compareBytes_is _ _
theorem cmpS_le (a b : ByteArray) : cmpS a b ≤ 0 ↔ leK a b = true := by
  rw [cmpS_is]
  unfold leK
  rw [decide_eq_true_eq]
  by_cases h1 : a.data.toList < b.data.toList
  · rw [if_pos h1]
    exact ⟨fun _ => List.le_of_lt h1, fun _ => by omega⟩
  · rw [if_neg h1]
    by_cases h2 : b.data.toList < a.data.toList
    · rw [if_pos h2]
      refine ⟨fun h => by omega, fun h => ?_⟩
      rcases List.le_iff_lt_or_eq.1 h with h3 | h3
      · exact absurd h3 h1
      · rw [h3] at h2; exact absurd h2 (List.lt_irrefl _)
    · rw [if_neg h2]
      exact ⟨fun _ => List.not_lt.1 h2, fun _ => by omega⟩

/- An order of what p holds of: the other way round it is the other one, and it goes on. -/
structure IsOrd {α : Type} (f : α → α → Int) (p : α → Prop) : Prop where
  anti : ∀ x y, p x → p y → f y x = -f x y
  trans : ∀ x y z, p x → p y → p z → f x y ≤ 0 → f y z ≤ 0 → f x z ≤ 0
  low : ∀ x y, -1 ≤ f x y
  high : ∀ x y, f x y ≤ 1
theorem IsOrd.same {α : Type} {f : α → α → Int} {p : α → Prop} (h : IsOrd f p) {x : α} (hx : p x) : f x x = 0 := by
  have := h.anti x x hx hx
  omega
theorem IsOrd.strict {α : Type} {f : α → α → Int} {p : α → Prop} (h : IsOrd f p) {x y z : α} (hx : p x) (hy : p y) (hz : p z) (h1 : f x y < 0) (h2 : f y z ≤ 0) : f x z < 0 := by
  by_cases q : f x z < 0
  · exact q
  · have a1 := h.anti x z hx hz
    have a2 := h.anti x y hx hy
    have := h.trans y z x hy hz hx h2 (by omega)
    omega
theorem IsOrd.strict2 {α : Type} {f : α → α → Int} {p : α → Prop} (h : IsOrd f p) {x y z : α} (hx : p x) (hy : p y) (hz : p z) (h1 : f x y ≤ 0) (h2 : f y z < 0) : f x z < 0 := by
  by_cases q : f x z < 0
  · exact q
  · have a1 := h.anti x z hx hz
    have a2 := h.anti y z hy hz
    have := h.trans z x y hz hx hy (by omega) h1
    omega
/-- One order, and where it tells nothing another one. -/
theorem IsOrd.lex {α : Type} {f g : α → α → Int} {p : α → Prop} (hf : IsOrd f p) (hg : IsOrd g p) : IsOrd (fun x y => if f x y = 0 then g x y else f x y) p where
  anti x y hx hy := by
    have a1 := hf.anti x y hx hy
    have a2 := hg.anti x y hx hy
    by_cases h : f x y = 0
    · have h' : f y x = 0 := by omega
      simp only [h, h', if_true]
      exact a2
    · have h' : ¬ f y x = 0 := by omega
      simp only [h, h', if_false]
      exact a1
  trans x y z hx hy hz h1 h2 := by
    by_cases e1 : f x y = 0
    · by_cases e2 : f y z = 0
      · simp only [e1, e2, if_true] at h1 h2
        have t1 := hf.trans x y z hx hy hz (by omega) (by omega)
        have t2 := hf.trans z y x hz hy hx (by have := hf.anti y z hy hz; omega) (by have := hf.anti x y hx hy; omega)
        have t3 := hf.anti x z hx hz
        have e3 : f x z = 0 := by omega
        simp only [e3, if_true]
        exact hg.trans x y z hx hy hz h1 h2
      · simp only [e2, if_false] at h2
        have t := hf.strict2 hx hy hz (by omega) (show f y z < 0 by omega)
        have e3 : ¬ f x z = 0 := by omega
        simp only [e3, if_false]
        omega
    · simp only [e1, if_false] at h1
      have h2' : f y z ≤ 0 := by
        by_cases e2 : f y z = 0
        · omega
        · simp only [e2, if_false] at h2
          exact h2
      have t := hf.strict hx hy hz (show f x y < 0 by omega) h2'
      have e3 : ¬ f x z = 0 := by omega
      simp only [e3, if_false]
      omega
  low x y := by
    by_cases h : f x y = 0
    · simp only [h, if_true]; exact hg.low x y
    · simp only [h, if_false]; exact hf.low x y
  high x y := by
    by_cases h : f x y = 0
    · simp only [h, if_true]; exact hg.high x y
    · simp only [h, if_false]; exact hf.high x y
theorem cmpRow_anti {α : Type} {f : α → α → Int} {p : α → Prop} (h : IsOrd f p) : ∀ xs ys : List α, (∀ x ∈ xs, p x) → (∀ y ∈ ys, p y) → cmpRow f ys xs = -cmpRow f xs ys
  | [], [], _, _ => rfl
  | [], _ :: _, _, _ => rfl
  | _ :: _, [], _, _ => rfl
  | x :: xs, y :: ys, hx, hy => by
    have a := h.anti x y (hx x (List.mem_cons_self ..)) (hy y (List.mem_cons_self ..))
    have ih := cmpRow_anti h xs ys (fun z hz => hx z (List.mem_cons_of_mem _ hz)) (fun z hz => hy z (List.mem_cons_of_mem _ hz))
    unfold cmpRow
    by_cases e : f x y = 0
    · rw [if_pos e, if_pos (by omega), ih]
    · rw [if_neg e, if_neg (by omega), a]
theorem cmpRow_low {α : Type} {f : α → α → Int} (h : ∀ x y, -1 ≤ f x y) : ∀ xs ys : List α, -1 ≤ cmpRow f xs ys
  | [], [] => by unfold cmpRow; omega
  | [], _ :: _ => by unfold cmpRow; omega
  | _ :: _, [] => by unfold cmpRow; omega
  | x :: xs, y :: ys => by
    unfold cmpRow
    split
    · exact cmpRow_low h xs ys
    · exact h x y
theorem cmpRow_high {α : Type} {f : α → α → Int} (h : ∀ x y, f x y ≤ 1) : ∀ xs ys : List α, cmpRow f xs ys ≤ 1
  | [], [] => by unfold cmpRow; omega
  | [], _ :: _ => by unfold cmpRow; omega
  | _ :: _, [] => by unfold cmpRow; omega
  | x :: xs, y :: ys => by
    unfold cmpRow
    split
    · exact cmpRow_high h xs ys
    · exact h x y
theorem cmpRow_trans {α : Type} {f : α → α → Int} {p : α → Prop} (h : IsOrd f p) : ∀ xs ys zs : List α, (∀ x ∈ xs, p x) → (∀ y ∈ ys, p y) → (∀ z ∈ zs, p z) → cmpRow f xs ys ≤ 0 → cmpRow f ys zs ≤ 0 → cmpRow f xs zs ≤ 0
  | [], _, [], _, _, _, _, _ => by unfold cmpRow; omega
  | [], _, _ :: _, _, _, _, _, _ => by unfold cmpRow; omega
  | _ :: _, [], _, _, _, _, h1, _ => by unfold cmpRow at h1; omega
  | _ :: _, _ :: _, [], _, _, _, _, h2 => by unfold cmpRow at h2; omega
  | x :: xs, y :: ys, z :: zs, hx, hy, hz, h1, h2 => by
    have px := hx x (List.mem_cons_self ..)
    have py := hy y (List.mem_cons_self ..)
    have pz := hz z (List.mem_cons_self ..)
    have ih := cmpRow_trans h xs ys zs (fun u hu => hx u (List.mem_cons_of_mem _ hu)) (fun u hu => hy u (List.mem_cons_of_mem _ hu)) (fun u hu => hz u (List.mem_cons_of_mem _ hu))
    unfold cmpRow at h1 h2 ⊢
    by_cases e1 : f x y = 0
    · by_cases e2 : f y z = 0
      · rw [if_pos e1] at h1
        rw [if_pos e2] at h2
        have t1 := h.trans x y z px py pz (by omega) (by omega)
        have t2 := h.trans z y x pz py px (by have := h.anti y z py pz; omega) (by have := h.anti x y px py; omega)
        have t3 := h.anti x z px pz
        rw [if_pos (by omega)]
        exact ih h1 h2
      · rw [if_neg e2] at h2
        have t := h.strict2 px py pz (by omega) (show f y z < 0 by omega)
        rw [if_neg (by omega)]
        omega
    · rw [if_neg e1] at h1
      have h2' : f y z ≤ 0 := by
        by_cases e2 : f y z = 0
        · omega
        · rw [if_neg e2] at h2
          exact h2
      have t := h.strict px py pz (show f x y < 0 by omega) h2'
      rw [if_neg (by omega)]
      omega
theorem ord_row {α : Type} {f : α → α → Int} {p : α → Prop} (h : IsOrd f p) : IsOrd (cmpRow f) (fun xs => ∀ x ∈ xs, p x) :=
  ⟨fun xs ys hx hy => cmpRow_anti h xs ys hx hy, fun xs ys zs hx hy hz => cmpRow_trans h xs ys zs hx hy hz, fun xs ys => cmpRow_low h.low xs ys, fun xs ys => cmpRow_high h.high xs ys⟩
theorem IsOrd.of_map {α β : Type} {f : β → β → Int} {p : β → Prop} (h : IsOrd f p) (g : α → β) : IsOrd (fun x y => f (g x) (g y)) (fun x => p (g x)) :=
  ⟨fun _ _ hx hy => h.anti _ _ hx hy, fun _ _ _ hx hy hz => h.trans _ _ _ hx hy hz, fun _ _ => h.low _ _, fun _ _ => h.high _ _⟩
theorem IsOrd.weaker {α : Type} {f : α → α → Int} {p q : α → Prop} (h : IsOrd f p) (hq : ∀ x, q x → p x) : IsOrd f q :=
  ⟨fun x y hx hy => h.anti x y (hq x hx) (hq y hy), fun x y z hx hy hz => h.trans x y z (hq x hx) (hq y hy) (hq z hz), h.low, h.high⟩
theorem ord_int : IsOrd cmpI (fun _ => True) where
  anti x y _ _ := by unfold cmpI; split <;> split <;> first | omega | (split <;> omega)
  trans x y z _ _ _ h1 h2 := by
    have k1 : x ≤ y := by unfold cmpI at h1; split at h1; omega; split at h1 <;> omega
    have k2 : y ≤ z := by unfold cmpI at h2; split at h2; omega; split at h2 <;> omega
    unfold cmpI
    split
    · omega
    · rw [if_neg (by omega)]; omega
  low x y := by unfold cmpI; split; omega; split <;> omega
  high x y := by unfold cmpI; split; omega; split <;> omega
theorem ord_str : IsOrd cmpS (fun _ => True) where
  anti x y _ _ := by
    rw [cmpS_is, cmpS_is]
    by_cases h1 : x.data.toList < y.data.toList
    · have h2 : ¬ y.data.toList < x.data.toList := fun h => List.lt_irrefl _ (List.lt_trans h1 h)
      simp [h1, h2]
    · simp only [h1, if_false]
      split <;> simp
  trans x y z _ _ _ h1 h2 := by
    rw [cmpS_le] at h1 h2 ⊢
    exact leK_trans _ _ _ h1 h2
  low x y := by rw [cmpS_is]; split; omega; split <;> omega
  high x y := by rw [cmpS_is]; split; omega; split <;> omega
/-- A double that is a number. -/
def numB (a : Nat) : Prop := ¬ 9218868437227405312 < szB a
theorem cmpB_num {a b : Nat} (ha : numB a) (hb : numB b) : cmpB a b = cmpI (sv a) (sv b) := by
  unfold cmpB cmpI numB at *
  rw [if_neg ha, if_neg hb]
theorem ord_num : IsOrd cmpB numB where
  anti x y hx hy := by rw [cmpB_num hx hy, cmpB_num hy hx]; exact ord_int.anti _ _ trivial trivial
  trans x y z hx hy hz h1 h2 := by
    rw [cmpB_num hx hy] at h1
    rw [cmpB_num hy hz] at h2
    rw [cmpB_num hx hz]
    exact ord_int.trans _ _ _ trivial trivial trivial h1 h2
  low x y := by unfold cmpB; split; omega; split; omega; split; omega; split <;> omega
  high x y := by unfold cmpB; split; omega; split; omega; split; omega; split <;> omega
/-- Is there no NaN in a value (of at most so many levels)? -/
def plainV : Nat → V → Bool
  | 0, _ => true
  | m + 1, v => !decide (9218868437227405312 < szB v.f) && v.l.all (fun x => plainV m x)
theorem ord_zero {α : Type} (p : α → Prop) : IsOrd (fun _ _ : α => (0 : Int)) p :=
  ⟨fun _ _ _ _ => rfl, fun _ _ _ _ _ _ _ _ => Int.le_refl 0, fun _ _ => (by omega : (-1 : Int) ≤ 0), fun _ _ => (by omega : (0 : Int) ≤ 1)⟩
theorem byK_plain {m : Nat} {v : V} (h : ∀ x ∈ v.l, plainV m x = true) : ∀ x ∈ byK v, plainV m x = true := by
  intro x hx
  unfold byK at hx
  obtain ⟨k, _, rfl⟩ := List.mem_map.1 hx
  rcases Nat.lt_or_ge (Lib.idxOfS v.ks k).toNat v.l.length with q | q
  · have e : v.l.getD (Lib.idxOfS v.ks k).toNat default = v.l[(Lib.idxOfS v.ks k).toNat] := by simp [List.getD, q]
    rw [e]
    exact h _ (List.getElem_mem q)
  · have e : v.l.getD (Lib.idxOfS v.ks k).toNat default = default := by simp [List.getD, q]
    rw [e]
    cases m with
    | zero => rfl
    | succ m => rfl
/-- Values without NaN are in an order. -/
theorem ord_val : ∀ m : Nat, IsOrd (cmpV m) (fun v => plainV m v = true)
  | 0 => ord_zero _
  | m + 1 => by
    have ih := ord_val m
    have hrow := ord_row ih
    have hp : ∀ v : V, plainV (m + 1) v = true → numB v.f ∧ ∀ x ∈ v.l, plainV m x = true := by
      intro v h
      have h : (!decide (9218868437227405312 < szB v.f) && v.l.all (fun x => plainV m x)) = true := h
      rw [Bool.and_eq_true] at h
      exact ⟨by simpa [numB] using h.1, by simpa using h.2⟩
    have o3 : IsOrd (fun a b : V => cmpB a.f b.f) (fun v => plainV (m + 1) v = true) := (ord_num.of_map V.f).weaker fun v h => (hp v h).1
    have o4 : IsOrd (fun a b : V => cmpS a.s b.s) (fun v => plainV (m + 1) v = true) := (ord_str.of_map V.s).weaker fun _ _ => trivial
    have o5 : IsOrd (fun a b : V => cmpRow (cmpV m) a.l b.l) (fun v => plainV (m + 1) v = true) := (hrow.of_map V.l).weaker fun v h => (hp v h).2
    have o6a : IsOrd (fun a b : V => cmpRow cmpS (sortK a.ks) (sortK b.ks)) (fun v => plainV (m + 1) v = true) := ((ord_row ord_str).of_map fun v : V => sortK v.ks).weaker fun _ _ _ _ => trivial
    have o6b : IsOrd (fun a b : V => cmpRow (cmpV m) (byK a) (byK b)) (fun v => plainV (m + 1) v = true) := (hrow.of_map byK).weaker fun v h => byK_plain (hp v h).2
    have o6 := o6a.lex o6b
    have oI : IsOrd (fun a b : V => cmpI a.k b.k) (fun v => plainV (m + 1) v = true) := (ord_int.of_map V.k).weaker fun _ _ => trivial
    have hq : ∀ k : Int, IsOrd (fun a b : V => if k = 3 then cmpB a.f b.f else if k = 4 then cmpS a.s b.s else if k = 5 then cmpRow (cmpV m) a.l b.l else if k = 6 then (if cmpRow cmpS (sortK a.ks) (sortK b.ks) = 0 then cmpRow (cmpV m) (byK a) (byK b) else cmpRow cmpS (sortK a.ks) (sortK b.ks)) else 0) (fun v => plainV (m + 1) v = true) := by
      intro k
      by_cases h3 : k = 3
      · simp only [h3, if_true]; exact o3
      · by_cases h4 : k = 4
        · subst h4; simpa using o4
        · by_cases h5 : k = 5
          · subst h5; simpa using o5
          · by_cases h6 : k = 6
            · subst h6; simpa using o6
            · simp only [h3, h4, h5, h6, if_false]; exact ord_zero _
    have hI : ∀ i j : Int, cmpI i j = 0 ↔ i = j := by
      intro i j
      unfold cmpI
      refine ⟨fun h => ?_, fun h => ?_⟩
      · split at h
        · omega
        · split at h <;> omega
      · rw [if_neg (by omega), if_neg (by omega)]
    refine ⟨fun x y hx hy => ?_, fun x y z hx hy hz h1 h2 => ?_, fun x y => ?_, fun x y => ?_⟩
    · rw [cmpV_succ, cmpV_succ]
      by_cases e : x.k = y.k
      · rw [if_pos e, if_pos e.symm, ← e]
        exact (hq x.k).anti x y hx hy
      · rw [if_neg e, if_neg (fun h => e h.symm)]
        exact oI.anti x y hx hy
    · rw [cmpV_succ] at h1 h2 ⊢
      by_cases e1 : x.k = y.k
      · rw [if_pos e1] at h1
        by_cases e2 : y.k = z.k
        · rw [if_pos e2, ← e1] at h2
          rw [if_pos (e1.trans e2)]
          exact (hq x.k).trans x y z hx hy hz h1 h2
        · rw [if_neg e2] at h2
          rw [if_neg (fun h => e2 (e1.symm.trans h)), e1]
          exact h2
      · rw [if_neg e1] at h1
        have l1 : x.k < y.k := by
          have := fun h => e1 ((hI x.k y.k).1 h)
          unfold cmpI at h1 this
          split at h1
          · assumption
          · split at h1 <;> omega
        by_cases e2 : y.k = z.k
        · rw [if_neg (by omega), ← e2]
          exact h1
        · rw [if_neg e2] at h2
          have l2 : y.k < z.k := by
            unfold cmpI at h2
            split at h2
            · assumption
            · split at h2 <;> omega
          rw [if_neg (by omega)]
          unfold cmpI
          rw [if_pos (by omega)]
          omega
    · rw [cmpV_succ]
      split
      · exact (hq x.k).low x y
      · exact oI.low x y
    · rw [cmpV_succ]
      split
      · exact (hq x.k).high x y
      · exact oI.high x y
end Go.Proofs.YtkklfdfmfdnjoaaGreatDoor
/- The order of numbers and of strings, walked; are keys sorted? -/
namespace Go.Proofs.YtkklfdfmfdnjoaaGreatDoor
open Go Go.RowKit

theorem isNaNF_any (b : Nat) (w : World) : Calls Tryz.prog 144 #[.float .f64 b] w fun e w' => e = .returned (.bool (decide (9218868437227405312 < szB b))) ∧ w = w' := by
  have h := eq_self b
  go_enter Tryz.func144, Tryz.ntmps144
  go_wp2_with fail
  go_ret
  exact ⟨rfl, rfl⟩
set_option maxHeartbeats 1000000 in
theorem cmpF_any (a b : Nat) (ha : numB a) (w : World) : Calls Tryz.prog 105 #[.float .f64 a, .float .f64 b] w fun e w' => e = .returned (.int .i64 (cmpB a b)) ∧ w = w' := by
  have hda : decide (9218868437227405312 < szB a) = false := decide_eq_false ha
  have ha' : szB a ≤ 9218868437227405312 := Nat.le_of_not_lt ha
  by_cases hb : 9218868437227405312 < szB b
  · have hdb : decide (9218868437227405312 < szB b) = true := decide_eq_true hb
    have hr : cmpB a b = 1 := by unfold cmpB; rw [if_neg ha, if_pos hb]
    rw [hr]
    clear hr ha hb ha'
    go_enter Tryz.func105, Tryz.ntmps105
    go_wp2_with fail
    refine (isNaNF_any a w).mono ?_
    rintro e w1 ⟨rfl, rfl⟩
    rw [hda]
    go_wp2_with fail
    refine (isNaNF_any b w).mono ?_
    rintro e w1 ⟨rfl, rfl⟩
    rw [hdb]
    go_wp2_with fail
    go_ret
    exact ⟨rfl, rfl⟩
  · have hdb : decide (9218868437227405312 < szB b) = false := decide_eq_false hb
    have hb' : szB b ≤ 9218868437227405312 := Nat.le_of_not_lt hb
    have h1 : (FloatKind.f64.format.order a b == some .lt) = decide (sv a < sv b) := by rw [lt_cmp _ _ hb', decide_eq_decide]; exact ⟨fun h => h.2, fun h => ⟨ha', h⟩⟩
    have h2 : (FloatKind.f64.format.order a b == some .gt) = decide (sv b < sv a) := by rw [gt_cmp _ _ hb', decide_eq_decide]; exact ⟨fun h => h.2, fun h => ⟨ha', h⟩⟩
    have hr : cmpB a b = if sv a < sv b then -1 else if sv b < sv a then 1 else 0 := by unfold cmpB; rw [if_neg ha, if_neg hb]
    rw [hr]
    generalize sv a = x at h1 h2 ⊢
    generalize sv b = y at h1 h2 ⊢
    clear hr ha hb ha' hb'
    go_enter Tryz.func105, Tryz.ntmps105
    go_wp2_with fail
    refine (isNaNF_any a w).mono ?_
    rintro e w1 ⟨rfl, rfl⟩
    rw [hda]
    go_wp2_with fail
    refine (isNaNF_any b w).mono ?_
    rintro e w1 ⟨rfl, rfl⟩
    rw [hdb]
    go_wp2_with fail
    all_goals go_ret
    all_goals
      refine ⟨?_, rfl⟩
      rfl
theorem cmpNum_any (a b : Nat) (w : World) : Calls Tryz.prog 60 #[.float .f64 a, .float .f64 b] w fun e w' => e = .returned (.int .i64 (cmpB a b)) ∧ w = w' := by
  by_cases ha : 9218868437227405312 < szB a
  · have hr : cmpB a b = -1 := by unfold cmpB; rw [if_pos ha]
    rw [hr]
    exact cmpNum_nan a b ha w
  · have hd : decide (9218868437227405312 < szB a) = false := decide_eq_false ha
    have hc := cmpF_any a b ha w
    generalize cmpB a b = r at hc ⊢
    clear ha
    go_enter Tryz.func60, Tryz.ntmps60
    go_wp2_with fail
    refine (IsNaN_any a w).mono ?_
    rintro e w1 ⟨rfl, rfl⟩
    rw [hd]
    go_wp2_with fail
    refine hc.mono ?_
    rintro e w1 ⟨rfl, rfl⟩
    go_wp2_with fail
    go_ret
    exact ⟨rfl, rfl⟩
theorem isNaNS_any (s : ByteArray) (w : World) : Calls Tryz.prog 186 #[.string s] w fun e w' => e = .returned (.bool false) ∧ w = w' := by
  have h : (s.toList == s.toList) = true := by simp
  go_enter Tryz.func186, Tryz.ntmps186
  go_wp2_with fail
  go_ret
  exact ⟨rfl, rfl⟩
theorem less_leK (a b : ByteArray) : Op.bytesLess a.toList b.toList = !leK b a := by
  rw [bytesLess_is, Lib.toList_data, Lib.toList_data]
  unfold leK
  by_cases h : a.data.toList < b.data.toList
  · have h2 : ¬ b.data.toList ≤ a.data.toList := fun h2 => List.not_lt.2 h2 h
    simp [h, h2]
  · have h2 : b.data.toList ≤ a.data.toList := List.not_lt.1 h
    simp [h, h2]
theorem LessS_any (a b : ByteArray) (w : World) : Calls Tryz.prog 146 #[.string a, .string b] w fun e w' => e = .returned (.bool (!leK b a)) ∧ w = w' := by
  have h := less_leK a b
  go_enter Tryz.func146, Tryz.ntmps146
  go_wp2_with fail
  refine (isNaNS_any a w).mono ?_
  rintro e w1 ⟨rfl, rfl⟩
  go_wp2_with fail
  go_ret
  exact ⟨rfl, rfl⟩
/-- Rows whose neighbours are in order are sorted. -/
theorem pairs_sorted : ∀ l : List ByteArray, (∀ i (h : i + 1 < l.length), leK l[i] l[i + 1] = true) → l.Pairwise (fun a b => leK a b = true)
  | [], _ => List.Pairwise.nil
  | [_], _ => List.pairwise_singleton ..
  | a :: b :: l, h => by
    have ih := pairs_sorted (b :: l) fun i hi => by have := h (i + 1) (by simpa using hi); simpa using this
    refine List.Pairwise.cons (fun c hc => ?_) ih
    have hab : leK a b = true := by simpa using h 0 (by simp)
    rcases List.mem_cons.1 hc with rfl | hc
    · exact hab
    · exact leK_trans _ _ _ hab ((List.pairwise_cons.1 ih).1 c hc)
theorem sortK_id {l : List ByteArray} (h : ∀ i (h : i + 1 < l.length), leK l[i] l[i + 1] = true) : sortK l = l := (sortK_of (List.Perm.refl _) (pairs_sorted l h)).symm
set_option maxRecDepth 100000 in
set_option maxHeartbeats 2000000 in
theorem IsSorted_any (ks : List ByteArray) (kv : Value) (w : World) (hmax : ks.length ≤ 1048576) (hk : KeysAt w w.heap.size kv ks) :
    Calls Tryz.prog 107 #[kv] w fun e w' => ∃ r, e = .returned (.bool r) ∧ (r = true → sortK ks = ks) ∧ (r = false → 1 < ks.length) ∧ Below w.heap.size w w' := by
  obtain ⟨A, ad, c, rfl, hA, hac⟩ := hk.1.dest
  rw [List.length_map] at hA ⊢
  have HA := Lib.hid hA
  have HC := Lib.hid hac
  clear hk hA hac
  go_enter Tryz.func107, Tryz.ntmps107
  go_wp2_with fail
  go_loopw [3] (fun i W => ∃ x : Int, -1 ≤ x ∧ x < ks.length ∧ i = .int .i64 x ∧ (∀ j (h : j + 1 < ks.length), x ≤ j → leK ks[j] ks[j + 1] = true) ∧ Below w.heap.size w W) (fun i _ => (intOf i).toNat)
  case atStart => exact ⟨(ks.length : Int) - 1, by omega, by omega, by go_num, fun j h hx => by omega, Below.refl _ _⟩
  case round =>
    obtain ⟨x, hx1, hx2, rfl, hall, hbel⟩ := hrel
    have HALL := Lib.hid hall
    have HBEL := Lib.hid hbel
    clear hall hbel
    by_cases hlt : 0 < x
    · obtain ⟨y, rfl⟩ : ∃ y : Nat, x = (y : Int) := ⟨x.toNat, by omega⟩
      have hy : y < ks.length := by omega
      have hy1 : 1 ≤ y := by omega
      obtain ⟨rfl, hadb⟩ := HA.out (by omega)
      have c1 : wr.cell? (ad.add y) = some (.string ks[y]) := (HBEL.out.cell (p := ad.add y) (by rw [add_block]; exact hadb)).trans (HC.out y _ (by simp [hy]))
      have c0 : wr.cell? (ad.add (y - 1)) = some (.string (ks[y - 1]'(by omega))) := (HBEL.out.cell (p := ad.add (y - 1)) (by rw [add_block]; exact hadb)).trans (HC.out (y - 1) _ (by simp <;> omega))
      have hl := LessS_any ks[y] (ks[y - 1]'(by omega))
      have hid := fun (h : leK (ks[y - 1]'(by omega)) ks[y] = true) => h
      generalize hk1 : ks[y] = s1 at c1 hl hid
      generalize hk0 : ks[y - 1]'(by omega) = s0 at c0 hl hid
      have HK1 := Lib.hid hk1
      have HK0 := Lib.hid hk0
      clear hid hk1 hk0
      cases hle : leK s0 s1
      · rw [hle] at hl
        have HL := Lib.hid hl
        clear hl hle
        go_wp2_with fail
        go_quiet ((go_at_call 146; exact Calls.quiet_of_same ((HL.out _).mono (by rintro e w' ⟨he, rfl⟩; exact ⟨he, rfl⟩))))
        go_wp2_with fail
        go_ret
        exact ⟨false, rfl, (fun h => by cases h), (fun _ => by omega), below_drewN HBEL.out _⟩
      · rw [hle] at hl
        have HL := Lib.hid hl
        have HLE := Lib.hid hle
        clear hl hle
        go_wp2_with fail
        go_quiet ((go_at_call 146; exact Calls.quiet_of_same ((HL.out _).mono (by rintro e w' ⟨he, rfl⟩; exact ⟨he, rfl⟩))))
        go_wp2_with fail
        go_roundw
        case rel =>
          refine ⟨(y : Int) - 1, by omega, by omega, by go_num, fun j h hj => ?_, below_drewN HBEL.out _⟩
          by_cases e : j = y - 1
          · subst e
            have e2 : y - 1 + 1 = y := by omega
            have := HLE.out
            rw [← HK0.out, ← HK1.out] at this
            simpa [e2] using this
          · exact HALL.out j h (by omega)
        case measure => simp [intOf]; omega
    · have HS := Lib.hid (sortK_id (l := ks) fun j h => HALL.out j h (by omega))
      go_wp2_with fail
      go_ret
      exact Or.inr ⟨rfl, HS.out, HBEL.out⟩
end Go.Proofs.YtkklfdfmfdnjoaaGreatDoor
/- The order of two rows by a closure. -/
namespace Go.Proofs.YtkklfdfmfdnjoaaGreatDoor
open Go Go.RowKit

set_option maxRecDepth 100000 in
set_option maxHeartbeats 2000000 in
theorem rows1_any {α : Type} (xs ys : List α) (f : α → α → Int) (hx : xs.length ≤ 1048576) (_hy : ys.length ≤ 1048576) (p1 p2 : Value) (Inv : World → Prop) (hInv : ∀ w w', Inv w → Below w.heap.size w w' → Inv w')
    (hcall : ∀ i (h1 : i < xs.length) (h2 : i < ys.length) W, Inv W → Calls Tryz.prog 64 #[.int .i64 i, p1, p2] W fun e w' => e = .returned (.int .i64 (f xs[i] ys[i])) ∧ Below W.heap.size W w') (w : World) (hI : Inv w) :
    Calls Tryz.prog 63 #[.int .i64 xs.length, .int .i64 ys.length, .func (.func 64) #[] #[p1, p2]] w fun e w' => e = .returned (.int .i64 (cmpRow f xs ys)) ∧ Below w.heap.size w w' := by
  have HCALL := Lib.hid hcall
  have HINV := Lib.hid hInv
  have HI := Lib.hid hI
  obtain ⟨r, hr⟩ : ∃ r, cmpRow f xs ys = r := ⟨_, rfl⟩
  rw [hr]
  have HR := Lib.hid hr
  have hend : ∀ x : Nat, x = min xs.length ys.length → cmpRow f xs ys = cmpRow f (xs.drop x) (ys.drop x) → cmpI xs.length ys.length = r := fun x h1 h2 => (cmpRow_end h1 h2).symm.trans hr
  have HEND := Lib.hid hend
  clear hcall hInv hI hr hend
  have hmin : (if ((ys.length : Nat) : Int) < (xs.length : Int) then (ys.length : Int) else (xs.length : Int)) = ((min xs.length ys.length : Nat) : Int) := by split <;> omega
  have hcm := fun W => Tryz.cmp_Compare_int (xs.length : Int) (ys.length : Int) W
  rw [compareInt_is] at hcm
  have HCM := Lib.hid hcm
  clear hcm
  go_enter Tryz.func63, Tryz.ntmps63
  go_wp2_with fail
  go_loopw [12] (fun k W => ∃ x : Nat, x ≤ min xs.length ys.length ∧ k = .int .i64 x ∧ cmpRow f xs ys = cmpRow f (xs.drop x) (ys.drop x) ∧ Below w.heap.size w W) (fun k _ => min xs.length ys.length - (intOf k).toNat)
  case atStart => exact ⟨0, Nat.zero_le _, rfl, by simp, Below.refl _ _⟩
  case round =>
    obtain ⟨x, hxm, rfl, heq, hbel⟩ := hrel
    have HEQ := Lib.hid heq
    have HBEL := Lib.hid hbel
    have hx1 : x ≤ xs.length := by omega
    have hx2 : x ≤ ys.length := by omega
    clear heq hbel
    by_cases hlt : x < min xs.length ys.length
    · have h1 : x < xs.length := by omega
      have h2 : x < ys.length := by omega
      have hstep := cmpRow_go h1 h2 HEQ.out
      have hc := HCALL.out x h1 h2
      generalize f xs[x] ys[x] = q at hstep hc
      have HC := Lib.hid hc
      by_cases hq : q = 0
      · subst hq
        rw [if_pos rfl] at hstep
        have HSTEP := Lib.hid hstep
        clear hstep hc
        go_wp2_with fail
        refine (HC.out wr (HINV.out _ _ HI.out HBEL.out)).mono ?_
        rintro e w3 ⟨rfl, hb3⟩
        have HB3 := Lib.hid (HBEL.out.trans (hb3.mono HBEL.out.size))
        clear hb3
        go_wp2_with fail
        go_roundw
        case rel => exact ⟨x + 1, by omega, by go_num, HSTEP.out, HB3.out⟩
        case measure => simp [intOf]; omega
      · rw [if_neg hq] at hstep
        have HSTEP := Lib.hid (hstep.symm.trans HR.out)
        have hqb : (q != 0) = true := by simpa using hq
        clear hstep hc
        go_wp2_with fail
        refine (HC.out wr (HINV.out _ _ HI.out HBEL.out)).mono ?_
        rintro e w3 ⟨rfl, hb3⟩
        have HB3 := Lib.hid (HBEL.out.trans (hb3.mono HBEL.out.size))
        clear hb3
        go_wp2_with fail
        go_ret
        exact ⟨by rw [HSTEP.out]; rfl, HB3.out⟩
    · have he := HEND.out x (by omega) HEQ.out
      have HE := Lib.hid he
      clear he
      go_wp2_with fail
      refine (HCM.out wr).mono ?_
      rintro e w3 ⟨rfl, rfl⟩
      go_wp2_with fail
      go_ret
      exact ⟨by rw [HE.out]; rfl, HBEL.out⟩
set_option maxRecDepth 100000 in
set_option maxHeartbeats 2000000 in
theorem rows2_any {α : Type} (xs ys : List α) (f : α → α → Int) (hx : xs.length ≤ 1048576) (_hy : ys.length ≤ 1048576) (p1 p2 : Value) (Inv : World → Prop) (hInv : ∀ w w', Inv w → Below w.heap.size w w' → Inv w')
    (hcall : ∀ i (h1 : i < xs.length) (h2 : i < ys.length) W, Inv W → Calls Tryz.prog 65 #[.int .i64 i, p1, p2] W fun e w' => e = .returned (.int .i64 (f xs[i] ys[i])) ∧ Below W.heap.size W w') (w : World) (hI : Inv w) :
    Calls Tryz.prog 63 #[.int .i64 xs.length, .int .i64 ys.length, .func (.func 65) #[] #[p1, p2]] w fun e w' => e = .returned (.int .i64 (cmpRow f xs ys)) ∧ Below w.heap.size w w' := by
  have HCALL := Lib.hid hcall
  have HINV := Lib.hid hInv
  have HI := Lib.hid hI
  obtain ⟨r, hr⟩ : ∃ r, cmpRow f xs ys = r := ⟨_, rfl⟩
  rw [hr]
  have HR := Lib.hid hr
  have hend : ∀ x : Nat, x = min xs.length ys.length → cmpRow f xs ys = cmpRow f (xs.drop x) (ys.drop x) → cmpI xs.length ys.length = r := fun x h1 h2 => (cmpRow_end h1 h2).symm.trans hr
  have HEND := Lib.hid hend
  clear hcall hInv hI hr hend
  have hmin : (if ((ys.length : Nat) : Int) < (xs.length : Int) then (ys.length : Int) else (xs.length : Int)) = ((min xs.length ys.length : Nat) : Int) := by split <;> omega
  have hcm := fun W => Tryz.cmp_Compare_int (xs.length : Int) (ys.length : Int) W
  rw [compareInt_is] at hcm
  have HCM := Lib.hid hcm
  clear hcm
  go_enter Tryz.func63, Tryz.ntmps63
  go_wp2_with fail
  go_loopw [12] (fun k W => ∃ x : Nat, x ≤ min xs.length ys.length ∧ k = .int .i64 x ∧ cmpRow f xs ys = cmpRow f (xs.drop x) (ys.drop x) ∧ Below w.heap.size w W) (fun k _ => min xs.length ys.length - (intOf k).toNat)
  case atStart => exact ⟨0, Nat.zero_le _, rfl, by simp, Below.refl _ _⟩
  case round =>
    obtain ⟨x, hxm, rfl, heq, hbel⟩ := hrel
    have HEQ := Lib.hid heq
    have HBEL := Lib.hid hbel
    have hx1 : x ≤ xs.length := by omega
    have hx2 : x ≤ ys.length := by omega
    clear heq hbel
    by_cases hlt : x < min xs.length ys.length
    · have h1 : x < xs.length := by omega
      have h2 : x < ys.length := by omega
      have hstep := cmpRow_go h1 h2 HEQ.out
      have hc := HCALL.out x h1 h2
      generalize f xs[x] ys[x] = q at hstep hc
      have HC := Lib.hid hc
      by_cases hq : q = 0
      · subst hq
        rw [if_pos rfl] at hstep
        have HSTEP := Lib.hid hstep
        clear hstep hc
        go_wp2_with fail
        refine (HC.out wr (HINV.out _ _ HI.out HBEL.out)).mono ?_
        rintro e w3 ⟨rfl, hb3⟩
        have HB3 := Lib.hid (HBEL.out.trans (hb3.mono HBEL.out.size))
        clear hb3
        go_wp2_with fail
        go_roundw
        case rel => exact ⟨x + 1, by omega, by go_num, HSTEP.out, HB3.out⟩
        case measure => simp [intOf]; omega
      · rw [if_neg hq] at hstep
        have HSTEP := Lib.hid (hstep.symm.trans HR.out)
        have hqb : (q != 0) = true := by simpa using hq
        clear hstep hc
        go_wp2_with fail
        refine (HC.out wr (HINV.out _ _ HI.out HBEL.out)).mono ?_
        rintro e w3 ⟨rfl, hb3⟩
        have HB3 := Lib.hid (HBEL.out.trans (hb3.mono HBEL.out.size))
        clear hb3
        go_wp2_with fail
        go_ret
        exact ⟨by rw [HSTEP.out]; rfl, HB3.out⟩
    · have he := HEND.out x (by omega) HEQ.out
      have HE := Lib.hid he
      clear he
      go_wp2_with fail
      refine (HCM.out wr).mono ?_
      rintro e w3 ⟨rfl, rfl⟩
      go_wp2_with fail
      go_ret
      exact ⟨by rw [HE.out]; rfl, HBEL.out⟩
end Go.Proofs.YtkklfdfmfdnjoaaGreatDoor

/- Objects merged, key by key: plain. -/
import Derived.Test.YtdlighmnlcklnaaGreatDoorULarge
import Derived.Lib.SlicesS
namespace Go.Proofs.YtdlighmnlcklnaaGreatDoor
open Go Go.RowKit

/-- The first t keys of b put into a: where a has the key, J of the two. -/
def mergeTo (J : V → V → V) (a b : V) : Nat → List V × List ByteArray
  | 0 => (a.l, a.ks)
  | t + 1 => if Lib.idxOfS a.ks (b.ks.getD t default) = -1 then ((mergeTo J a b t).1 ++ [b.l.getD t default], (mergeTo J a b t).2 ++ [b.ks.getD t default])
      else ((mergeTo J a b t).1.set (Lib.idxOfS a.ks (b.ks.getD t default)).toNat (J (a.l.getD (Lib.idxOfS a.ks (b.ks.getD t default)).toNat default) (b.l.getD t default)), (mergeTo J a b t).2)
def mergeV (J : V → V → V) (a b : V) : V := .mk 6 0 ⟨#[]⟩ (mergeTo J a b b.ks.length).1 (mergeTo J a b b.ks.length).2
theorem firstM_at (x : ByteArray) : ∀ zs : List ByteArray, x ∈ zs → ∃ i : Nat, ∃ h : i < zs.length, zs[i] = x ∧ ∀ j (hj : j < i), zs[j]'(by omega) ≠ x
  | [], h => by cases h
  | z :: zs, h => by
    by_cases e : z = x
    · exact ⟨0, by simp, e, fun j hj => absurd hj (by omega)⟩
    · obtain ⟨i, hi, he, hn⟩ := firstM_at x zs ((List.mem_cons.1 h).resolve_left fun q => e q.symm)
      refine ⟨i + 1, by simp; omega, he, fun j hj => ?_⟩
      cases j with
      | zero => exact e
      | succ j => exact hn j (by omega)
theorem idxM_cases (zs : List ByteArray) (x : ByteArray) : (Lib.idxOfS zs x = -1 ∧ x ∉ zs) ∨ ∃ i : Nat, ∃ h : i < zs.length, Lib.idxOfS zs x = (i : Int) ∧ zs[i] = x ∧ ∀ j (hj : j < i), zs[j]'(by omega) ≠ x := by
  by_cases hm : x ∈ zs
  · right
    obtain ⟨i, hi, he, hn⟩ := firstM_at x zs hm
    refine ⟨i, hi, ?_, he, hn⟩
    have := Lib.idxOfS_hit zs zs.length i x hi (Nat.le_refl _) (by rw [List.getD, List.getElem?_eq_getElem hi]; exact he) (fun j hj e => hn j hj (by rw [List.getD, List.getElem?_eq_getElem (by omega)] at e; exact e))
    rw [List.take_length] at this
    exact this
  · left
    refine ⟨?_, hm⟩
    have := Lib.idxOfS_miss zs zs.length x (fun j hj e => hm (by rw [List.getD, List.getElem?_eq_getElem hj] at e; rw [← e]; exact List.getElem_mem _))
    rw [List.take_length] at this
    exact this
theorem getD_at {α : Type} (d : α) {l : List α} {i : Nat} (h : i < l.length) : l.getD i d = l[i] := by simp [List.getD, h]
theorem idxM_at {ks : List ByteArray} (hn : ks.Nodup) {i : Nat} (hi : i < ks.length) : Lib.idxOfS ks ks[i] = (i : Int) := by
  rcases idxM_cases ks ks[i] with ⟨_, h⟩ | ⟨j, hj, e, e2, _⟩
  · exact absurd (List.getElem_mem hi) h
  · rw [e]
    have := (List.getElem_inj (h₀ := hj) (h₁ := hi) hn).1 e2
    omega
theorem idxM_none {ks : List ByteArray} {x : ByteArray} (h : x ∉ ks) : Lib.idxOfS ks x = -1 := by
  rcases idxM_cases ks x with ⟨h, _⟩ | ⟨j, hj, _, e2, _⟩
  · exact h
  · exact absurd (e2 ▸ List.getElem_mem hj) h
theorem mergeTo_hit (J : V → V → V) {a b : V} (hna : a.ks.Nodup) (hla : a.ks.length = a.l.length) (hlb : b.ks.length = b.l.length) {i t : Nat} (hi : i < a.ks.length) (ht : t < b.ks.length) (e : a.ks[i] = b.ks[t]) :
    mergeTo J a b (t + 1) = ((mergeTo J a b t).1.set i (J (a.l[i]'(by omega)) (b.l[t]'(by omega))), (mergeTo J a b t).2) := by
  have h1 : Lib.idxOfS a.ks (b.ks.getD t default) = (i : Int) := by rw [getD_at _ ht, ← e]; exact idxM_at hna hi
  show (if _ then _ else _) = _
  rw [h1, if_neg (by omega), Int.toNat_natCast, getD_at _ (by omega : i < a.l.length), getD_at _ (by omega : t < b.l.length)]
theorem mergeTo_miss (J : V → V → V) {a b : V} (hlb : b.ks.length = b.l.length) {t : Nat} (ht : t < b.ks.length) (h : b.ks[t] ∉ a.ks) :
    mergeTo J a b (t + 1) = ((mergeTo J a b t).1 ++ [b.l[t]'(by omega)], (mergeTo J a b t).2 ++ [b.ks[t]]) := by
  have h1 : Lib.idxOfS a.ks (b.ks.getD t default) = -1 := by rw [getD_at _ ht]; exact idxM_none h
  show (if _ then _ else _) = _
  rw [h1, if_pos rfl, getD_at _ ht, getD_at _ (by omega : t < b.l.length)]
theorem sum_setN {α : Type} (f : α → Nat) : ∀ (l : List α) (i : Nat) (h : i < l.length) (y : α), ((l.set i y).map f).sum + f l[i] = (l.map f).sum + f y
  | [], _, h, _ => absurd h (by simp)
  | x :: r, 0, _, y => by simp; omega
  | x :: r, i + 1, h, y => by
    have := sum_setN f r i (by simpa using h) y
    simp only [List.set_cons_succ, List.map_cons, List.sum_cons, List.getElem_cons_succ]
    omega
/-- What t keys have made of a. -/
structure MT (J : V → V → V) (a b : V) (t : Nat) (L : List V) (K : List ByteArray) : Prop where
  len : L.length = K.length
  nd : K.Nodup
  pre : ∀ i (h : i < a.ks.length), K[i]? = some a.ks[i]
  old : ∀ i (h : i < a.ks.length), (∀ j (hj : j < b.ks.length), j < t → b.ks[j] ≠ a.ks[i]) → L[i]? = a.l[i]?
  met : ∀ i j (h : i < a.ks.length) (hj : j < b.ks.length), j < t → a.ks[i] = b.ks[j] → ∃ (x y : V), a.l[i]? = some x ∧ b.l[j]? = some y ∧ L[i]? = some (J x y)
  new : ∀ j (hj : j < b.ks.length), j < t → b.ks[j] ∉ a.ks → ∃ (p : Nat) (y : V), K[p]? = some b.ks[j] ∧ b.l[j]? = some y ∧ L[p]? = some y
  mem : ∀ k : ByteArray, k ∈ K → k ∈ a.ks ∨ ∃ j, ∃ hj : j < b.ks.length, j < t ∧ b.ks[j] = k
  each : ∀ x : V, x ∈ L → x ∈ a.l ∨ x ∈ b.l ∨ ∃ x1 ∈ a.l, ∃ y1 ∈ b.l, x = J x1 y1
  lenK : K.length ≤ a.ks.length + t
  keysK : keysLen K ≤ keysLen a.ks + keysLen (b.ks.take t)
  bulk : ∀ f : V → Nat, (∀ x y, f (J x y) ≤ f x + f y) → (L.map f).sum ≤ (a.l.map f).sum + ((b.l.take t).map f).sum
theorem keysLen_snoc (ks : List ByteArray) (k : ByteArray) : keysLen (ks ++ [k]) = keysLen ks + k.size := by unfold keysLen; simp
theorem nodup_ne {α : Type} {l : List α} (h : l.Nodup) {i j : Nat} (hi : i < l.length) (hj : j < l.length) (hne : i ≠ j) : l[i] ≠ l[j] := fun e => hne ((List.getElem_inj (h₀ := hi) (h₁ := hj) h).1 e)
theorem MT.start (J : V → V → V) {a b : V} (hna : a.ks.Nodup) (hla : a.ks.length = a.l.length) : MT J a b 0 a.l a.ks :=
  ⟨hla.symm, hna, fun i h => by simp [h], fun _ _ _ => rfl, fun _ _ _ _ h => absurd h (by omega), fun _ _ h => absurd h (by omega), fun k h => Or.inl h, fun x h => Or.inl h, by simp, by simp, fun f _ => by simp⟩
theorem MT.hit {J : V → V → V} {a b : V} {t : Nat} {L : List V} {K : List ByteArray} (h : MT J a b t L K) (hna : a.ks.Nodup) (hnb : b.ks.Nodup) (hla : a.ks.length = a.l.length) (hlb : b.ks.length = b.l.length) {i : Nat} (hi : i < a.ks.length) (ht : t < b.ks.length) (e : a.ks[i] = b.ks[t]) :
    MT J a b (t + 1) (L.set i (J (a.l[i]'(by omega)) (b.l[t]'(by omega)))) K := by
  have hiK : i < K.length := (List.getElem?_eq_some_iff.1 (h.pre i hi)).1
  have hiL : i < L.length := by rw [h.len]; exact hiK
  have hold : L[i]? = a.l[i]? := h.old i hi fun j hj hjt q => nodup_ne hnb hj ht (by omega) (q.trans e)
  have hLi : L[i] = a.l[i]'(by omega) := by
    rw [List.getElem?_eq_getElem hiL, List.getElem?_eq_getElem (by omega : i < a.l.length)] at hold
    exact Option.some.inj hold
  refine ⟨by simp [h.len], h.nd, h.pre, ?_, ?_, ?_, ?_, ?_, by have := h.lenK; omega, ?_, ?_⟩
  · intro i' hi' hno
    have hne : i ≠ i' := fun q => hno t ht (by omega) (by subst q; exact e.symm)
    rw [List.getElem?_set_ne hne]
    exact h.old i' hi' fun j hj hjt => hno j hj (by omega)
  · intro i' j hi' hj hjt q
    by_cases hjt' : j = t
    · subst hjt'
      have : i' = i := by
        have := (List.getElem_inj (h₀ := hi') (h₁ := hi) hna).1 (q.trans e.symm)
        omega
      subst this
      exact ⟨_, _, List.getElem?_eq_getElem (by omega), List.getElem?_eq_getElem (by omega), by rw [List.getElem?_set_self hiL]⟩
    · have hne : i ≠ i' := fun z => by
        subst z
        exact nodup_ne hnb hj ht hjt' (q.symm.trans e)
      rw [List.getElem?_set_ne hne]
      exact h.met i' j hi' hj (by omega) q
  · intro j hj hjt hno
    have hjt' : j ≠ t := fun z => by
      subst z
      exact hno (e ▸ List.getElem_mem hi)
    obtain ⟨p, y, h1, h2, h3⟩ := h.new j hj (by omega) hno
    have hne : i ≠ p := fun z => by
      subst z
      rw [h.pre i hi] at h1
      exact hno (Option.some.inj h1 ▸ List.getElem_mem hi)
    exact ⟨p, y, h1, h2, by rw [List.getElem?_set_ne hne]; exact h3⟩
  · intro k hk
    rcases h.mem k hk with q | ⟨j, hj, q1, q2⟩
    · exact Or.inl q
    · exact Or.inr ⟨j, hj, by omega, q2⟩
  · intro x hx
    rcases List.mem_or_eq_of_mem_set hx with q | q
    · exact h.each x q
    · exact Or.inr (Or.inr ⟨_, List.getElem_mem (by omega), _, List.getElem_mem (by omega), q⟩)
  · have := keysLen_up b.ks t ht
    have := h.keysK
    omega
  · intro f hf
    have h1 := h.bulk f hf
    have h2 := sum_setN f L i hiL (J (a.l[i]'(by omega)) (b.l[t]'(by omega)))
    have h3 := hf (a.l[i]'(by omega)) (b.l[t]'(by omega))
    rw [hLi] at h2
    rw [List.take_succ_eq_append_getElem (by omega : t < b.l.length), List.map_append, List.sum_append]
    simp only [List.map_cons, List.map_nil, List.sum_cons, List.sum_nil]
    omega
theorem MT.miss {J : V → V → V} {a b : V} {t : Nat} {L : List V} {K : List ByteArray} (h : MT J a b t L K) (hnb : b.ks.Nodup) (hla : a.ks.length = a.l.length) (hlb : b.ks.length = b.l.length) (ht : t < b.ks.length) (hno : b.ks[t] ∉ a.ks) :
    MT J a b (t + 1) (L ++ [b.l[t]'(by omega)]) (K ++ [b.ks[t]]) := by
  have hnot : b.ks[t] ∉ K := fun q => by
    rcases h.mem _ q with q | ⟨j, hj, h1, h2⟩
    · exact hno q
    · exact nodup_ne hnb hj ht (by omega) h2
  have hlen := h.len
  refine ⟨by simp [h.len], ?_, ?_, ?_, ?_, ?_, ?_, ?_, ?_, ?_, ?_⟩
  · refine List.nodup_append.2 ⟨h.nd, by simp, fun x hx y hy => ?_⟩
    have : y = b.ks[t] := by simpa using hy
    subst this
    exact fun e => hnot (e ▸ hx)
  · intro i hi
    have := (List.getElem?_eq_some_iff.1 (h.pre i hi)).1
    rw [List.getElem?_append_left this]
    exact h.pre i hi
  · intro i hi hn
    have := (List.getElem?_eq_some_iff.1 (h.pre i hi)).1
    rw [List.getElem?_append_left (by omega)]
    exact h.old i hi fun j hj hjt => hn j hj (by omega)
  · intro i j hi hj hjt q
    have hjt' : j ≠ t := fun z => by
      subst z
      exact hno (q ▸ List.getElem_mem hi)
    obtain ⟨x, y, h1, h2, h3⟩ := h.met i j hi hj (by omega) q
    have := (List.getElem?_eq_some_iff.1 h3).1
    exact ⟨x, y, h1, h2, by rw [List.getElem?_append_left this]; exact h3⟩
  · intro j hj hjt hn
    by_cases hjt' : j = t
    · subst hjt'
      refine ⟨K.length, b.l[j]'(by omega), ?_, List.getElem?_eq_getElem (by omega), ?_⟩
      · simp
      · rw [← hlen]; simp
    · obtain ⟨p, y, h1, h2, h3⟩ := h.new j hj (by omega) hn
      have q1 := (List.getElem?_eq_some_iff.1 h1).1
      have q3 := (List.getElem?_eq_some_iff.1 h3).1
      exact ⟨p, y, by rw [List.getElem?_append_left q1]; exact h1, h2, by rw [List.getElem?_append_left q3]; exact h3⟩
  · intro k hk
    rcases List.mem_append.1 hk with q | q
    · rcases h.mem k q with q | ⟨j, hj, q1, q2⟩
      · exact Or.inl q
      · exact Or.inr ⟨j, hj, by omega, q2⟩
    · have : k = b.ks[t] := by simpa using q
      exact Or.inr ⟨t, ht, by omega, this.symm⟩
  · intro x hx
    rcases List.mem_append.1 hx with q | q
    · exact h.each x q
    · have : x = b.l[t]'(by omega) := by simpa using q
      exact Or.inr (Or.inl (this ▸ List.getElem_mem _))
  · have := h.lenK
    rw [List.length_append]
    simp
    omega
  · have := keysLen_up b.ks t ht
    have := h.keysK
    rw [keysLen_snoc]
    omega
  · intro f hf
    have h1 := h.bulk f hf
    rw [List.take_succ_eq_append_getElem (by omega : t < b.l.length), List.map_append, List.sum_append, List.map_append, List.sum_append]
    simp only [List.map_cons, List.map_nil, List.sum_cons, List.sum_nil]
    omega
theorem mt_any (J : V → V → V) {a b : V} (hna : a.ks.Nodup) (hnb : b.ks.Nodup) (hla : a.ks.length = a.l.length) (hlb : b.ks.length = b.l.length) : ∀ t, t ≤ b.ks.length → MT J a b t (mergeTo J a b t).1 (mergeTo J a b t).2
  | 0, _ => MT.start J hna hla
  | t + 1, ht => by
    have ih := mt_any J hna hnb hla hlb t (by omega)
    by_cases hm : b.ks[t] ∈ a.ks
    · obtain ⟨i, hi, e⟩ := List.getElem_of_mem hm
      rw [mergeTo_hit J hna hla hlb hi (by omega) e]
      exact ih.hit hna hnb hla hlb hi (by omega) e
    · rw [mergeTo_miss J hlb (by omega) hm]
      exact ih.miss hnb hla hlb (by omega) hm
end Go.Proofs.YtdlighmnlcklnaaGreatDoor

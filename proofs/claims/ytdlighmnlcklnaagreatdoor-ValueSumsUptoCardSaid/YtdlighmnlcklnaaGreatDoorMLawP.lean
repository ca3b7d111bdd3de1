/- Objects merged: what follows of the merged one, plain; Get in one form. -/
import Derived.Test.YtdlighmnlcklnaaGreatDoorMOp
import Derived.Test.YtdlighmnlcklnaaGreatDoorUTidy
import Derived.Test.YtdlighmnlcklnaaGreatDoorURightW
namespace Go.Proofs.YtdlighmnlcklnaaGreatDoor
open Go Go.RowKit

theorem atP_levM {w : World} {p : Nat → Prop} : ∀ (n n' : Nat) (v : V) (lv kv : Value), n ≤ n' → AtP w p n v lv kv → AtP w p n' v lv kv
  | 0, _, _, _, _, _, h => h.elim
  | n + 1, 0, _, _, _, hn, _ => absurd hn (by omega)
  | n + 1, n' + 1, v, lv, kv, hn, h => by
    obtain ⟨hs, ha, hcp, a, c, b, o, e, hab, hi⟩ := h
    refine ⟨hs, ha, hcp, a, c, b, o, e, hab, fun i hlt => ?_⟩
    obtain ⟨lv', kv', h5, h⟩ := hi i hlt
    exact ⟨lv', kv', h5, atP_levM n n' _ _ _ (by omega) h⟩
theorem sortedM_nodup : ∀ l : List ByteArray, l.Pairwise (fun a b => leK a b = true) → (∀ i, i + 1 < l.length → l.getD (i + 1) default ≠ l.getD i default) → l.Nodup
  | [], _, _ => List.nodup_nil
  | [a], _, _ => by simp
  | a :: b :: r, hp, hne => by
    have ih := sortedM_nodup (b :: r) hp.of_cons (fun i hi => hne (i + 1) (by simpa using hi))
    refine List.nodup_cons.2 ⟨fun hm => ?_, ih⟩
    have hab : leK a b = true := (List.pairwise_cons.1 hp).1 b (by simp)
    have hba : a ≠ b := fun e => hne 0 (by simp) (by simp [e])
    rcases List.mem_cons.1 hm with e | hm
    · exact hba e
    · have h2 : leK b a = true := (List.pairwise_cons.1 (List.pairwise_cons.1 hp).2).1 a hm
      exact hba (leK_anti a b hab h2)
theorem okM_nodup {ks : List ByteArray} (h : okK (sortK ks) = true) : ks.Nodup := by
  refine (sortK_perm ks).nodup_iff.1 (sortedM_nodup _ (sortK_sorted ks) fun i hi e => ?_)
  unfold okK at h
  rw [List.all_eq_true] at h
  have h1 := h (i + 1) (by simpa using hi)
  unfold okAt at h1
  rw [e] at h1
  simp at h1
theorem okM_good {ks : List ByteArray} (h : okK (sortK ks) = true) {k : ByteArray} (hk : k ∈ ks) : allGood k 0 = true := by
  have hm : k ∈ sortK ks := (sortK_perm ks).mem_iff.2 hk
  obtain ⟨i, hi, e⟩ := List.getElem_of_mem hm
  unfold okK at h
  rw [List.all_eq_true] at h
  have h1 := h i (by simpa using hi)
  unfold okAt at h1
  rw [getD_at _ hi, e, Bool.and_eq_true] at h1
  exact h1.1
theorem zeroV_is {f : Nat} (h : zeroV f = true) : f = 0 := by
  unfold zeroV at h
  simpa using h
theorem toList_nil {s : ByteArray} (h : s.toList = []) : s = ⟨#[]⟩ := by
  rw [Lib.toList_data] at h
  cases s
  simp at h
  simp [h]
theorem right_head {d : Nat} {v : V} (h : rightV d v = true) : headOK v = true ∧ ∃ d', ∀ x ∈ v.l, rightV d' x = true := by
  cases d with
  | zero => cases h
  | succ d =>
    rw [rightV_pos (by omega), Bool.and_eq_true, List.all_eq_true] at h
    exact ⟨h.1, _, fun x hx => h.2 x hx⟩
theorem rightM_obj {d : Nat} {v : V} (h : rightV d v = true) (hk : v.k = 6) : v.ks.Nodup ∧ v.ks.length = v.l.length ∧ v.f = 0 ∧ v.s = ⟨#[]⟩ ∧ ∀ k ∈ v.ks, cleanS k = k := by
  have hok := (headOK_iff v).1 (right_head h).1
  refine ⟨okM_nodup hok.2.2.2.2.2.2.2, hok.2.2.2.2.1.resolve_left (by simp [hk]), zeroV_is (hok.2.1.resolve_left (by omega)), toList_nil (hok.2.2.1.resolve_left (by omega)), fun k hm => ?_⟩
  have h1 := good_clean k
  rw [okM_good hok.2.2.2.2.2.2.2 hm] at h1
  exact of_decide_eq_true h1.symm
theorem right_okO : ∀ (m : Nat) (d : Nat) (v : V), rightV d v = true → okO m v
  | 0, _, _, _ => trivial
  | m + 1, d, v, h => by
    obtain ⟨d', hd⟩ := (right_head h).2
    exact ⟨fun hk => ⟨(rightM_obj h hk).1, (rightM_obj h hk).2.1, (rightM_obj h hk).2.2.1, (rightM_obj h hk).2.2.2.1⟩, fun x hx => right_okO m d' x (hd x hx)⟩
theorem at_smalls {w : World} {B : Nat} : ∀ (m : Nat) (v : V) (lv kv : Value), At w B m v lv kv → Smalls m v
  | 0, _, _, _, _ => trivial
  | m + 1, v, lv, kv, h => by
    obtain ⟨hs, _, _, a, c, b, o, _, _, hi⟩ := h.opened
    refine ⟨hs, fun x hx => ?_⟩
    obtain ⟨i, hlt, rfl⟩ := List.getElem_of_mem hx
    obtain ⟨lv', kv', _, hat⟩ := hi i hlt
    exact at_smalls m _ _ _ hat
theorem sumTo_list (f : V → Nat) (l : List V) : ∀ n, n ≤ l.length → sumTo (fun i => f (l.getD i default)) n = ((l.take n).map f).sum
  | 0, _ => rfl
  | n + 1, h => by
    show sumTo _ n + f (l.getD n default) = _
    rw [sumTo_list f l n (by omega), List.take_succ_eq_append_getElem (by omega : n < l.length), List.map_append, List.sum_append, getD_at _ (by omega : n < l.length)]
    simp
theorem bulk_is (m : Nat) (v : V) : bulkV (m + 1) v = 5 + v.s.size + v.ks.length + keysLen v.ks + (v.l.map (bulkV m)).sum := by
  show 5 + v.s.size + v.ks.length + keysLen v.ks + sumTo (fun i => bulkV m (v.l.getD i default)) v.l.length = _
  rw [sumTo_list (bulkV m) v.l v.l.length (Nat.le_refl _), List.take_length]
theorem bulk_pos1 (m : Nat) (v : V) : m = 0 ∨ 5 ≤ bulkV m v := by
  cases m with
  | zero => exact Or.inl rfl
  | succ m => right; rw [bulk_is]; omega
open Classical in
/-- A merged object is no more than both. -/
theorem bulk_prod : ∀ (m : Nat) (a b : V), okO m a → okO m b → a.k = 6 → b.k = 6 → bulkV m (prodV m a b) ≤ bulkV m a + bulkV m b
  | 0, _, _, _, _, _, _ => by simp [bulkV]
  | m + 1, a, b, oa, ob, ka, kb => by
    obtain ⟨hna, hla, -, -⟩ := oa.1 ka
    obtain ⟨hnb, hlb, -, -⟩ := ob.1 kb
    have h := mt_any (fun x y => if x.k = 6 ∧ y.k = 6 ∧ okO m x ∧ okO m y then prodV m x y else y) hna hnb hla hlb b.ks.length (Nat.le_refl _)
    have hsame : ∀ t, t ≤ b.ks.length → mergeTo (fun x y => if x.k = 6 ∧ y.k = 6 ∧ okO m x ∧ okO m y then prodV m x y else y) a b t = mergeTo (jn m) a b t := by
      intro t
      induction t with
      | zero => intro _; rfl
      | succ t iht =>
        intro ht
        by_cases hm : b.ks[t] ∈ a.ks
        · obtain ⟨i, hi, e⟩ := List.getElem_of_mem hm
          rw [mergeTo_hit _ hna hla hlb hi (by omega) e, mergeTo_hit _ hna hla hlb hi (by omega) e, iht (by omega)]
          congr 1
          congr 1
          show (if _ then _ else _) = jn m _ _
          unfold jn
          by_cases hk : (a.l[i]'(by omega)).k = 6 ∧ (b.l[t]'(by omega)).k = 6
          · rw [if_pos hk, if_pos ⟨hk.1, hk.2, oa.2 _ (List.getElem_mem _), ob.2 _ (List.getElem_mem _)⟩]
          · rw [if_neg hk, if_neg (fun q => hk ⟨q.1, q.2.1⟩)]
        · rw [mergeTo_miss _ hlb (by omega) hm, mergeTo_miss _ hlb (by omega) hm, iht (by omega)]
    have hb := h.bulk (bulkV m) (fun x y => by
      show bulkV m (if _ then _ else _) ≤ _
      split
      · rename_i q
        exact bulk_prod m x y q.2.2.1 q.2.2.2 q.1 q.2.1
      · omega)
    have hk1 := h.lenK
    have hk2 := h.keysK
    rw [hsame _ (Nat.le_refl _)] at hb hk1 hk2
    rw [List.take_length] at hk2
    have e0 : b.l.take b.ks.length = b.l := by rw [hlb]; exact List.take_length
    rw [e0] at hb
    rw [prodV_is, bulk_is, bulk_is, bulk_is]
    show 5 + 0 + (mergeTo (jn m) a b b.ks.length).2.length + keysLen (mergeTo (jn m) a b b.ks.length).2 + ((mergeTo (jn m) a b b.ks.length).1.map (bulkV m)).sum ≤ _
    omega
theorem sum_mem {f : V → Nat} : ∀ {l : List V} {x : V}, x ∈ l → f x ≤ (l.map f).sum
  | y :: r, x, h => by
    rcases List.mem_cons.1 h with e | e
    · subst e; simp
    · have := sum_mem (f := f) e
      simp; omega
theorem sum_len (m : Nat) : ∀ l : List V, 5 * l.length ≤ (l.map (bulkV (m + 1))).sum
  | [] => by simp
  | x :: r => by
    have := sum_len m r
    have h5 := (bulk_pos1 (m + 1) x).resolve_left (by omega)
    simp
    omega
theorem smalls_prod : ∀ (m : Nat) (a b : V), okO m a → okO m b → a.k = 6 → b.k = 6 → Smalls m a → Smalls m b → bulkV m a + bulkV m b ≤ 1048576 → Smalls m (prodV m a b)
  | 0, _, _, _, _, _, _, _, _, _ => trivial
  | m + 1, a, b, oa, ob, ka, kb, sa, sb, hb => by
    obtain ⟨hna, hla, -, -⟩ := oa.1 ka
    obtain ⟨hnb, hlb, -, -⟩ := ob.1 kb
    have h := mt_any (jn m) hna hnb hla hlb b.ks.length (Nat.le_refl _)
    have hbk := bulk_prod (m + 1) a b oa ob ka kb
    have ea := bulk_is m a
    have eb := bulk_is m b
    rw [prodV_is, bulk_is] at hbk
    rw [prodV_is]
    have hk2 : keysLen (mergeV (jn m) a b).ks ≤ 1048576 := by omega
    have hlen := h.len
    refine ⟨⟨by show (-9223372036854775808 : Int) ≤ 6; omega, by show (6 : Int) ≤ _; omega, by show 0 < _; omega, by show 0 ≤ _; omega, ?_, by omega, hk2⟩, fun x hx => ?_⟩
    · show (mergeTo (jn m) a b b.ks.length).1.length ≤ _
      rw [hlen]
      have : (mergeV (jn m) a b).ks.length ≤ 1048576 := by omega
      exact this
    · rcases h.each x hx with q | q | ⟨x1, q1, y1, q2, rfl⟩
      · exact sa.2 x q
      · exact sb.2 x q
      · unfold jn
        by_cases hk : x1.k = 6 ∧ y1.k = 6
        · rw [if_pos hk]
          refine smalls_prod m x1 y1 (oa.2 _ q1) (ob.2 _ q2) hk.1 hk.2 (sa.2 _ q1) (sb.2 _ q2) ?_
          have := sum_mem (f := bulkV m) q1
          have := sum_mem (f := bulkV m) q2
          omega
        · rw [if_neg hk]
          exact sb.2 _ q2
theorem okO_prod : ∀ (m : Nat) (a b : V), okO m a → okO m b → a.k = 6 → b.k = 6 → okO m (prodV m a b)
  | 0, _, _, _, _, _, _ => trivial
  | m + 1, a, b, oa, ob, ka, kb => by
    obtain ⟨hna, hla, -, -⟩ := oa.1 ka
    obtain ⟨hnb, hlb, -, -⟩ := ob.1 kb
    have h := mt_any (jn m) hna hnb hla hlb b.ks.length (Nat.le_refl _)
    rw [prodV_is]
    refine ⟨fun _ => ⟨h.nd, h.len.symm, rfl, rfl⟩, fun x hx => ?_⟩
    rcases h.each x hx with q | q | ⟨x1, q1, y1, q2, rfl⟩
    · exact oa.2 x q
    · exact ob.2 x q
    · unfold jn
      by_cases hk : x1.k = 6 ∧ y1.k = 6
      · rw [if_pos hk]
        exact okO_prod m x1 y1 (oa.2 _ q1) (ob.2 _ q2) hk.1 hk.2
      · rw [if_neg hk]
        exact ob.2 _ q2
/-- A merge in which every key of the second object stands already, and nothing changes there. -/
theorem merge_none (J : V → V → V) {a b : V} (hna : a.ks.Nodup) (hla : a.ks.length = a.l.length) (hlb : b.ks.length = b.l.length) (h : ∀ j (hj : j < b.ks.length), ∃ i, ∃ hi : i < a.ks.length, a.ks[i] = b.ks[j] ∧ J (a.l[i]'(by omega)) (b.l[j]'(by omega)) = a.l[i]'(by omega)) : ∀ t, t ≤ b.ks.length → mergeTo J a b t = (a.l, a.ks)
  | 0, _ => rfl
  | t + 1, ht => by
    obtain ⟨i, hi, e, hJ⟩ := h t (by omega)
    rw [mergeTo_hit J hna hla hlb hi (by omega) e, merge_none J hna hla hlb h t (by omega), hJ]
    simp
theorem jn_self (m : Nat) (ih : ∀ y, okO m y → y.k = 6 → prodV m y y = y) (y : V) (oy : okO m y) : jn m y y = y := by
  unfold jn
  split
  · rename_i h
    exact ih y oy h.1
  · rfl
theorem merge_back {J : V → V → V} {a b : V} (hk : a.k = 6) (hf : a.f = 0) (hs : a.s = ⟨#[]⟩) (h : mergeTo J a b b.ks.length = (a.l, a.ks)) : mergeV J a b = a := by
  unfold mergeV
  rw [h]
  cases a
  simp only [V.k, V.f, V.s, V.l, V.ks] at hk hf hs ⊢
  rw [hk, hf, hs]
theorem prod_self : ∀ (m : Nat) (y : V), okO m y → y.k = 6 → prodV m y y = y
  | 0, _, _, _ => rfl
  | m + 1, y, oy, ky => by
    obtain ⟨hn, hl, hf, hs⟩ := oy.1 ky
    rw [prodV_is]
    exact merge_back ky hf hs (merge_none (jn m) hn hl hl (fun j hj => ⟨j, hj, rfl, jn_self m (prod_self m) _ (oy.2 _ (List.getElem_mem _))⟩) _ (Nat.le_refl _))
theorem prod_k (m : Nat) (x y : V) (hy : y.k = 6) : (prodV m x y).k = 6 := by
  cases m with
  | zero => exact hy
  | succ m => rfl
theorem jn_twice (m : Nat) (ih : ∀ x y, okO m x → okO m y → x.k = 6 → y.k = 6 → prodV m (prodV m x y) y = prodV m x y) (x y : V) (ox : okO m x) (oy : okO m y) : jn m (jn m x y) y = jn m x y := by
  by_cases h : x.k = 6 ∧ y.k = 6
  · have e : jn m x y = prodV m x y := if_pos h
    rw [e]
    show (if _ then _ else _) = _
    rw [if_pos ⟨prod_k m x y h.2, h.2⟩]
    exact ih x y ox oy h.1 h.2
  · have e : jn m x y = y := if_neg h
    rw [e]
    exact jn_self m (prod_self m) y oy
/-- Merged once more it is the same. -/
theorem prod_twice : ∀ (m : Nat) (a b : V), okO m a → okO m b → a.k = 6 → b.k = 6 → prodV m (prodV m a b) b = prodV m a b
  | 0, _, _, _, _, _, _ => rfl
  | m + 1, a, b, oa, ob, ka, kb => by
    obtain ⟨hna, hla, -, -⟩ := oa.1 ka
    obtain ⟨hnb, hlb, -, -⟩ := ob.1 kb
    have h := mt_any (jn m) hna hnb hla hlb b.ks.length (Nat.le_refl _)
    rw [prodV_is, prodV_is]
    refine merge_back rfl rfl rfl (merge_none (jn m) (a := mergeV (jn m) a b) h.nd h.len.symm hlb (fun j hj => ?_) _ (Nat.le_refl _))
    by_cases hm : b.ks[j] ∈ a.ks
    · obtain ⟨i, hi, e⟩ := List.getElem_of_mem hm
      obtain ⟨x, y, h1, h2, h3⟩ := h.met i j hi hj hj e
      have hp := h.pre i hi
      obtain ⟨q1, q2⟩ := List.getElem?_eq_some_iff.1 hp
      obtain ⟨r1, r2⟩ := List.getElem?_eq_some_iff.1 h3
      obtain ⟨s1, s2⟩ := List.getElem?_eq_some_iff.1 h1
      obtain ⟨t1, t2⟩ := List.getElem?_eq_some_iff.1 h2
      refine ⟨i, q1, q2.trans e, ?_⟩
      show jn m ((mergeTo (jn m) a b b.ks.length).1[i]) (b.l[j]'(by omega)) = (mergeTo (jn m) a b b.ks.length).1[i]
      rw [r2, t2]
      exact jn_twice m (prod_twice m) x y (s2 ▸ oa.2 _ (List.getElem_mem _)) (t2 ▸ ob.2 _ (List.getElem_mem _))
    · obtain ⟨p, y, h1, h2, h3⟩ := h.new j hj hj hm
      obtain ⟨q1, q2⟩ := List.getElem?_eq_some_iff.1 h1
      obtain ⟨r1, r2⟩ := List.getElem?_eq_some_iff.1 h3
      obtain ⟨t1, t2⟩ := List.getElem?_eq_some_iff.1 h2
      refine ⟨p, q1, q2, ?_⟩
      show jn m ((mergeTo (jn m) a b b.ks.length).1[p]) (b.l[j]'(by omega)) = (mergeTo (jn m) a b b.ks.length).1[p]
      rw [r2, t2]
      exact jn_self m (prod_self m) y (t2 ▸ ob.2 _ (List.getElem_mem _))
/-- What Get answers. -/
def getV (v : V) (k : ByteArray) : V := if Lib.idxOfS v.ks k = -1 then noV else v.l.getD (Lib.idxOfS v.ks k).toNat default
theorem getV_at {v : V} (hn : v.ks.Nodup) {i : Nat} (hi : i < v.ks.length) (hl : i < v.l.length) : getV v v.ks[i] = v.l[i] := by
  unfold getV
  rw [idxM_at hn hi, if_neg (by omega), Int.toNat_natCast, getD_at _ hl]
/-- Each key of the second object stands in the merged one: with its value, where not both are objects. -/
theorem merges_b {m : Nat} {a b : V} (oa : okO (m + 1) a) (ob : okO (m + 1) b) (ka : a.k = 6) (kb : b.k = 6) (j : Nat) (hj : j < b.ks.length) (hj2 : j < b.l.length) :
    Lib.idxOfS (prodV (m + 1) a b).ks b.ks[j] ≠ -1 ∧ (b.l[j].k ≠ 6 ∨ (getV a b.ks[j]).k ≠ 6 → getV (prodV (m + 1) a b) b.ks[j] = b.l[j]) := by
  obtain ⟨hna, hla, -, -⟩ := oa.1 ka
  obtain ⟨hnb, hlb, -, -⟩ := ob.1 kb
  have h := mt_any (jn m) hna hnb hla hlb b.ks.length (Nat.le_refl _)
  have hlen := h.len
  rw [prodV_is]
  by_cases hm : b.ks[j] ∈ a.ks
  · obtain ⟨i, hi, e⟩ := List.getElem_of_mem hm
    obtain ⟨x, y, h1, h2, h3⟩ := h.met i j hi hj hj e
    obtain ⟨q1, q2⟩ := List.getElem?_eq_some_iff.1 (h.pre i hi)
    obtain ⟨r1, r2⟩ := List.getElem?_eq_some_iff.1 h3
    obtain ⟨s1, s2⟩ := List.getElem?_eq_some_iff.1 h1
    obtain ⟨t1, t2⟩ := List.getElem?_eq_some_iff.1 h2
    have hk : (mergeV (jn m) a b).ks[i]'q1 = b.ks[j] := q2.trans e
    have hg := getV_at (v := mergeV (jn m) a b) h.nd q1 r1
    have hi2 := idxM_at (ks := (mergeV (jn m) a b).ks) h.nd q1
    rw [hk] at hg hi2
    refine ⟨by omega, fun hor => ?_⟩
    rw [hg]
    refine r2.trans ?_
    have hga := getV_at (v := a) hna hi s1
    rw [e, s2] at hga
    rw [hga] at hor
    rw [t2] at hor ⊢
    show (if _ then _ else _) = _
    rw [if_neg (fun q => by rcases hor with z | z; exact z q.2; exact z q.1)]
  · obtain ⟨p, y, h1, h2, h3⟩ := h.new j hj hj hm
    obtain ⟨q1, q2⟩ := List.getElem?_eq_some_iff.1 h1
    obtain ⟨r1, r2⟩ := List.getElem?_eq_some_iff.1 h3
    obtain ⟨t1, t2⟩ := List.getElem?_eq_some_iff.1 h2
    have hg := getV_at (v := mergeV (jn m) a b) h.nd q1 r1
    have hi2 := idxM_at (ks := (mergeV (jn m) a b).ks) h.nd q1
    have hk : (mergeV (jn m) a b).ks[p]'q1 = b.ks[j] := q2
    rw [hk] at hg hi2
    exact ⟨by omega, fun _ => hg.trans (r2.trans t2.symm)⟩
/-- .. and each key of the first one, with its value, where the second one has none. -/
theorem merges_a {m : Nat} {a b : V} (oa : okO (m + 1) a) (ob : okO (m + 1) b) (ka : a.k = 6) (kb : b.k = 6) (i : Nat) (hi : i < a.ks.length) (hi2 : i < a.l.length) :
    Lib.idxOfS (prodV (m + 1) a b).ks a.ks[i] ≠ -1 ∧ (Lib.idxOfS b.ks a.ks[i] = -1 → getV (prodV (m + 1) a b) a.ks[i] = a.l[i]) := by
  obtain ⟨hna, hla, -, -⟩ := oa.1 ka
  obtain ⟨hnb, hlb, -, -⟩ := ob.1 kb
  have h := mt_any (jn m) hna hnb hla hlb b.ks.length (Nat.le_refl _)
  have hlen := h.len
  rw [prodV_is]
  obtain ⟨q1, q2⟩ := List.getElem?_eq_some_iff.1 (h.pre i hi)
  have r1 : i < (mergeTo (jn m) a b b.ks.length).1.length := by omega
  have hg := getV_at (v := mergeV (jn m) a b) h.nd q1 r1
  have hix := idxM_at (ks := (mergeV (jn m) a b).ks) h.nd q1
  have hk : (mergeV (jn m) a b).ks[i]'q1 = a.ks[i] := q2
  rw [hk] at hg hix
  refine ⟨by omega, fun hno => hg.trans ?_⟩
  have ho := h.old i hi (fun j hj _ e => by
    have := idxM_at hnb hj
    rw [e, hno] at this
    omega)
  rw [List.getElem?_eq_getElem r1, List.getElem?_eq_getElem hi2] at ho
  exact Option.some.inj ho
/-- Get in one form. -/
theorem GetV_any (v : V) (m : Nat) (lv kv : Value) (key : ByteArray) (hkey : key.size ≤ 1000000000) (w : World) (h : At w w.heap.size (m + 1) v lv kv) (hlen : v.ks.length ≤ v.l.length) (hc : cleanS key = key) :
    Calls Tryz.prog 8 #[.agg (cellsV v lv kv), .string key] w fun e w' => ∃ (a1 : Option Addr) (n1 c1 : Nat) (a2 : Option Addr) (n2 c2 : Nat), e = .returned (.tuple #[.agg #[.int .i64 (getV v key).k, .float .f64 (getV v key).f, .string (getV v key).s, .slice a1 n1 c1, .slice a2 n2 c2], .bool (decide (Lib.idxOfS v.ks key ≠ -1))]) ∧ AtP w' (fun b => w.heap.size ≤ b ∧ b < w'.heap.size) (m + 1) (getV v key) (.slice a1 n1 c1) (.slice a2 n2 c2) ∧ Below w.heap.size w w' := by
  refine (Get_any v m lv kv key hkey w h hlen).mono ?_
  rintro e w' ⟨hg, hb⟩
  rw [hc] at hg
  rcases hg with ⟨q, rfl⟩ | ⟨i, hlt, lv', kv', q, rfl, hat⟩
  · have e1 : getV v key = noV := by unfold getV; rw [if_pos q]
    rw [e1, decide_eq_false (by omega)]
    exact ⟨none, 0, 0, none, 0, 0, rfl, noV_at _ _ m, hb⟩
  · have e1 : getV v key = v.l[i] := by unfold getV; rw [if_neg (by omega), q, Int.toNat_natCast, getD_at _ hlt]
    obtain ⟨p1, q1, r1, p2, q2, r2, rfl, rfl⟩ := AtP.slices hat
    rw [e1, decide_eq_true (by omega)]
    exact ⟨p1, q1, r1, p2, q2, r2, rfl, atP_levM _ _ _ _ _ (Nat.le_succ _) hat, hb⟩
end Go.Proofs.YtdlighmnlcklnaaGreatDoor

/- What is cleaned is valid and stays; slices side by side are the text; parts joined are the text, and no part holds what it was split by: plain Lean, no program stands here. -/
import Derived.Test.YtohjcimkpcpgbaaDoorRefG
import Derived.Lib.MapLaws
namespace Go.Proofs.YtohjcimkpcpgbaaDoor
open Go Go.WideShapes

theorem dec_self {α : Type} [DecidableEq α] (l : α) : decide (l = l) = true := decide_eq_true rfl
theorem byte_nat (z : Int) (h0 : 0 ≤ z) (h1 : z < 256) : z.toNat.toUInt8.toNat = z.toNat := by
  show (UInt8.ofNat z.toNat).toNat = _
  rw [UInt8.toNat_ofNat']
  omega
/-- What is encoded is decoded again. -/
theorem dec_enc (p : Nat) (hr : right (p : Int) = true) (t : List UInt8) : Lib.decodeL (Lib.encodeRune (p : Int) ++ t) = (p, (Lib.encodeRune (p : Int)).length) := by
  obtain ⟨_, h1, h2⟩ := (right_iff p).1 hr
  rw [Lib.decodeL_N]
  unfold Lib.encodeRune
  by_cases c1 : p ≤ 127
  · rw [Lib.encodeRuneZ_one (by omega) (by omega)]
    simp only [List.map_cons, List.map_nil, List.cons_append, List.nil_append, List.length_cons, List.length_nil, List.getD_cons_zero]
    rw [byte_nat _ (by omega) (by omega)]
    unfold Lib.decodeN
    rw [if_pos (by omega)]
    simp
  · by_cases c2 : p ≤ 2047
    · rw [Lib.encodeRuneZ_two (by omega) (by omega)]
      simp only [List.map_cons, List.map_nil, List.cons_append, List.nil_append, List.length_cons, List.length_nil, List.getD_cons_zero, List.getD_cons_succ]
      rw [byte_nat _ (by omega) (by omega), byte_nat _ (by omega) (by omega)]
      unfold Lib.decodeN
      rw [if_neg (by omega), if_pos (by omega), if_pos (by omega)]
      refine Prod.ext ?_ rfl
      show _ = p
      omega
    · by_cases c3 : p ≤ 65535
      · rw [Lib.encodeRuneZ_three (by omega)]
        simp only [List.map_cons, List.map_nil, List.cons_append, List.nil_append, List.length_cons, List.length_nil, List.getD_cons_zero, List.getD_cons_succ]
        rw [byte_nat _ (by omega) (by omega), byte_nat _ (by omega) (by omega), byte_nat _ (by omega) (by omega)]
        unfold Lib.decodeN
        rw [if_neg (by omega), if_neg (by omega), if_pos (by omega), if_pos (by omega)]
        refine Prod.ext ?_ rfl
        show _ = p
        omega
      · rw [Lib.encodeRuneZ_four (by omega) (by omega)]
        simp only [List.map_cons, List.map_nil, List.cons_append, List.nil_append, List.length_cons, List.length_nil, List.getD_cons_zero, List.getD_cons_succ]
        rw [byte_nat _ (by omega) (by omega), byte_nat _ (by omega) (by omega), byte_nat _ (by omega) (by omega), byte_nat _ (by omega) (by omega)]
        unfold Lib.decodeN
        rw [if_neg (by omega), if_neg (by omega), if_neg (by omega), if_pos (by omega), if_pos (by omega)]
        refine Prod.ext ?_ rfl
        show _ = p
        omega
theorem enc_pos (p : Int) : 1 ≤ (Lib.encodeRune p).length := by
  have := (Lib.encodeRuneZ_length p).1
  unfold Lib.encodeRune
  rw [List.length_map]
  exact this
theorem enc_bad : (Lib.encodeRune ((65533 : Nat) : Int)).length = 3 := by kernel_rfl

/-- A text that is made of code points has these code points, and each of its pieces is one's bytes. -/
theorem pts_enc (s : ByteArray) : ∀ (l : List Nat) (pos : Nat), (∀ p ∈ l, right (p : Int) = true) → s.data.toList.drop pos = encAll l → pts s pos = l ∧ allGood s pos = true := by
  intro l
  induction l with
  | nil =>
    intro pos _ h
    have h' : s.data.toList.length ≤ pos := List.drop_eq_nil_iff.1 h
    rw [Array.length_toList] at h'
    have hs : ¬ pos < s.size := by show ¬ pos < s.data.size; omega
    exact ⟨pts_nil s pos hs, allGood_nil s pos hs⟩
  | cons p r ih =>
    intro pos hr h
    have hp := hr p (List.mem_cons_self ..)
    have e : encAll (p :: r) = Lib.encodeRune (p : Int) ++ encAll r := rfl
    rw [e] at h
    have hd : Utf8.decode s pos = (p, (Lib.encodeRune (p : Int)).length) := by rw [← Lib.decodeL_drop, h]; exact dec_enc p hp _
    have h1 := enc_pos (p : Int)
    have hlen := congrArg List.length h
    rw [List.length_drop, List.length_append, Array.length_toList] at hlen
    have hs : pos < s.size := by show pos < s.data.size; omega
    have hn : s.data.toList.drop (pos + (Lib.encodeRune (p : Int)).length) = encAll r := by
      rw [← List.drop_drop, h, List.drop_append_of_le_length (Nat.le_refl _), List.drop_length, List.nil_append]
    obtain ⟨i1, i2⟩ := ih _ (fun q hq => hr q (List.mem_cons_of_mem _ hq)) hn
    refine ⟨by rw [pts_cons s pos hs, hd, i1], ?_⟩
    rw [allGood_cons s pos hs, hd, i2, Bool.and_true]
    unfold good
    rw [hd, decide_eq_true_iff]
    rintro ⟨a, b⟩
    dsimp only at a b
    subst a
    rw [enc_bad] at b
    omega
theorem pts_right (s : ByteArray) (pos : Nat) : ∀ p ∈ pts s pos, right (p : Int) = true := by
  intro p hp
  obtain ⟨x, _, rfl⟩ := List.mem_map.1 hp
  exact right_pt s x
theorem clean_pts (s : ByteArray) : pts (cleanS s) 0 = pts s 0 ∧ allGood (cleanS s) 0 = true := pts_enc _ _ 0 (pts_right s 0) (by unfold cleanS; simp)
theorem clean_clean (s : ByteArray) : cleanS (cleanS s) = cleanS s := by
  show (⟨(encAll (pts (cleanS s) 0)).toArray⟩ : ByteArray) = _
  rw [(clean_pts s).1]
  rfl
theorem good_enc (s : ByteArray) : ∀ (k pos : Nat), s.size - pos ≤ k → allGood s pos = true → encAll (pts s pos) = s.data.toList.drop pos := by
  intro k
  induction k with
  | zero =>
    intro pos h _
    rw [pts_nil s pos (by omega), List.drop_eq_nil_iff.2 (by rw [Array.length_toList]; show s.size ≤ pos; omega)]
    rfl
  | succ k ih =>
    intro pos h hg
    by_cases hp : pos < s.size
    · have hw := wid s pos hp
      rw [allGood_cons s pos hp, Bool.and_eq_true] at hg
      rw [pts_cons s pos hp]
      have e : ∀ (p : Nat) (r : List Nat), encAll (p :: r) = Lib.encodeRune (p : Int) ++ encAll r := fun _ _ => rfl
      rw [e, ih _ (by omega) hg.2]
      have hne : s.data.toList.drop pos ≠ [] := by
        intro h0
        have := List.drop_eq_nil_iff.1 h0
        rw [Array.length_toList] at this
        have : s.size ≤ pos := this
        omega
      have hgd := hg.1
      unfold good at hgd
      rw [decide_eq_true_iff, ← Lib.decodeL_drop] at hgd
      have := Lib.encode_decode _ hne hgd
      rw [← Lib.decodeL_drop, this, ← List.drop_drop]
      exact List.take_append_drop _ _
    · rw [pts_nil s pos hp, List.drop_eq_nil_iff.2 (by rw [Array.length_toList]; show s.size ≤ pos; omega)]
      rfl
/-- A text is valid if and only if cleaning leaves it as it is. -/
theorem good_clean (s : ByteArray) : allGood s 0 = decide (cleanS s = s) := by
  rw [Bool.eq_iff_iff, decide_eq_true_iff]
  constructor
  · intro h
    apply bytes_inj
    show (encAll (pts s 0)).toArray.toList = _
    rw [good_enc s _ 0 (Nat.le_refl _) h, List.drop_zero]
  · intro h
    rw [← h]
    exact (clean_pts s).2

theorem atP_zero (s : ByteArray) : atP s 0 = 0 := by
  by_cases h : 0 < s.size
  · unfold atP; rw [st_cons s 0 h]; rfl
  · unfold atP; rw [st_nil s 0 h]; show s.size = 0; omega
theorem some_piece {s : ByteArray} (h : 0 < s.size) : 0 < (st s 0).length := by rw [st_cons s 0 h, List.length_cons]; omega
theorem extract_two (s : ByteArray) {a b : Nat} (hab : a ≤ b) : s.extract a b ++ s.extract b s.size = s.extract a s.size := by
  apply bytes_inj
  rw [ByteArray.data_append, Array.toList_append, Lib.extract_data, Lib.extract_data, Lib.extract_data]
  have e : (s.data.toList.drop b).take (s.size - b) = s.data.toList.drop b := List.take_of_length_le (by rw [List.length_drop, Array.length_toList]; exact Nat.le_refl _)
  have e2 : (s.data.toList.drop a).take (s.size - a) = s.data.toList.drop a := List.take_of_length_le (by rw [List.length_drop, Array.length_toList]; exact Nat.le_refl _)
  rw [e, e2]
  have e3 : s.data.toList.drop b = (s.data.toList.drop a).drop (b - a) := by rw [List.drop_drop]; congr 1; omega
  rw [e3]
  exact List.take_append_drop _ _
theorem nil_append_bytes (s : ByteArray) : (⟨#[]⟩ : ByteArray) ++ s = s := by
  apply bytes_inj
  rw [ByteArray.data_append, Array.toList_append]
  rfl
theorem append_nil_bytes (s : ByteArray) : s ++ (⟨#[]⟩ : ByteArray) = s := by
  apply bytes_inj
  rw [ByteArray.data_append, Array.toList_append]
  simp
/-- A text cut in two at any piece is the text. -/
theorem slices (s : ByteArray) (a : Int) : sliceS s 0 a ++ sliceS s (max 0 a) ((st s 0).length : Int) = s := by
  obtain ⟨n, hn⟩ : ∃ n, (st s 0).length = n := ⟨_, rfl⟩
  rw [hn]
  unfold sliceS
  by_cases h : 0 < a
  · rw [if_pos (by omega), show (max (0 : Int) 0).toNat = 0 from rfl, atP_zero]
    by_cases h2 : a < n
    · rw [if_pos (by omega), show (max (max (0 : Int) a) 0).toNat = a.toNat from by omega, atP_end (k := (n : Int).toNat) (by omega), extract_two s (Nat.zero_le _)]
      exact extract_self s
    · rw [if_neg (by omega), atP_end (k := a.toNat) (by omega), append_nil_bytes]
      exact extract_self s
  · rw [if_neg (by omega), nil_append_bytes]
    by_cases h2 : 0 < n
    · rw [if_pos (by omega), show (max (max (0 : Int) a) 0).toNat = 0 from by omega, atP_zero, atP_end (k := (n : Int).toNat) (by omega)]
      exact extract_self s
    · rw [if_neg (by omega)]
      have hs : s.size = 0 := by
        have := @some_piece s
        omega
      rw [← extract_self s, hs]
      exact (extract_none s (Nat.le_refl _)).symm

/-- Parts joined with another text between them. -/
def jn (p : ByteArray) (l : List ByteArray) : Nat → ByteArray
  | 0 => ⟨#[]⟩
  | k + 1 => (if 0 < k then jn p l k ++ p else jn p l k) ++ l[k]?.getD ⟨#[]⟩
def tl (p : List UInt8) (l : List ByteArray) : List UInt8 := l.flatMap fun x => p ++ x.data.toList
theorem jn_cons (p x : ByteArray) (r : List ByteArray) : ∀ k, k ≤ r.length → (jn p (x :: r) (k + 1)).data.toList = x.data.toList ++ tl p.data.toList (r.take k) := by
  intro k
  induction k with
  | zero =>
    intro _
    show ((if 0 < 0 then (⟨#[]⟩ : ByteArray) ++ p else ⟨#[]⟩) ++ x).data.toList = _
    rw [if_neg (by omega), nil_append_bytes]
    simp [tl]
  | succ k ih =>
    intro h
    show ((if 0 < k + 1 then jn p (x :: r) (k + 1) ++ p else jn p (x :: r) (k + 1)) ++ (x :: r)[k + 1]?.getD ⟨#[]⟩).data.toList = _
    rw [if_pos (by omega), List.getElem?_cons_succ, List.getElem?_eq_getElem (by omega : k < r.length), ByteArray.data_append, Array.toList_append, ByteArray.data_append, Array.toList_append, ih (by omega)]
    rw [List.take_add_one, List.getElem?_eq_getElem (by omega : k < r.length)]
    unfold tl
    rw [List.flatMap_append]
    simp
theorem sp_ne (s p : ByteArray) : ∀ (f a i : Nat), ∃ x r, spF s p f a i = x :: r := by
  intro f
  induction f with
  | zero => intro a i; exact ⟨_, _, rfl⟩
  | succ f ih =>
    intro a i
    simp only [spF]
    split
    · split
      · exact ⟨_, _, rfl⟩
      · exact ih a (i + 1)
    · exact ⟨_, _, rfl⟩
theorem stands_drop {s p : ByteArray} {i : Nat} (h : stands s i p = true) : s.data.toList.drop i = p.data.toList ++ s.data.toList.drop (i + p.size) := by
  unfold stands Lib.hasPrefix at h
  obtain ⟨t, ht⟩ := List.isPrefixOf_iff_prefix.1 h
  rw [← List.drop_drop, ← ht]
  have e : p.data.toList.length = p.size := by rw [Array.length_toList]; rfl
  rw [← e, List.drop_left]
theorem ext_drop (s : ByteArray) {a i : Nat} (h : a ≤ i) : (s.extract a i).data.toList ++ s.data.toList.drop i = s.data.toList.drop a := by
  rw [Lib.extract_data]
  have e3 : s.data.toList.drop i = (s.data.toList.drop a).drop (i - a) := by rw [List.drop_drop]; congr 1; omega
  rw [e3]
  exact List.take_append_drop _ _
theorem ext_end (s : ByteArray) (a : Nat) : (s.extract a s.size).data.toList = s.data.toList.drop a := by
  rw [Lib.extract_data]
  exact List.take_of_length_le (by rw [List.length_drop, Array.length_toList]; exact Nat.le_refl _)
/-- The first part, and the others with the separator ahead: together they are the rest of the text. -/
theorem sp_join (s p : ByteArray) (hp : 0 < p.size) : ∀ (f a i : Nat), a ≤ i → s.size - i ≤ f → ∀ x r, spF s p f a i = x :: r → x.data.toList ++ tl p.data.toList r = s.data.toList.drop a := by
  intro f
  induction f with
  | zero =>
    intro a i _ _ x r h
    simp only [spF] at h
    injection h with h1 h2
    subst h1; subst h2
    rw [ext_end]
    simp [tl]
  | succ f ih =>
    intro a i hai hf x r h
    simp only [spF] at h
    by_cases hi : i < s.size
    · rw [if_pos hi] at h
      by_cases hs : stands s i p = true
      · rw [if_pos hs] at h
        injection h with h1 h2
        obtain ⟨y, t, e⟩ := sp_ne s p f (i + p.size) (i + p.size)
        have hj := ih _ _ (Nat.le_refl _) (by omega) y t e
        rw [← h1, ← h2, e]
        show _ ++ (p.data.toList ++ y.data.toList ++ tl p.data.toList t) = _
        rw [List.append_assoc, hj, ← stands_drop hs, ext_drop s hai]
      · rw [if_neg hs] at h
        exact ih a (i + 1) (by omega) (by omega) x r h
    · rw [if_neg hi] at h
      injection h with h1 h2
      subst h1; subst h2
      rw [ext_end]
      simp [tl]
theorem take_ext (s : ByteArray) {a b : Nat} (h : a ≤ b) : s.data.toList.take a ++ (s.extract a b).data.toList = s.data.toList.take b := by
  rw [Lib.extract_data]
  have e : s.data.toList.take b = (s.data.toList.take b).take a ++ (s.data.toList.take b).drop a := (List.take_append_drop _ _).symm
  rw [e, List.take_take, Nat.min_eq_left h, List.drop_take]
theorem pieces_join (s : ByteArray) : ∀ k, tl [] (piecesTo s k) = s.data.toList.take (atP s k) := by
  intro k
  induction k with
  | zero => rw [atP_zero]; rfl
  | succ k ih =>
    rw [piecesTo_snoc]
    have e : tl [] (piecesTo s k ++ [s.extract (atP s k) (atP s (k + 1))]) = tl [] (piecesTo s k) ++ (s.extract (atP s k) (atP s (k + 1))).data.toList := by
      unfold tl
      rw [List.flatMap_append]
      simp
    rw [e, ih, take_ext s (atP_mono s (Nat.lt_succ_self k))]
/-- WHAT IS SPLIT AND JOINED IS THE TEXT. -/
theorem joined (s p : ByteArray) : jn p (splitS s p) (splitS s p).length = s := by
  apply bytes_inj
  by_cases h : p.size = 0
  · have e0 : p.data.toList = [] := List.eq_nil_of_length_eq_zero (by rw [Array.length_toList]; exact h)
    rw [split_pieces h]
    have hj := pieces_join s (st s 0).length
    rw [atP_end (Nat.le_refl _), List.take_of_length_le (by rw [Array.length_toList]; exact Nat.le_refl _)] at hj
    rw [← hj]
    rcases hl : piecesTo s (st s 0).length with _ | ⟨x, r⟩
    · rfl
    · rw [List.length_cons, jn_cons p x r _ (Nat.le_refl _), List.take_length, e0]
      rfl
  · by_cases h2 : s.size = 0
    · rw [split_none h h2]
      have e0 : s.data.toList = [] := List.eq_nil_of_length_eq_zero (by rw [Array.length_toList]; exact h2)
      rw [e0]
      rfl
    · rw [split_parts h h2]
      obtain ⟨x, r, e⟩ := sp_ne s p (s.size - 0) 0 0
      have hj := sp_join s p (by omega) _ 0 0 (Nat.le_refl _) (Nat.le_refl _) x r e
      have e' : sp s p 0 0 = x :: r := e
      rw [e', List.length_cons, jn_cons p x r _ (Nat.le_refl _), List.take_length, hj, List.drop_zero]

/-- A part of a text holds another where the text does, if there is room. -/
theorem stands_part (s p : ByteArray) {a b k : Nat} (hb : b ≤ s.size) (h : k + p.size ≤ b - a) : stands (s.extract a b) k p = stands s (a + k) p := by
  unfold stands
  rw [← Lib.hasPrefix_of_take, ← Lib.hasPrefix_of_take]
  have hp : p.data.toList.length = p.size := by rw [Array.length_toList]; rfl
  have hs : s.data.toList.length = s.size := by rw [Array.length_toList]; rfl
  have hx : (s.extract a b).data.toList.length = b - a := by rw [Lib.extract_data, List.length_take, List.length_drop, hs]; omega
  rw [hp, List.length_drop, List.length_drop, hx, hs, decide_eq_true (by omega : p.size ≤ b - a - k), decide_eq_true (by omega : p.size ≤ s.size - (a + k)), Lib.extract_data, List.drop_take, List.drop_drop, List.take_take, Nat.min_eq_left (by omega)]
theorem sp_free (s p : ByteArray) (hp : 0 < p.size) : ∀ (f a i : Nat), a ≤ i → s.size - i ≤ f → (∀ j, a ≤ j → j < i → stands s j p = false) → ∀ x ∈ spF s p f a i, ∀ k, k + p.size ≤ x.size → stands x k p = false := by
  have last : ∀ a, (∀ j, a ≤ j → j < s.size → stands s j p = false) → ∀ k, k + p.size ≤ (s.extract a s.size).size → stands (s.extract a s.size) k p = false := by
    intro a hj k hk
    rw [ByteArray.size_extract] at hk
    rw [stands_part s p (Nat.le_refl _) (by omega)]
    exact hj _ (by omega) (by omega)
  intro f
  induction f with
  | zero =>
    intro a i _ hf hj x hx
    simp only [spF, List.mem_singleton] at hx
    subst hx
    exact last a fun j h1 h2 => hj j h1 (by omega)
  | succ f ih =>
    intro a i hai hf hj x hx
    simp only [spF] at hx
    by_cases hi : i < s.size
    · rw [if_pos hi] at hx
      by_cases hs : stands s i p = true
      · rw [if_pos hs] at hx
        rcases List.mem_cons.1 hx with rfl | hx
        · intro k hk
          rw [ByteArray.size_extract] at hk
          rw [stands_part s p (by omega) (by omega)]
          exact hj _ (by omega) (by omega)
        · exact ih _ _ (Nat.le_refl _) (by omega) (fun j h1 h2 => absurd h1 (by omega)) x hx
      · rw [if_neg hs] at hx
        refine ih a (i + 1) (by omega) (by omega) (fun j h1 h2 => ?_) x hx
        by_cases hji : j = i
        · subst hji; simpa using hs
        · exact hj j h1 (by omega)
    · rw [if_neg hi, List.mem_singleton] at hx
      subst hx
      exact last a fun j h1 h2 => hj j h1 (by omega)
/-- NO PART HOLDS WHAT THE TEXT WAS SPLIT BY. -/
theorem free (s p : ByteArray) (hp : 0 < p.size) : ∀ x ∈ splitS s p, ∀ k, k + p.size ≤ x.size → stands x k p = false := by
  intro x hx
  by_cases h2 : s.size = 0
  · rw [split_none (by omega) h2] at hx; cases hx
  · rw [split_parts (by omega) h2] at hx
    exact sp_free s p hp _ 0 0 (Nat.le_refl _) (Nat.le_refl _) (fun j _ h => absurd h (by omega)) x hx
theorem split_size (s p : ByteArray) : ∀ x ∈ splitS s p, x.size ≤ s.size := by
  intro x hx
  have part : ∀ f a i, ∀ x ∈ spF s p f a i, x.size ≤ s.size := by
    intro f
    induction f with
    | zero => intro a i x hx; simp only [spF, List.mem_singleton] at hx; subst hx; rw [ByteArray.size_extract]; omega
    | succ f ih =>
      intro a i x hx
      simp only [spF] at hx
      split at hx
      · split at hx
        · rcases List.mem_cons.1 hx with rfl | hx
          · rw [ByteArray.size_extract]; omega
          · exact ih _ _ x hx
        · exact ih _ _ x hx
      · rw [List.mem_singleton] at hx; subst hx; rw [ByteArray.size_extract]; omega
  by_cases h : p.size = 0
  · rw [split_pieces h] at hx
    unfold piecesTo at hx
    obtain ⟨j, _, rfl⟩ := List.mem_map.1 hx
    rw [ByteArray.size_extract]
    omega
  · by_cases h2 : s.size = 0
    · rw [split_none h h2] at hx; cases hx
    · rw [split_parts h h2] at hx
      exact part _ _ _ x hx
theorem split_len (s p : ByteArray) : (splitS s p).length ≤ s.size + 1 := by
  by_cases h : p.size = 0
  · rw [split_pieces h, piecesTo_len]
    have := st_len s 0
    omega
  · by_cases h2 : s.size = 0
    · rw [split_none h h2]; simp
    · rw [split_parts h h2]
      have := sp_len s p (by omega) 0 0
      omega
theorem jn_up (p : ByteArray) (l : List ByteArray) (k : Nat) : (jn p l k).size ≤ (jn p l (k + 1)).size := by
  show _ ≤ ((if 0 < k then jn p l k ++ p else jn p l k) ++ l[k]?.getD ⟨#[]⟩).size
  rw [ByteArray.size_append]
  split
  · rw [ByteArray.size_append]; omega
  · omega
theorem jn_mono (p : ByteArray) (l : List ByteArray) (k : Nat) : ∀ d, (jn p l k).size ≤ (jn p l (k + d)).size := by
  intro d
  induction d with
  | zero => exact Nat.le_refl _
  | succ d ih => exact Nat.le_trans ih (jn_up p l (k + d))
theorem jn_size (s p : ByteArray) (k : Nat) (h : k ≤ (splitS s p).length) : (jn p (splitS s p) k).size ≤ s.size := by
  have := jn_mono p (splitS s p) k ((splitS s p).length - k)
  rw [show k + ((splitS s p).length - k) = (splitS s p).length from by omega, joined] at this
  exact this
end Go.Proofs.YtohjcimkpcpgbaaDoor

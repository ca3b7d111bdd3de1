/- The document's reading: every directive; every format. -/
import Derived.Test.YtpjncnoejdaplaaGreatDoorLBK
import Derived.Test.YtpjncnoejdaplaaGreatDoorLBI
namespace Go.Proofs.YtpjncnoejdaplaaGreatDoor
open Go Go.RowKit Go.Shelf

theorem tellD_s (p : Nat) (n : Int) (r : Dr) : (tellD p n r).s = r.s := by
  unfold tellD
  repeat' split
  all_goals rfl
theorem drop_le (l : List UInt8) (k : Nat) : (l.drop k).length ≤ l.length := by rw [List.length_drop]; omega
theorem numD_len (d : Nat) (a b : Int) (r : Dr) : (numD d a b r).2.s.length ≤ r.s.length := by
  unfold numD
  split
  · exact Nat.le_trans (drop_le _ _) (drop_len _)
  · exact Nat.le_trans (drop_le _ _) (drop_len _)
theorem nameD_len (ns : List ByteArray) (r : Dr) : (nameD ns r).2.s.length ≤ r.s.length := by
  unfold nameD
  split
  · exact drop_le _ _
  · split
    · exact drop_le _ _
    · exact Nat.le_refl _
theorem halfD_len (r : Dr) : (halfD r).s.length ≤ r.s.length := by
  unfold halfD
  split
  · exact drop_le _ _
  · split
    · exact drop_le _ _
    · exact Nat.le_refl _
theorem tail_le (l : List UInt8) : l.tail.length ≤ l.length := by rw [List.length_tail]; omega
theorem colonD_len (r : Dr) : (colonD r).s.length ≤ r.s.length := by
  unfold colonD
  split
  · exact tail_le _
  · exact Nat.le_refl _
theorem zoneD_len (r : Dr) : (zoneD r).s.length ≤ r.s.length := by
  unfold zoneD
  split
  · exact Nat.le_trans (tail_le _) (drop_len _)
  · split
    · exact Nat.le_trans (pairD_len _) (Nat.le_trans (colonD_len _) (Nat.le_trans (pairD_len _) (Nat.le_trans (tail_le _) (drop_len _))))
    · exact drop_len _
theorem secA_len (r : Dr) : (secA r).length ≤ r.s.length := by
  unfold secA
  split
  · exact tail_le _
  · exact Nat.le_refl _
theorem secD_len (r : Dr) : (secD r).s.length ≤ r.s.length := by
  unfold secD
  split
  · exact Nat.le_trans (drop_le _ _) (secA_len r)
  · split
    · exact Nat.le_trans (drop_le _ _) (secA_len r)
    · exact Nat.le_trans (drop_le _ _) (secA_len r)
theorem stepD_len (r : Dr) (p : RP) : (p.stepD r).s.length ≤ r.s.length := by
  cases p with
  | num d a b p => show (tellD _ _ _).s.length ≤ _; rw [tellD_s]; exact numD_len _ _ _ _
  | many l => exact drop_len _
  | percent => exact byteD_len _ _
  | zone => exact zoneD_len _
  | secs => exact secD_len _
  | name ns k p =>
    show (if p = 9 then halfD r else tellD p ((nameD ns r).1 + 1) (nameD ns r).2).s.length ≤ _
    split
    · exact halfD_len _
    · rw [tellD_s]; exact nameD_len _ _
def stepDP (c : Nat) (r : Dr) : Dr := match plainR c with
  | some p => p.stepD r
  | none => r.err
def stepDA (c : Nat) (r : Dr) : Dr := match formOf c with
  | some f => followD stepDP f.data.toList r
  | none => stepDP c r
theorem stepDP_len (c : Nat) (r : Dr) : (stepDP c r).s.length ≤ r.s.length := by
  unfold stepDP
  split
  · exact stepD_len _ _
  · exact Nat.le_refl _
theorem followD_len (sem : Nat → Dr → Dr) (hs : ∀ c r, (sem c r).s.length ≤ r.s.length) (n : Nat) : ∀ (l : List UInt8), l.length ≤ n → ∀ r, (followD sem l r).s.length ≤ r.s.length := by
  induction n with
  | zero =>
    intro l hn r
    obtain rfl := List.length_eq_zero_iff.1 (Nat.le_zero.1 hn)
    rw [followD_nil]
    exact Nat.le_refl _
  | succ n ih =>
    intro l hn r
    cases hb : r.bad with
    | true => rw [followD_bad _ _ _ hb]; exact Nat.le_refl _
    | false =>
      cases l with
      | nil => rw [followD_nil]; exact Nat.le_refl _
      | cons c l =>
        rw [List.length_cons] at hn
        cases hbl : blankB c with
        | true =>
          rw [followD_blank _ _ _ _ hb hbl]
          exact Nat.le_trans (ih l (by omega) _) (drop_len _)
        | false =>
          by_cases hc : c = 37
          · subst hc
            cases l with
            | nil => rw [followD_end _ _ hb]; exact Nat.le_refl _
            | cons d l =>
              rw [followD_dir _ _ _ _ hb]
              rw [List.length_cons] at hn
              exact Nat.le_trans (ih l (by omega) _) (hs _ _)
          · rw [followD_lit _ _ _ _ hb hbl hc]
            exact Nat.le_trans (ih l (by omega) _) (byteD_len _ _)
theorem dirOK_plain (rb : Nat) (d : UInt8) (hf : formOf d.toNat = none) : DirOK rb stepDP d := by
  intro r hl
  refine ⟨stepDP_len _ _, fun w h => ?_⟩
  cases hp : plainR d.toNat with
  | some p =>
    rw [show stepDP d.toNat r = p.stepD r from by unfold stepDP; rw [hp]]
    exact rdir_plain d.toNat p hp rb r hl w h
  | none =>
    rw [show stepDP d.toNat r = r.err from by unfold stepDP; rw [hp]]
    exact rdir_none d.toNat d.toNat_lt hp hf rb r w h
theorem formD_ok (c : Nat) (f : ByteArray) (h : formOf c = some f) : plainR c = none ∧ f.size ≤ 100 ∧ f.toList.isEmpty = false ∧ ∀ d ∈ f.data.toList, formOf d.toNat = none := by
  unfold formOf at h
  repeat' split at h
  all_goals
    first
    | (cases h; done)
    | (obtain rfl := Option.some.inj h
       rename_i hc
       first
       | (rcases hc with rfl | rfl <;> exact ⟨by decide, by decide, by rw [ByteArray.toList_eq]; rfl, by decide⟩)
       | (subst hc; exact ⟨by decide, by decide, by rw [ByteArray.toList_eq]; rfl, by decide⟩))
theorem dirOK_all (rb : Nat) (d : UInt8) : DirOK rb stepDA d := by
  cases hf : formOf d.toNat with
  | none =>
    have e : ∀ r, stepDA d.toNat r = stepDP d.toNat r := fun r => by unfold stepDA; rw [hf]
    intro r hl
    rw [e]
    exact dirOK_plain rb d hf r hl
  | some f =>
    obtain ⟨hp, hs, hem, hd⟩ := formD_ok _ _ hf
    have e : ∀ r, stepDA d.toNat r = followD stepDP f.data.toList r := fun r => by unfold stepDA; rw [hf]
    intro r hl
    rw [e]
    refine ⟨followD_len _ stepDP_len _ _ (Nat.le_refl _) _, fun w h => ?_⟩
    exact rdir_form d.toNat d.toNat_lt f hp hf hem rb r _ w h (rformat_of rb stepDP f (by omega) (fun d hm => dirOK_plain rb d (hd d hm)) r hl w h)
/-- The document's format, followed. -/
theorem rformat_any (rb : Nat) (f : ByteArray) (hf : f.size ≤ 70368744177664) (r : Dr) (hl : r.s.length ≤ 70368744177664) (w : World) (h : DrAt w rb r) :
    Calls Tryz.prog 31 #[.pointer (some ⟨rb, 0, none⟩), .string f] w fun e w' => e = .returned (.tuple #[]) ∧ DrPost rb w (followD stepDA f.data.toList r) w' :=
  rformat_of rb stepDA f hf (fun d _ => dirOK_all rb d) r hl w h
end Go.Proofs.YtpjncnoejdaplaaGreatDoor
namespace Go.Proofs.YtpjncnoejdaplaaGreatDoor
open Go Go.RowKit

def Sim (o : Option St) (r : Dr) : Prop := match o with
  | none => r.bad = true
  | some s => r = encD s
theorem cut1 (c : UInt8) (st : St) : cutS [c] st = if st.left.head? = some c then some (leftS st st.left.tail) else none := by
  unfold cutS
  cases st.left with
  | nil => simp [Lib.hasPrefix]
  | cons d l =>
    by_cases h : d = c
    · subst h
      simp [Lib.hasPrefix]
    · have h' : ¬ c = d := fun e => h e.symm
      simp [Lib.hasPrefix, h, h']
theorem tellD_bad (p : Nat) (n : Int) (r : Dr) : (tellD p n r).bad = r.bad := by
  unfold tellD
  repeat' split
  all_goals rfl
theorem num_sim {st : St} (h : Inv st) (d : Nat) (a b : Int) (p : Nat) (hp : p < 12) (h9 : p ≠ 9) : Sim (numberS d a b p st) (RP.stepD (encD st) (.num d a b p)) := by
  show Sim _ (tellD p (numD d a b (encD st)).1 (numD d a b (encD st)).2)
  unfold numberS
  show Sim (if digK d (st.left.dropWhile blankB) = 0 ∨ digN d (st.left.dropWhile blankB) < a ∨ b < digN d (st.left.dropWhile blankB) then none else some (tellS (leftS st ((st.left.dropWhile blankB).drop (digK d (st.left.dropWhile blankB)))) p (digN d (st.left.dropWhile blankB)))) _
  have e : numD d a b (encD st) = if 0 < digK d (st.left.dropWhile blankB) ∧ a ≤ digN d (st.left.dropWhile blankB) ∧ digN d (st.left.dropWhile blankB) ≤ b then (digN d (st.left.dropWhile blankB), (encD st).left ((st.left.dropWhile blankB).drop (digK d (st.left.dropWhile blankB)))) else (a, ((encD st).left ((st.left.dropWhile blankB).drop (digK d (st.left.dropWhile blankB)))).err) := rfl
  rw [e]
  by_cases hc : digK d (st.left.dropWhile blankB) = 0 ∨ digN d (st.left.dropWhile blankB) < a ∨ b < digN d (st.left.dropWhile blankB)
  · rw [if_pos hc, if_neg (by omega)]
    show (tellD _ _ _).bad = true
    rw [tellD_bad]
    rfl
  · rw [if_neg hc, if_pos (by omega)]
    show tellD _ _ _ = encD _
    rw [enc_left]
    exact enc_tell (h.left _) p hp h9 _
theorem pairD_bad (r : Dr) (h : r.bad = true) : (pairD r).bad = true := by
  unfold pairD
  split
  · split
    · exact h
    · rfl
  · rfl
theorem colonD_bad (r : Dr) (h : r.bad = true) : (colonD r).bad = true := by
  unfold colonD
  split
  · exact h
  · exact h
theorem pair_enc (s : St) : pairD (encD s) = if digK 2 s.left = 2 then encD (leftS s (s.left.drop 2)) else (encD s).err := by
  unfold pairD digK
  rw [enc_s]
  rcases s.left with _ | ⟨a, _ | ⟨b, l⟩⟩
  · simp
  · have h : (([a].take 2).takeWhile digitB).length ≠ 2 := by
      have := (List.takeWhile_prefix digitB (l := [a].take 2)).length_le
      simp at this ⊢
      omega
    rw [if_neg h]
  · cases ha : digitB a with
    | true => cases hb : digitB b with
      | true => simp [ha, hb, enc_left]
      | false => simp [ha, hb]
    | false => cases hb : digitB b with
      | true => simp [ha]
      | false => simp [ha]
theorem colon_enc (s : St) : colonD (encD s) = encD ((cutS [58] s).getD s) := by
  unfold colonD
  rw [cut1, enc_s]
  by_cases h : s.left.head? = some 58
  · rw [if_pos h, if_pos h]
    rfl
  · rw [if_neg h, if_neg h]
    rfl
theorem zone_sim (st : St) : Sim (zoneS st) (zoneD (encD st)) := by
  have e1 : (skipS blankB st).left = st.left.dropWhile blankB := rfl
  have e0 : (encD st).left (st.left.dropWhile blankB) = encD (skipS blankB st) := rfl
  have ez : zoneD (encD st) = if (skipS blankB st).left.head? = some 90 then encD (leftS (skipS blankB st) (skipS blankB st).left.tail)
    else if (skipS blankB st).left.head? = some 43 ∨ (skipS blankB st).left.head? = some 45 then pairD (colonD (pairD (encD (leftS (skipS blankB st) (skipS blankB st).left.tail)))) else (encD (skipS blankB st)).err := rfl
  rw [ez]
  unfold zoneS
  simp only
  generalize skipS blankB st = s
  unfold signS
  rw [cut1, cut1, cut1]
  by_cases h90 : s.left.head? = some 90
  · rw [if_pos h90, if_pos h90]
    rfl
  · rw [if_neg h90, if_neg h90]
    simp only
    have key : ∀ (x : St), Sim (if digK 2 x.left ≠ 2 ∨ digK 2 ((cutS [58] (leftS x (x.left.drop (digK 2 x.left)))).getD (leftS x (x.left.drop (digK 2 x.left)))).left ≠ 2 then none else some (leftS ((cutS [58] (leftS x (x.left.drop (digK 2 x.left)))).getD (leftS x (x.left.drop (digK 2 x.left)))) (((cutS [58] (leftS x (x.left.drop (digK 2 x.left)))).getD (leftS x (x.left.drop (digK 2 x.left)))).left.drop (digK 2 ((cutS [58] (leftS x (x.left.drop (digK 2 x.left)))).getD (leftS x (x.left.drop (digK 2 x.left)))).left)))) (pairD (colonD (pairD (encD x)))) := by
      intro x
      by_cases h1 : digK 2 x.left = 2
      · rw [h1]
        rw [pair_enc, if_pos h1, colon_enc, pair_enc]
        generalize (cutS [58] (leftS x (x.left.drop 2))).getD (leftS x (x.left.drop 2)) = y
        by_cases h2 : digK 2 y.left = 2
        · rw [if_neg (by omega), if_pos h2, h2]
          rfl
        · rw [if_pos (.inr h2), if_neg h2]
          rfl
      · rw [if_pos (.inl h1), pair_enc, if_neg h1]
        exact pairD_bad _ (colonD_bad _ rfl)
    by_cases h43 : s.left.head? = some 43
    · have hx : s.left.head? = some 43 ∨ s.left.head? = some 45 := .inl h43
      rw [if_pos h43, if_pos hx]
      exact key _
    · rw [if_neg h43]
      simp only
      by_cases h45 : s.left.head? = some 45
      · have hx : s.left.head? = some 43 ∨ s.left.head? = some 45 := .inr h45
        rw [if_pos h45, if_pos hx]
        exact key _
      · rw [if_neg h45, if_neg (fun h => h.elim h43 h45)]
        rfl
end Go.Proofs.YtpjncnoejdaplaaGreatDoor
namespace Go.Proofs.YtpjncnoejdaplaaGreatDoor
open Go Go.RowKit

theorem pre1 (c : UInt8) (l : List UInt8) : Lib.hasPrefix l [c] = decide (l.head? = some c) := by
  cases l with
  | nil => simp [Lib.hasPrefix]
  | cons d l =>
    by_cases h : d = c
    · subst h
      simp [Lib.hasPrefix]
    · have h' : ¬ c = d := fun e => h e.symm
      simp [Lib.hasPrefix, List.isPrefixOf, h, h']
theorem secs_sim {st : St} (h : Inv st) : Sim (secondsS st) (secD (encD st)) := by
  have fin : ∀ (s : St) (a : Int), Inv s → Sim (if digK 12 s.left = 0 ∨ ¬ knownS a then none else some (tellS (leftS s (s.left.drop (digK 12 s.left))) 12 a))
      (if digK 12 s.left = 0 then ((encD s).left (s.left.drop (digK 12 s.left))).err else if knownS a then ((encD s).left (s.left.drop (digK 12 s.left))).timed a else ((encD s).left (s.left.drop (digK 12 s.left))).err.timed a) := by
    intro s a hs
    by_cases h0 : digK 12 s.left = 0
    · rw [if_pos (.inl h0), if_pos h0]
      rfl
    · rw [if_neg h0]
      by_cases hk : knownS a
      · rw [if_neg (fun h => h.elim h0 (fun h => h hk)), if_pos hk, enc_left]
        exact enc_timed (hs.left _) a
      · rw [if_pos (.inr hk), if_neg hk]
        rfl
  by_cases h45 : st.left.head? = some 45
  · have e1 : secondsS st = if digK 12 (leftS st st.left.tail).left = 0 ∨ ¬ knownS (-digN 12 st.left.tail) then none else some (tellS (leftS (leftS st st.left.tail) ((leftS st st.left.tail).left.drop (digK 12 (leftS st st.left.tail).left))) 12 (-digN 12 st.left.tail)) := by
      unfold secondsS
      simp only [cut1, pre1, h45, ↓reduceIte, decide_true, Option.getD_some, Int.neg_mul, Int.one_mul]
      rfl
    have e2 : secA (encD st) = (leftS st st.left.tail).left := by unfold secA; rw [enc_s, if_pos h45]; rfl
    have e3 : secN (encD st) = -digN 12 st.left.tail := by unfold secN; rw [e2, enc_s, if_pos h45]; rfl
    unfold secD
    rw [e1, e2, e3]
    exact fin (leftS st st.left.tail) _ (h.left _)
  · have e1 : secondsS st = if digK 12 st.left = 0 ∨ ¬ knownS (digN 12 st.left) then none else some (tellS (leftS st (st.left.drop (digK 12 st.left))) 12 (digN 12 st.left)) := by
      unfold secondsS
      simp only [cut1, pre1, h45, ↓reduceIte, decide_false, Option.getD_none, Int.one_mul, Bool.false_eq_true]
    have e2 : secA (encD st) = st.left := by unfold secA; rw [enc_s, if_neg h45]
    have e3 : secN (encD st) = digN 12 st.left := by unfold secN; rw [e2, enc_s, if_neg h45]
    unfold secD
    rw [e1, e2, e3]
    exact fin st _ h
theorem cutName_beg (nm : List UInt8) (st : St) : cutName nm st = if begB nm st.left = true then some (leftS st (st.left.drop nm.length)) else none := by
  unfold cutName begB
  simp only [decide_eq_true_eq]
theorem beg_short {nm : ByteArray} {l : List UInt8} (h3 : 3 ≤ nm.size) (h : wholeP l nm = true) : shortP l nm = true := by
  unfold wholeP begB at h
  rw [decide_eq_true_eq] at h
  obtain ⟨h1, h2⟩ := h
  have h4 : 3 ≤ nm.data.toList.length := by rw [Array.length_toList]; exact h3
  unfold shortP begB
  rw [decide_eq_true_eq, List.length_take]
  refine ⟨by omega, ?_⟩
  have e := congrArg (List.take 3) h2
  rw [← List.map_take, ← List.map_take, List.take_take] at e
  rw [show min 3 nm.data.toList.length = 3 from by omega] at e ⊢
  exact e
theorem short_eq {nm : ByteArray} {l : List UInt8} (h3 : 3 ≤ nm.size) (h : shortP l nm = true) : (nm.data.toList.take 3).map (caseB false) = (l.take 3).map (caseB false) := by
  have h4 : 3 ≤ nm.data.toList.length := by rw [Array.length_toList]; exact h3
  unfold shortP begB at h
  rw [decide_eq_true_eq, List.length_take, show min 3 nm.data.toList.length = 3 from by omega] at h
  exact h.2.symm
theorem getD_mem {ns : List ByteArray} {j : Nat} (h : j < ns.length) : ns.getD j ⟨#[]⟩ ∈ ns := by
  rw [List.getD_eq_getElem?_getD, List.getElem?_eq_getElem h]
  exact List.getElem_mem h
theorem nameS_no (ns : List ByteArray) (h3 : ∀ s ∈ ns, 3 ≤ s.size) (p : Nat) (st : St) : ∀ k i, i + k = ns.length → (∀ j, i ≤ j → j < ns.length → shortP st.left (ns.getD j ⟨#[]⟩) = false) → nameS ns 3 p st k = none := by
  intro k
  induction k with
  | zero => intro i _ _; rfl
  | succ k ih =>
    intro i hi hn
    rw [nameS_succ ns 3 p st k i hi, cutName_beg, cutName_beg]
    have e1 := hn i (Nat.le_refl _) (by omega)
    have e2 : wholeP st.left (ns.getD i ⟨#[]⟩) = false := by
      cases e : wholeP st.left (ns.getD i ⟨#[]⟩) with
      | false => rfl
      | true => rw [beg_short (h3 _ (getD_mem (by omega))) e] at e1; cases e1
    unfold wholeP at e2
    unfold shortP at e1
    rw [e1, e2]
    simp only [Bool.false_eq_true, if_false]
    exact ih (i + 1) (by omega) (fun j hj hj2 => hn j (by omega) hj2)
theorem nameS_yes (ns : List ByteArray) (h3 : ∀ s ∈ ns, 3 ≤ s.size) (p : Nat) (st : St) (m : Nat) (hm : m < ns.length) (hp : shortP st.left (ns.getD m ⟨#[]⟩) = true) : ∀ k i, i + k = ns.length → i ≤ m → (∀ j, i ≤ j → j < m → shortP st.left (ns.getD j ⟨#[]⟩) = false) →
    nameS ns 3 p st k = some (tellS (leftS st (st.left.drop (if wholeP st.left (ns.getD m ⟨#[]⟩) = true then (ns.getD m ⟨#[]⟩).size else 3))) p ((m : Int) + 1)) := by
  intro k
  induction k with
  | zero => intro i h1 h2 _; omega
  | succ k ih =>
    intro i hi him hn
    rw [nameS_succ ns 3 p st k i hi, cutName_beg, cutName_beg]
    by_cases he : i = m
    · subst he
      have hl : (ns.getD i ⟨#[]⟩).data.toList.length = (ns.getD i ⟨#[]⟩).size := Array.length_toList
      have h4 := h3 _ (getD_mem hm)
      cases e : wholeP st.left (ns.getD i ⟨#[]⟩) with
      | true =>
        unfold wholeP at e
        rw [e, hl]
        rfl
      | false =>
        unfold wholeP at e
        unfold shortP at hp
        rw [e, hp, List.length_take, hl, show min 3 (ns.getD i ⟨#[]⟩).size = 3 from by omega]
        rfl
    · have e1 := hn i (Nat.le_refl _) (by omega)
      have e2 : wholeP st.left (ns.getD i ⟨#[]⟩) = false := by
        cases e : wholeP st.left (ns.getD i ⟨#[]⟩) with
        | false => rfl
        | true => rw [beg_short (h3 _ (getD_mem (by omega))) e] at e1; cases e1
      unfold wholeP at e2
      unfold shortP at e1
      rw [e1, e2]
      simp only [Bool.false_eq_true, if_false]
      exact ih (i + 1) (by omega) (by omega) (fun j hj hj2 => hn j (by omega) hj2)
theorem firstN_is {p : ByteArray → Bool} {l : List ByteArray} {k : Nat} (h : firstN p l = some k) : k < l.length ∧ p (l.getD k ⟨#[]⟩) = true ∧ ∀ j, j < k → p (l.getD j ⟨#[]⟩) = false := by
  unfold firstN at h
  rw [List.findIdx?_eq_some_iff_getElem] at h
  obtain ⟨h1, h2, h3⟩ := h
  refine ⟨h1, ?_, fun j hj => ?_⟩
  · rw [List.getD_eq_getElem?_getD, List.getElem?_eq_getElem h1]
    exact h2
  · rw [List.getD_eq_getElem?_getD, List.getElem?_eq_getElem (by omega)]
    have := h3 j hj
    simpa using this
theorem firstN_no {p : ByteArray → Bool} {l : List ByteArray} (h : firstN p l = none) (j : Nat) (hj : j < l.length) : p (l.getD j ⟨#[]⟩) = false := by
  unfold firstN at h
  rw [List.findIdx?_eq_none_iff] at h
  exact h _ (getD_mem hj)
/-- Names whose three letters tell them apart. -/
def Apart3 (ns : List ByteArray) : Prop := ∀ i, i < ns.length → ∀ j, j < ns.length → ((ns.getD i ⟨#[]⟩).data.toList.take 3).map (caseB false) = ((ns.getD j ⟨#[]⟩).data.toList.take 3).map (caseB false) → i = j
theorem name_sim {st : St} (h : Inv st) (ns : List ByteArray) (h3 : ∀ s ∈ ns, 3 ≤ s.size) (ha : Apart3 ns) (p : Nat) (hp : p < 12) (h9 : p ≠ 9) : Sim (nameS ns 3 p st ns.length) (tellD p ((nameD ns (encD st)).1 + 1) (nameD ns (encD st)).2) := by
  have fin : ∀ (i m : Nat), tellD p ((i : Int) + 1) ((encD st).left (st.left.drop m)) = encD (tellS (leftS st (st.left.drop m)) p ((i : Int) + 1)) := fun i m => by
    rw [enc_left]
    exact enc_tell (h.left _) p hp h9 _
  unfold nameD
  rw [enc_s]
  cases e1 : firstN (wholeP st.left) ns with
  | some i =>
    obtain ⟨a1, a2, a3⟩ := firstN_is e1
    have a4 := beg_short (h3 _ (getD_mem a1)) a2
    rw [nameS_yes ns h3 p st i a1 a4 ns.length 0 (by omega) (by omega) (fun j _ hj => by
      cases e : shortP st.left (ns.getD j ⟨#[]⟩) with
      | false => rfl
      | true =>
        have := ha j (by omega) i a1 ((short_eq (h3 _ (getD_mem (by omega))) e).trans (short_eq (h3 _ (getD_mem a1)) a4).symm)
        omega), if_pos a2]
    exact fin i _
  | none =>
    have a1 := firstN_no e1
    cases e2 : firstN (shortP st.left) ns with
    | some i =>
      obtain ⟨b1, b2, b3⟩ := firstN_is e2
      rw [nameS_yes ns h3 p st i b1 b2 ns.length 0 (by omega) (by omega) (fun j _ hj => b3 j hj), if_neg (by rw [a1 i b1]; exact Bool.false_ne_true)]
      exact fin i _
    | none =>
      rw [nameS_no ns h3 p st ns.length 0 (by omega) (fun j _ hj => firstN_no e2 j hj)]
      show (tellD p _ (encD st).err).bad = true
      rw [tellD_bad]
      rfl
theorem half_sim (st : St) : Sim (nameS halfNames 2 9 st halfNames.length) (halfD (encD st)) := by
  have e : nameS halfNames 2 9 st halfNames.length = if begB [97, 109] st.left = true then some (tellS (leftS st (st.left.drop 2)) 9 1) else if begB [112, 109] st.left = true then some (tellS (leftS st (st.left.drop 2)) 9 2) else none := by
    show nameS halfNames 2 9 st (1 + 1) = _
    rw [nameS_succ halfNames 2 9 st 1 0 rfl, nameS_succ halfNames 2 9 st 0 1 rfl]
    rw [cutName_beg, cutName_beg, cutName_beg, cutName_beg]
    show (match (if begB [97, 109] st.left = true then some (leftS st (st.left.drop 2)) else none) with
      | some s => some (tellS s 9 ((0 : Nat) + 1))
      | none => match (if begB [97, 109] st.left = true then some (leftS st (st.left.drop 2)) else none) with
        | some s => some (tellS s 9 ((0 : Nat) + 1))
        | none => match (if begB [112, 109] st.left = true then some (leftS st (st.left.drop 2)) else none) with
          | some s => some (tellS s 9 ((1 : Nat) + 1))
          | none => match (if begB [112, 109] st.left = true then some (leftS st (st.left.drop 2)) else none) with
            | some s => some (tellS s 9 ((1 : Nat) + 1))
            | none => none) = _
    cases begB [97, 109] st.left with
    | true => rfl
    | false => cases begB [112, 109] st.left with
      | true => rfl
      | false => rfl
  rw [e]
  unfold halfD
  rw [enc_s]
  cases begB [97, 109] st.left with
  | true =>
    rw [if_pos rfl, if_pos rfl]
    exact enc_half (leftS st (st.left.drop 2)) 1
  | false => cases begB [112, 109] st.left with
    | true =>
      rw [if_neg Bool.false_ne_true, if_neg Bool.false_ne_true, if_pos rfl, if_pos rfl]
      exact enc_half (leftS st (st.left.drop 2)) 2
    | false =>
      rw [if_neg Bool.false_ne_true, if_neg Bool.false_ne_true, if_neg Bool.false_ne_true, if_neg Bool.false_ne_true]
      rfl
theorem apart_days : Apart3 dayNames := by unfold Apart3; decide
theorem apart_months : Apart3 monthNames := by unfold Apart3; decide
end Go.Proofs.YtpjncnoejdaplaaGreatDoor
namespace Go.Proofs.YtpjncnoejdaplaaGreatDoor
open Go Go.RowKit

theorem byte_sim (c : UInt8) (st : St) : Sim (match st.left with
    | [] => none
    | d :: r => if d = c then some (leftS st r) else none) (byteD c (encD st)) := by
  unfold byteD
  rw [enc_s]
  cases st.left with
  | nil => rfl
  | cons d l =>
    simp only
    by_cases h : d = c
    · rw [if_pos h, if_pos h]
      rfl
    · rw [if_neg h, if_neg h]
      rfl
theorem perc_sim (st : St) : Sim (cutS [37] st) (byteD 37 (encD st)) := by
  have h := byte_sim 37 st
  rw [cut1]
  cases e : st.left with
  | nil => rw [e] at h; exact h
  | cons d l =>
    rw [e] at h
    simp only at h
    rw [List.head?_cons, List.tail_cons]
    by_cases hd : d = 37
    · rw [if_pos hd] at h
      rw [if_pos (by rw [hd])]
      exact h
    · rw [if_neg hd] at h
      rw [if_neg (by simpa using hd)]
      exact h
theorem rp_sim {st : St} (h : Inv st) (c : Nat) (p : RP) (hp : plainR c = some p) : Sim (p.step st) (p.stepD (encD st)) := by
  have hnd : ∀ s ∈ dayNames, 3 ≤ s.size := by decide
  have hnm : ∀ s ∈ monthNames, 3 ≤ s.size := by decide
  by_cases h89 : c = 89
  · subst h89
    obtain rfl := Option.some.inj hp
    exact num_sim h _ _ _ _ (by decide) (by decide)
  by_cases h67 : c = 67
  · subst h67
    obtain rfl := Option.some.inj hp
    exact num_sim h _ _ _ _ (by decide) (by decide)
  by_cases h121 : c = 121
  · subst h121
    obtain rfl := Option.some.inj hp
    exact num_sim h _ _ _ _ (by decide) (by decide)
  by_cases h109 : c = 109
  · subst h109
    obtain rfl := Option.some.inj hp
    exact num_sim h _ _ _ _ (by decide) (by decide)
  by_cases h100 : c = 100
  · subst h100
    obtain rfl := Option.some.inj hp
    exact num_sim h _ _ _ _ (by decide) (by decide)
  by_cases h101 : c = 101
  · subst h101
    obtain rfl := Option.some.inj hp
    exact num_sim h _ _ _ _ (by decide) (by decide)
  by_cases h72 : c = 72
  · subst h72
    obtain rfl := Option.some.inj hp
    exact num_sim h _ _ _ _ (by decide) (by decide)
  by_cases h107 : c = 107
  · subst h107
    obtain rfl := Option.some.inj hp
    exact num_sim h _ _ _ _ (by decide) (by decide)
  by_cases h73 : c = 73
  · subst h73
    obtain rfl := Option.some.inj hp
    exact num_sim h _ _ _ _ (by decide) (by decide)
  by_cases h108 : c = 108
  · subst h108
    obtain rfl := Option.some.inj hp
    exact num_sim h _ _ _ _ (by decide) (by decide)
  by_cases h77 : c = 77
  · subst h77
    obtain rfl := Option.some.inj hp
    exact num_sim h _ _ _ _ (by decide) (by decide)
  by_cases h83 : c = 83
  · subst h83
    obtain rfl := Option.some.inj hp
    exact num_sim h _ _ _ _ (by decide) (by decide)
  by_cases h106 : c = 106
  · subst h106
    obtain rfl := Option.some.inj hp
    exact num_sim h _ _ _ _ (by decide) (by decide)
  by_cases h85 : c = 85
  · subst h85
    obtain rfl := Option.some.inj hp
    exact num_sim h _ _ _ _ (by decide) (by decide)
  by_cases h87 : c = 87
  · subst h87
    obtain rfl := Option.some.inj hp
    exact num_sim h _ _ _ _ (by decide) (by decide)
  by_cases h86 : c = 86
  · subst h86
    obtain rfl := Option.some.inj hp
    exact num_sim h _ _ _ _ (by decide) (by decide)
  by_cases h117 : c = 117
  · subst h117
    obtain rfl := Option.some.inj hp
    exact num_sim h _ _ _ _ (by decide) (by decide)
  by_cases h119 : c = 119
  · subst h119
    obtain rfl := Option.some.inj hp
    exact num_sim h _ _ _ _ (by decide) (by decide)
  by_cases h71 : c = 71
  · subst h71
    obtain rfl := Option.some.inj hp
    exact num_sim h _ _ _ _ (by decide) (by decide)
  by_cases h103 : c = 103
  · subst h103
    obtain rfl := Option.some.inj hp
    exact num_sim h _ _ _ _ (by decide) (by decide)
  by_cases h115 : c = 115
  · subst h115
    obtain rfl := Option.some.inj hp
    exact secs_sim h
  by_cases h110 : c = 110
  · subst h110
    obtain rfl := Option.some.inj hp
    exact (rfl : Sim (some (skipS _ st)) _)
  by_cases h116 : c = 116
  · subst h116
    obtain rfl := Option.some.inj hp
    exact (rfl : Sim (some (skipS _ st)) _)
  by_cases h37 : c = 37
  · subst h37
    obtain rfl := Option.some.inj hp
    exact perc_sim st
  by_cases h90 : c = 90
  · subst h90
    obtain rfl := Option.some.inj hp
    exact (rfl : Sim (some (skipS _ st)) _)
  by_cases h122 : c = 122
  · subst h122
    obtain rfl := Option.some.inj hp
    exact zone_sim st
  by_cases h97 : c = 97
  · subst h97
    obtain rfl := Option.some.inj hp
    exact name_sim h dayNames hnd apart_days 0 (by decide) (by decide)
  by_cases h65 : c = 65
  · subst h65
    obtain rfl := Option.some.inj hp
    exact name_sim h dayNames hnd apart_days 0 (by decide) (by decide)
  by_cases h98 : c = 98
  · subst h98
    obtain rfl := Option.some.inj hp
    exact name_sim h monthNames hnm apart_months 4 (by decide) (by decide)
  by_cases h104 : c = 104
  · subst h104
    obtain rfl := Option.some.inj hp
    exact name_sim h monthNames hnm apart_months 4 (by decide) (by decide)
  by_cases h66 : c = 66
  · subst h66
    obtain rfl := Option.some.inj hp
    exact name_sim h monthNames hnm apart_months 4 (by decide) (by decide)
  by_cases h112 : c = 112
  · subst h112
    obtain rfl := Option.some.inj hp
    exact half_sim st
  by_cases h80 : c = 80
  · subst h80
    obtain rfl := Option.some.inj hp
    exact half_sim st
  exfalso
  unfold plainR at hp
  rw [if_neg h89, if_neg h67, if_neg h121, if_neg h109, if_neg h100, if_neg h101, if_neg h72, if_neg h107, if_neg h73, if_neg h108, if_neg h77, if_neg h83, if_neg h106, if_neg h85, if_neg h87, if_neg h86, if_neg h117, if_neg h119, if_neg h71, if_neg h103, if_neg h115, if_neg h110, if_neg h116, if_neg h37, if_neg h90, if_neg h122, if_neg h97, if_neg h65, if_neg h98, if_neg h104, if_neg h66, if_neg h112, if_neg h80] at hp
  cases hp
theorem literal_sim (c : UInt8) (st : St) : Sim (literalS c st) (if blankB c = true then (encD st).left ((encD st).s.dropWhile blankB) else byteD c (encD st)) := by
  unfold literalS
  cases hb : blankB c with
  | true => rw [if_pos rfl, if_pos rfl]; rfl
  | false =>
    rw [if_neg Bool.false_ne_true, if_neg Bool.false_ne_true]
    exact byte_sim c st
theorem followD_char (sem : Nat → Dr → Dr) (c : UInt8) (l : List UInt8) (r : Dr) (h : r.bad = false) (hc : c ≠ 37) : followD sem (c :: l) r = followD sem l (if blankB c = true then r.left (r.s.dropWhile blankB) else byteD c r) := by
  cases hb : blankB c with
  | true => rw [if_pos rfl, followD_blank _ _ _ _ h hb]
  | false => rw [if_neg Bool.false_ne_true, followD_lit _ _ _ _ h hb hc]
/-- Each directive's step, side by side. -/
def SemSim (sem : Nat → Option (St → Option St)) (semD : Nat → Dr → Dr) : Prop := ∀ c st, Inv st → match sem c with
  | none => (semD c (encD st)).bad = true
  | some f => Sim (f st) (semD c (encD st))
theorem follow_sim (sem : Nat → Option (St → Option St)) (semD : Nat → Dr → Dr) (hs : SemSim sem semD) (hi : ∀ c f, sem c = some f → InvOK f) (n : Nat) : ∀ (l : List UInt8), l.length ≤ n → ∀ st, Inv st → Sim (followT sem l st) (followD semD l (encD st)) := by
  induction n with
  | zero =>
    intro l hn st _
    obtain rfl := List.length_eq_zero_iff.1 (Nat.le_zero.1 hn)
    rw [followD_nil, show followT sem [] st = some st by simp [followT]]
    rfl
  | succ n ih =>
    intro l hn st hI
    cases l with
    | nil =>
      rw [followD_nil, show followT sem [] st = some st by simp [followT]]
      rfl
    | cons c l =>
      rw [List.length_cons] at hn
      by_cases hc : c = 37
      · subst hc
        cases l with
        | nil =>
          rw [followD_end _ _ rfl, show followT sem [37] st = none by simp [followT]]
          rfl
        | cons d l =>
          rw [List.length_cons] at hn
          rw [followD_dir _ _ _ _ rfl, followT_dir]
          have hd := hs d.toNat st hI
          cases e : sem d.toNat with
          | none =>
            rw [e] at hd
            show (followD _ _ _).bad = true
            rw [followD_bad _ _ _ hd]
            exact hd
          | some f =>
            rw [e] at hd
            simp only at hd ⊢
            cases e2 : f st with
            | none =>
              rw [e2] at hd
              show (followD _ _ _).bad = true
              rw [followD_bad _ _ _ hd]
              exact hd
            | some x =>
              rw [e2] at hd
              rw [show semD d.toNat (encD st) = encD x from hd]
              exact ih l (by omega) x (hi _ _ e st x hI e2)
      · rw [followD_char _ _ _ _ rfl hc, followT_lit _ _ _ _ hc]
        have hd := literal_sim c st
        cases e2 : literalS c st with
        | none =>
          rw [e2] at hd
          show (followD _ _ _).bad = true
          rw [followD_bad _ _ _ hd]
          exact hd
        | some x =>
          rw [e2] at hd
          rw [show (if blankB c = true then (encD st).left ((encD st).s.dropWhile blankB) else byteD c (encD st)) = encD x from hd]
          exact ih l (by omega) x (literalS_inv hI e2)
theorem semP_sim : SemSim stepP stepDP := by
  intro c st hI
  unfold stepP stepDP
  cases hp : plainR c with
  | none => rfl
  | some p => exact rp_sim hI c p hp
theorem semA_sim : SemSim stepA stepDA := by
  intro c st hI
  unfold stepA stepDA
  cases hf : formOf c with
  | none => exact semP_sim c st hI
  | some f => exact follow_sim stepP stepDP semP_sim stepP_inv _ _ (Nat.le_refl _) st hI
/-- The document's reading of a whole text is the program's. -/
theorem read_sim (s f : List UInt8) : Sim (followT stepA f (st0 s)) (followD stepDA f (encD (st0 s))) := follow_sim stepA stepDA semA_sim stepA_inv _ _ (Nat.le_refl _) _ (inv_st0 s)
end Go.Proofs.YtpjncnoejdaplaaGreatDoor
namespace Go.Proofs.YtpjncnoejdaplaaGreatDoor
open Go Go.RowKit Go.Shelf

def toldD (r : Dr) : Int := if r.late = true then 100 * (if r.cent < 0 then (if 0 ≤ r.two ∧ r.two < 69 then 20 else 19) else r.cent) + (if r.two < 0 then 0 else r.two) else if r.anyY = true then r.year else 1900
set_option maxRecDepth 100000 in
set_option maxHeartbeats 4000000 in
theorem rtold_any (rb : Nat) (r : Dr) (hc : -1 ≤ r.cent ∧ r.cent ≤ 99) (ht : -1 ≤ r.two ∧ r.two ≤ 99) (w : World) (h : DrAt w rb r) :
    Calls Tryz.prog 33 #[.pointer (some ⟨rb, 0, none⟩)] w fun e w' => e = .returned (.int .i64 (toldD r)) ∧ w' = w := by
  have c2 : w.cell? ⟨rb, 2, none⟩ = some (.int .i64 r.year) := h.cell 2 _ rfl
  have c3 : w.cell? ⟨rb, 3, none⟩ = some (.int .i64 r.cent) := h.cell 3 _ rfl
  have c4 : w.cell? ⟨rb, 4, none⟩ = some (.int .i64 r.two) := h.cell 4 _ rfl
  have c5 : w.cell? ⟨rb, 5, none⟩ = some (.bool r.late) := h.cell 5 _ rfl
  have c6 : w.cell? ⟨rb, 6, none⟩ = some (.bool r.anyY) := h.cell 6 _ rfl
  have HV := Lib.hid (show toldD r = if r.late = true then 100 * (if r.cent < 0 then (if 0 ≤ r.two ∧ r.two < 69 then 20 else 19) else r.cent) + (if r.two < 0 then 0 else r.two) else if r.anyY = true then r.year else 1900 from rfl)
  clear h
  obtain ⟨C, hC⟩ : ∃ C, r.cent = C := ⟨_, rfl⟩
  obtain ⟨D, hD⟩ : ∃ D, r.two = D := ⟨_, rfl⟩
  obtain ⟨Y, hY⟩ : ∃ Y, r.year = Y := ⟨_, rfl⟩
  rw [hC] at hc c3 HV
  rw [hD] at ht c4 HV
  rw [hY] at c2 HV
  obtain ⟨C1, C2⟩ := hc
  obtain ⟨D1, D2⟩ := ht
  clear hC hD hY
  cases hL : r.late with
  | false =>
    rw [hL] at c5 HV
    rw [if_neg Bool.false_ne_true] at HV
    cases hA : r.anyY with
    | true =>
      rw [hA] at c6 HV
      rw [if_pos rfl] at HV
      clear hL hA
      go_enter Tryz.func33, Tryz.ntmps33
      go_wp2_with fail
      go_ret
      rw [HV.out]
      exact ⟨rfl, rfl⟩
    | false =>
      rw [hA] at c6 HV
      rw [if_neg Bool.false_ne_true] at HV
      clear hL hA
      go_enter Tryz.func33, Tryz.ntmps33
      go_wp2_with fail
      go_ret
      rw [HV.out]
      exact ⟨rfl, rfl⟩
  | true =>
    rw [hL] at c5 HV
    rw [if_pos rfl] at HV
    clear hL
    go_enter Tryz.func33, Tryz.ntmps33
    by_cases k1 : C < 0
    · rw [if_pos k1] at HV
      by_cases k2 : 0 ≤ D
      · have k4 : ¬ D < 0 := by omega
        rw [if_neg k4] at HV
        by_cases k3 : D < 69
        · rw [if_pos ⟨k2, k3⟩] at HV
          go_wp2_with fail
          go_ret
          refine ⟨?_, rfl⟩
          rw [HV.out]
          exact ret_intK (by omega)
        · rw [if_neg (fun h => k3 h.2)] at HV
          go_wp2_with fail
          go_ret
          refine ⟨?_, rfl⟩
          rw [HV.out]
          exact ret_intK (by omega)
      · have k4 : D < 0 := by omega
        rw [if_neg (fun h => k2 h.1), if_pos k4] at HV
        go_wp2_with fail
        go_ret
        refine ⟨?_, rfl⟩
        rw [HV.out]
        exact ret_intK (by omega)
    · rw [if_neg k1] at HV
      by_cases k2 : 0 ≤ D
      · have k4 : ¬ D < 0 := by omega
        rw [if_neg k4] at HV
        go_wp2_with fail
        go_ret
        refine ⟨?_, rfl⟩
        rw [HV.out]
        exact ret_intK (by omega)
      · have k4 : D < 0 := by omega
        rw [if_pos k4] at HV
        go_wp2_with fail
        go_ret
        refine ⟨?_, rfl⟩
        rw [HV.out]
        exact ret_intK (by omega)
theorem told_enc {st : St} (h : Inv st) : toldD (encD st) = yearS st := by
  have key : toldD (encD st) = if lateP (st.t 1) (st.t 2) (st.t 3) then 100 * (if (if 0 < st.t 2 then st.n 2 else -1) < 0 then (if 0 ≤ (if 0 < st.t 3 then st.n 3 else -1) ∧ (if 0 < st.t 3 then st.n 3 else -1) < 69 then 20 else 19) else (if 0 < st.t 2 then st.n 2 else -1)) + (if (if 0 < st.t 3 then st.n 3 else -1) < 0 then 0 else (if 0 < st.t 3 then st.n 3 else -1)) else if 0 < st.t 1 then st.n 1 else 1900 := by
    unfold toldD
    by_cases hL : lateP (st.t 1) (st.t 2) (st.t 3)
    · rw [if_pos (show (encD st).late = true from decide_eq_true hL), if_pos hL]
      rfl
    · rw [if_neg (show ¬ (encD st).late = true from fun e => hL (of_decide_eq_true e)), if_neg hL]
      by_cases hA : 0 < st.t 1
      · rw [if_pos (show (encD st).anyY = true from decide_eq_true hA), if_pos hA]
        rfl
      · rw [if_neg (show ¬ (encD st).anyY = true from fun e => hA (of_decide_eq_true e)), if_neg hA]
  rw [key]
  unfold yearS
  have h1 := inv_t h 1 (by omega)
  have h2 := inv_t h 2 (by omega)
  have h3 := inv_t h 3 (by omega)
  obtain ⟨M, hM⟩ : ∃ M, max (st.t 2) (st.t 3) = M := ⟨_, rfl⟩
  have m1 : st.t 2 ≤ M := hM ▸ Int.le_max_left ..
  have m2 : st.t 3 ≤ M := hM ▸ Int.le_max_right ..
  have m3 : M = st.t 2 ∨ M = st.t 3 := by
    rw [← hM]
    rcases Int.le_total (st.t 2) (st.t 3) with h | h
    · exact .inr (Int.max_eq_right h)
    · exact .inl (Int.max_eq_left h)
  have hl : lateP (st.t 1) (st.t 2) (st.t 3) ↔ 0 < M ∧ st.t 1 ≤ M := by unfold lateP; rw [hM]
  rw [hM]
  clear hM key
  by_cases hL : lateP (st.t 1) (st.t 2) (st.t 3)
  · rw [if_pos hL]
    have hL2 := hl.1 hL
    clear hl hL
    rcases h.at 1 (by omega) 0 9999 rfl rfl with ⟨t1, n1⟩ | ⟨t1, -, n1, n1'⟩ <;> rcases h.at 2 (by omega) 0 99 rfl rfl with ⟨t2, n2⟩ | ⟨t2, -, n2, n2'⟩ <;> rcases h.at 3 (by omega) 0 99 rfl rfl with ⟨t3, n3⟩ | ⟨t3, -, n3, n3'⟩
    all_goals
      repeat' split
      all_goals omega
  · rw [if_neg hL]
    have hL2 : ¬ (0 < M ∧ st.t 1 ≤ M) := fun e => hL (hl.2 e)
    clear hl hL
    rcases h.at 1 (by omega) 0 9999 rfl rfl with ⟨t1, n1⟩ | ⟨t1, -, n1, n1'⟩ <;> rcases h.at 2 (by omega) 0 99 rfl rfl with ⟨t2, n2⟩ | ⟨t2, -, n2, n2'⟩ <;> rcases h.at 3 (by omega) 0 99 rfl rfl with ⟨t3, n3⟩ | ⟨t3, -, n3, n3'⟩
    all_goals
      repeat' split
      all_goals omega
theorem cent_bd {st : St} (h : Inv st) : (-1 ≤ (encD st).cent ∧ (encD st).cent ≤ 99) ∧ -1 ≤ (encD st).two ∧ (encD st).two ≤ 99 := by
  have a := h.at 2 (by omega) 0 99 rfl rfl
  have b := h.at 3 (by omega) 0 99 rfl rfl
  constructor
  · show -1 ≤ (if 0 < st.t 2 then st.n 2 else -1) ∧ (if 0 < st.t 2 then st.n 2 else -1) ≤ 99
    split <;> omega
  · show -1 ≤ (if 0 < st.t 3 then st.n 3 else -1) ∧ (if 0 < st.t 3 then st.n 3 else -1) ≤ 99
    split <;> omega
end Go.Proofs.YtpjncnoejdaplaaGreatDoor

/- What stands between tokens is all that indenting adds. -/
import Derived.Test.YtjhghhjnccjhmaaGreatDoorRTg
import Derived.Test.YtjhghhjnccjhmaaGreatDoorRPrint2
namespace Go.Proofs.YtjhghhjnccjhmaaGreatDoor
open Go Go.RowKit

theorem ok_high {c : UInt8} (h : 43 ≤ c.toNat) : c ≠ 34 ∧ blankB c = false := by
  have hne : ∀ d : UInt8, d.toNat < 43 → c ≠ d := fun d hd e => by rw [e] at h; omega
  refine ⟨hne _ (by decide), ?_⟩
  unfold blankB
  rw [decide_eq_false_iff_not]
  rintro (e | e | e) <;> exact hne _ (by decide) e
theorem of_high (n : Nat) (h : 43 ≤ n) (h2 : n < 256) : 43 ≤ (UInt8.ofNat n).toNat := by rw [UInt8.toNat_ofNat']; omega
theorem expD_high (x : Nat) (h : x ≤ 999) : ∀ c ∈ expD x, 43 ≤ c.toNat := by
  intro c hc
  unfold expD at hc
  split at hc
  · simp only [List.mem_cons, List.not_mem_nil, or_false] at hc
    rcases hc with rfl | rfl
    · decide
    · exact of_high _ (by omega) (by omega)
  · split at hc
    · simp only [List.mem_cons, List.not_mem_nil, or_false] at hc
      rcases hc with rfl | rfl
      · exact of_high _ (by omega) (by omega)
      · exact of_high _ (by omega) (by omega)
    · simp only [List.mem_cons, List.not_mem_nil, or_false] at hc
      rcases hc with rfl | rfl | rfl
      · exact of_high _ (by omega) (by omega)
      · exact of_high _ (by omega) (by omega)
      · exact of_high _ (by omega) (by omega)
theorem sign_high (b : Bool) : ∀ c ∈ (if b then ([45] : List UInt8) else []), 43 ≤ c.toNat := by
  intro c hc
  split at hc
  · simp only [List.mem_cons, List.not_mem_nil, or_false] at hc; subst hc; decide
  · cases hc
theorem eText_high (neg : Bool) (l : List UInt8) (x : Int) (hl : ∀ c ∈ l, 43 ≤ c.toNat) (hx : x.natAbs ≤ 999) : ∀ c ∈ eText neg l x, 43 ≤ c.toNat := by
  intro c hc
  unfold eText at hc
  simp only [List.mem_append] at hc
  rcases hc with ((((h | h) | h) | h) | h) | h
  · exact sign_high neg c h
  · exact hl c (List.mem_of_mem_take h)
  · split at h
    · cases h
    · rcases List.mem_cons.1 h with rfl | h
      · decide
      · exact hl c (List.mem_of_mem_drop h)
  · simp only [List.mem_cons, List.not_mem_nil, or_false] at h; subst h; decide
  · split at h <;> (simp only [List.mem_cons, List.not_mem_nil, or_false] at h; subst h; decide)
  · exact expD_high _ hx c h
theorem fText_high (neg : Bool) (l : List UInt8) (dp : Int) (hl : ∀ c ∈ l, 43 ≤ c.toNat) : ∀ c ∈ fText neg l dp, 43 ≤ c.toNat := by
  intro c hc
  unfold fText at hc
  rw [List.mem_append] at hc
  rcases hc with h | h
  · exact sign_high neg c h
  · split at h
    · rcases List.mem_append.1 h with h | h
      · exact hl c h
      · rw [List.eq_of_mem_replicate h]; decide
    · split at h
      · rcases List.mem_append.1 h with h | h
        · exact hl c (List.mem_of_mem_take h)
        · rcases List.mem_cons.1 h with rfl | h
          · decide
          · exact hl c (List.mem_of_mem_drop h)
      · rcases List.mem_cons.1 h with rfl | h
        · decide
        · rcases List.mem_cons.1 h with rfl | h
          · decide
          · rcases List.mem_append.1 h with h | h
            · rw [List.eq_of_mem_replicate h]; decide
            · exact hl c h
theorem textB_high (b : Nat) (hb : b < 18446744073709551616) : ∀ c ∈ textB b, 43 ≤ c.toNat := by
  intro c hc
  unfold textB at hc
  by_cases h1 : 9218868437227405312 < szB b
  · rw [if_pos h1] at hc
    simp only [List.mem_cons, List.not_mem_nil, or_false] at hc
    rcases hc with rfl | rfl | rfl | rfl <;> decide
  · rw [if_neg h1] at hc
    have hcl := clamp_in b hb (by omega)
    obtain ⟨q, hq⟩ : ∃ q, clampB b = q := ⟨_, rfl⟩
    rw [hq] at hcl hc
    have hdig : ∀ d ∈ digB q, 43 ≤ d.toNat := fun d hd => by
      have := dec_digit _ d (List.mem_of_mem_take hd)
      omega
    have hz : ∀ n : Bool, ∀ T : List UInt8, (∀ c ∈ T, 43 ≤ c.toNat) → ∀ c ∈ (if n then ([45] : List UInt8) else []) ++ T, 43 ≤ c.toNat := fun n T hT c hc => (List.mem_append.1 hc).elim (sign_high n c) (hT c)
    split at hc
    · unfold fOf at hc
      split at hc
      · exact hz _ _ (fun c h => by simp only [List.mem_cons, List.not_mem_nil, or_false] at h; subst h; decide) c hc
      · exact fText_high _ _ _ hdig c hc
    · unfold eOf at hc
      split at hc
      · exact hz _ _ (fun c h => by simp only [List.mem_cons, List.not_mem_nil, or_false] at h; rcases h with rfl | rfl | rfl | rfl | rfl <;> decide) c hc
      · rename_i hnz
        have hx : exB q ≤ 2046 := by unfold exB; have := hcl.2; unfold szB at this; omega
        have hm : mtB q < 4503599627370496 := Nat.mod_lt _ (by omega)
        obtain ⟨d1, d2, d3, d4⟩ := dec_all _ _ hnz hx hm
        have s3 := nine_digits _ d2
        exact eText_high _ _ _ hdig (by unfold dpB; omega) c hc
theorem Closed.scalar (m : Nat) (v : V) (hk : 0 ≤ v.k ∧ v.k ≤ 3) (hf : v.f < 18446744073709551616) : Closed (textV (m + 1) v) (textV (m + 1) v) := by
  have e : textV (m + 1) v = if v.k = 0 then nullT else if v.k = 1 then falseT else if v.k = 2 then trueT else if v.k = 3 then textB v.f else if v.k = 4 then quoteR v.s
      else if v.k = 5 then 91 :: (rowB (fun i => textV m (v.l.getD i default)) v.l.length ++ [93])
      else 123 :: (rowB (fun i => quoteR (v.ks.getD i default) ++ 58 :: textV m (v.l.getD i default)) v.l.length ++ [125]) := rfl
  refine Closed.same (fun c hc => ok_high ?_)
  rw [e] at hc
  by_cases h0 : v.k = 0
  · rw [if_pos h0] at hc
    unfold nullT at hc
    simp only [List.mem_cons, List.not_mem_nil, or_false] at hc
    rcases hc with rfl | rfl | rfl | rfl <;> decide
  by_cases h1 : v.k = 1
  · rw [if_neg h0, if_pos h1] at hc
    unfold falseT at hc
    simp only [List.mem_cons, List.not_mem_nil, or_false] at hc
    rcases hc with rfl | rfl | rfl | rfl | rfl <;> decide
  by_cases h2 : v.k = 2
  · rw [if_neg h0, if_neg h1, if_pos h2] at hc
    unfold trueT at hc
    simp only [List.mem_cons, List.not_mem_nil, or_false] at hc
    rcases hc with rfl | rfl | rfl | rfl <;> decide
  · rw [if_neg h0, if_neg h1, if_neg h2, if_pos (by omega)] at hc
    exact textB_high v.f hf c hc
theorem kind_in {d : Nat} {v : V} (h : rightV d v = true) : 0 ≤ v.k ∧ v.k ≤ 6 := by
  cases d with
  | zero => cases h
  | succ d =>
    have h : (headOK v && v.l.all (fun x => rightV d x)) = true := h
    rw [Bool.and_eq_true, headOK_iff] at h
    exact h.1.1
/-- A step of blanks. -/
def Blanks (step : ByteArray) : Prop := ∀ c ∈ step.data.toList, c ≠ 34 ∧ blankB c = true
theorem Closed.line {step : ByteArray} (h : Blanks step) (lev : Nat) : Closed (linT step lev) [] := by
  unfold linT
  split
  · exact Closed.nil
  · refine (Closed.blank (c := 10) (by decide) (by decide)).append (U' := []) (Closed.blanks (fun c hc => ?_))
    have : ∀ (l : List UInt8) (n : Nat), c ∈ Lib.repeatL l n → c ∈ l := by
      intro l n
      induction n with
      | zero => intro h; cases h
      | succ n ih => intro h; exact (List.mem_append.1 h).elim id ih
    exact h c (this _ _ hc)
theorem Closed.blankT {step : ByteArray} : Closed (blankT step) [] := by
  unfold Go.Proofs.YtjhghhjnccjhmaaGreatDoor.blankT
  split
  · exact Closed.nil
  · exact Closed.blank (by decide) (by decide)
theorem Closed.sign {c : UInt8} (h1 : c ≠ 34) (h2 : blankB c = false) : Closed (sgnT false [c]) [c] := Closed.one h1 h2
theorem Closed.parts {step : ByteArray} (hs : Blanks step) (lev : Nat) (T U : Nat → List UInt8) : ∀ n, (∀ i, i < n → Closed (T i) (U i)) → Closed (prtT false step lev T n) (rowB U n)
  | 0, _ => Closed.nil
  | n + 1, h => by
    have h0 := Closed.parts hs lev T U n (fun i hi => h i (by omega))
    have h1 := h n (by omega)
    have h2 : Closed ((if n = 0 then [] else sgnT false [44]) ++ linT step (lev + 1) ++ T n) (if n = 0 then U n else 44 :: U n) := by
      by_cases e : n = 0
      · rw [if_pos e, if_pos e]
        exact (Closed.nil.append (U' := []) (Closed.line hs _)).append h1
      · rw [if_neg e, if_neg e]
        exact ((Closed.sign (c := 44) (by decide) (by decide)).append (U' := []) (Closed.line hs _)).append h1
    exact h0.append h2
theorem Closed.row {step : ByteArray} (hs : Blanks step) (lev : Nat) (op cl : UInt8) (h1 : op ≠ 34 ∧ blankB op = false) (h2 : cl ≠ 34 ∧ blankB cl = false) (n : Nat) (T U : Nat → List UInt8) (h : ∀ i, i < n → Closed (T i) (U i)) : Closed (rowT false step lev [op] [cl] n T) (op :: (rowB U n ++ [cl])) := by
  have hl : Closed (if n = 0 then [] else linT step lev) [] := by
    split
    · exact Closed.nil
    · exact Closed.line hs lev
  have := (((Closed.sign h1.1 h1.2).append (Closed.parts hs lev T U n h)).append hl).append (Closed.sign h2.1 h2.2)
  unfold rowT
  simpa using this
theorem Closed.value (y : Sty) (hc : y.col = false) (ha : y.asc = false) (hsr : y.srt = false) {step : ByteArray} (hs : Blanks step) (w : World) (B : Nat) : ∀ (m : Nat) (v : V) (lv kv : Value) (d lev : Nat), At w B m v lv kv → rightV d v = true → Closed (printV y step m v lev) (textV m v) := by
  intro m
  induction m with
  | zero => intro v lv kv d lev h; exact h.elim
  | succ m ih =>
    intro v lv kv d lev h hr
    obtain ⟨hsm, hka, hcp, a, c, b, o, rfl, hab, hi⟩ := h.opened
    obtain ⟨hk0, hk6⟩ := kind_in hr
    have hkl : v.k = 6 → v.ks.length = v.l.length := by
      intro h6
      cases d with
      | zero => cases hr
      | succ d =>
        have hr : (headOK v && v.l.all (fun x => rightV d x)) = true := hr
        rw [Bool.and_eq_true, headOK_iff] at hr
        exact hr.1.2.2.2.2.1.resolve_left (by rw [h6]; simp)
    have hch : ∀ i, i < v.l.length → Closed (printV y step m (v.l.getD i default) (lev + 1)) (textV m (v.l.getD i default)) := by
      intro i hlt
      have hg : v.l.getD i default = v.l[i] := by simp [List.getD, hlt]
      rw [hg]
      obtain ⟨lv', kv', _, hAt⟩ := hi i hlt
      exact ih v.l[i] lv' kv' (d - 1) (lev + 1) hAt (right_sub hr hlt)
    have e : textV (m + 1) v = if v.k = 0 then nullT else if v.k = 1 then falseT else if v.k = 2 then trueT else if v.k = 3 then textB v.f else if v.k = 4 then quoteR v.s
      else if v.k = 5 then 91 :: (rowB (fun i => textV m (v.l.getD i default)) v.l.length ++ [93])
      else 123 :: (rowB (fun i => quoteR (v.ks.getD i default) ++ 58 :: textV m (v.l.getD i default)) v.l.length ++ [125]) := rfl
    by_cases h5 : v.k = 5
    · rw [printV_arr y step m v lev h5, e, if_neg (by omega), if_neg (by omega), if_neg (by omega), if_neg (by omega), if_neg (by omega), if_pos h5, hc]
      exact Closed.row hs lev 91 93 ⟨by decide, by decide⟩ ⟨by decide, by decide⟩ _ _ _ hch
    by_cases h6 : v.k = 6
    · have e2 : ∀ i, ordP y.srt v.ks i = i := fun i => by unfold ordP; rw [hsr]; rfl
      rw [printV_obj y step m v lev h6, e, if_neg (by omega), if_neg (by omega), if_neg (by omega), if_neg (by omega), if_neg (by omega), if_neg h5, hc]
      simp only [e2]
      refine Closed.row hs lev 123 125 ⟨by decide, by decide⟩ ⟨by decide, by decide⟩ _ _ _ (fun i hlt => ?_)
      have hq : Closed (tokT y.col [51, 52, 59, 49] (escT y.asc (v.ks.getD i default))) (quoteR (v.ks.getD i default)) := by
        rw [hc, ha]
        exact Closed.quote _
      have hs2 : Closed (sgnT y.col [58]) [58] := by rw [hc]; exact Closed.sign (by decide) (by decide)
      have := ((hq.append hs2).append (U' := []) (Closed.blankT (step := step))).append (hch i hlt)
      unfold pairT
      simpa using this
    by_cases h4 : v.k = 4
    · rw [printV_str y step m v lev h4, e, if_neg (by omega), if_neg (by omega), if_neg (by omega), if_neg (by omega), if_pos h4, hc, ha]
      exact Closed.quote _
    · rw [printV_sca y step m v lev (by omega), hc]
      exact Closed.scalar m v ⟨hk0, by omega⟩ hsm.2.2.1
end Go.Proofs.YtjhghhjnccjhmaaGreatDoor

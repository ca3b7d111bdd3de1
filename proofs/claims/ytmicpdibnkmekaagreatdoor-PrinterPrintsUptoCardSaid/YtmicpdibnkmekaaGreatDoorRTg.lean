/- A text without what stands between tokens: plain. -/
import Derived.Test.YtmicpdibnkmekaaGreatDoorRPlain
import Derived.Test.YtmicpdibnkmekaaGreatDoorROrd
import Derived.Test.YtmicpdibnkmekaaGreatDoorRPrint
import Derived.Test.YtmicpdibnkmekaaGreatDoorRHeadsW
import Derived.Test.YtmicpdibnkmekaaGreatDoorRPieces
import Derived.Test.YtmicpdibnkmekaaGreatDoorQLarge
namespace Go.Proofs.YtmicpdibnkmekaaGreatDoor
open Go Go.RowKit

def blankB (c : UInt8) : Bool := decide (c = 32 ∨ c = 10 ∨ c = 9)
/-- What 'tight' keeps: within a string or not. -/
def tg : Bool → List UInt8 → List UInt8
  | _, [] => []
  | true, [92] => [92]
  | true, 92 :: d :: r => 92 :: d :: tg true r
  | i, c :: r => (if (if c = 34 then !i else i) || !blankB c then [c] else []) ++ tg (if c = 34 then !i else i) r
theorem tg_nil (i : Bool) : tg i [] = [] := by unfold tg; rfl
theorem tg_one : tg true [92] = [92] := by unfold tg; rfl
theorem tg_two (d : UInt8) (r : List UInt8) : tg true (92 :: d :: r) = 92 :: d :: tg true r := by
  rw [tg]
theorem tg_out (c : UInt8) (r : List UInt8) : tg false (c :: r) = (if (if c = 34 then true else false) || !blankB c then [c] else []) ++ tg (if c = 34 then true else false) r := by
  rw [tg]
  · rfl
  · intro h; cases h
  · intro d r h; cases h
theorem tg_in (c : UInt8) (r : List UInt8) (h : c ≠ 92) : tg true (c :: r) = (if (if c = 34 then false else true) || !blankB c then [c] else []) ++ tg (if c = 34 then false else true) r := by
  rw [tg]
  · rfl
  · intro _ e; first | exact h e | (intro _; exact h e)
  · intro d r _ e; first | exact h e | (intro _; exact h e)
/-- A piece that is gone through from outside a string to outside one. -/
def Closed (T U : List UInt8) : Prop := ∀ r, tg false (T ++ r) = U ++ tg false r
theorem Closed.nil : Closed [] [] := fun _ => rfl
theorem Closed.append {T U T' U' : List UInt8} (h : Closed T U) (k : Closed T' U') : Closed (T ++ T') (U ++ U') := fun r => by rw [List.append_assoc, h, k, List.append_assoc]
theorem Closed.one {c : UInt8} (h1 : c ≠ 34) (h2 : blankB c = false) : Closed [c] [c] := fun r => by
  show tg false (c :: r) = _
  rw [tg_out, if_neg h1, h2]
  rfl
theorem Closed.blank {c : UInt8} (h1 : c ≠ 34) (h2 : blankB c = true) : Closed [c] [] := fun r => by
  show tg false (c :: r) = _
  rw [tg_out, if_neg h1, h2]
  rfl
theorem Closed.same : ∀ {T : List UInt8}, (∀ c ∈ T, c ≠ 34 ∧ blankB c = false) → Closed T T
  | [], _ => Closed.nil
  | c :: T, h => by
    have h1 := h c (by simp)
    exact (Closed.one h1.1 h1.2).append (Closed.same (fun d hd => h d (by simp [hd])))
theorem Closed.blanks : ∀ {T : List UInt8}, (∀ c ∈ T, c ≠ 34 ∧ blankB c = true) → Closed T []
  | [], _ => Closed.nil
  | c :: T, h => by
    have h1 := h c (by simp)
    exact (Closed.blank h1.1 h1.2).append (Closed.blanks (fun d hd => h d (by simp [hd])))
/-- A piece within a string that stays there and is kept. -/
def Kept (T : List UInt8) : Prop := ∀ r, tg true (T ++ r) = T ++ tg true r
theorem Kept.nil : Kept [] := fun _ => rfl
theorem Kept.append {T U : List UInt8} (h : Kept T) (k : Kept U) : Kept (T ++ U) := fun r => by rw [List.append_assoc, h, k, List.append_assoc]
theorem Kept.one {c : UInt8} (h1 : c ≠ 34) (h2 : c ≠ 92) : Kept [c] := fun r => by
  show tg true (c :: r) = _
  rw [tg_in c r h2, if_neg h1]
  rfl
theorem Kept.two (d : UInt8) : Kept [92, d] := fun r => by
  show tg true (92 :: d :: r) = _
  rw [tg_two]
  rfl
theorem Kept.same : ∀ {T : List UInt8}, (∀ c ∈ T, c ≠ 34 ∧ c ≠ 92) → Kept T
  | [], _ => Kept.nil
  | c :: T, h => by
    have h1 := h c (by simp)
    exact (Kept.one h1.1 h1.2).append (Kept.same (fun d hd => h d (by simp [hd])))
theorem hex_kept : ∀ n : Fin 16, hexC n.val ≠ 34 ∧ hexC n.val ≠ 92 := by decide +kernel
theorem low_kept : ∀ n : Fin 128, n.val.toUInt8 ≠ 34 ∧ n.val.toUInt8 ≠ 92 ∨ n.val = 34 ∨ n.val = 92 := by decide +kernel
theorem escR_kept (p : Nat) (h2 : p ≤ 1114111) (h3 : p < 55296 ∨ 57343 < p) : Kept (escR (p : Int)) := by
  unfold escR
  by_cases h34 : (p : Int) = 34 ∨ (p : Int) = 92
  · rw [if_pos h34]; exact Kept.two _
  rw [if_neg h34]
  by_cases h8 : (p : Int) = 8
  · rw [if_pos h8]; exact Kept.two _
  rw [if_neg h8]
  by_cases h12 : (p : Int) = 12
  · rw [if_pos h12]; exact Kept.two _
  rw [if_neg h12]
  by_cases h10 : (p : Int) = 10
  · rw [if_pos h10]; exact Kept.two _
  rw [if_neg h10]
  by_cases h13 : (p : Int) = 13
  · rw [if_pos h13]; exact Kept.two _
  rw [if_neg h13]
  by_cases h9 : (p : Int) = 9
  · rw [if_pos h9]; exact Kept.two _
  rw [if_neg h9]
  by_cases hc : 32 ≤ (p : Int) ∧ (p : Int) ≠ 127
  · rw [if_pos hc]
    by_cases hl : p < 128
    · rw [enc_low p hl]
      have := low_kept ⟨p, hl⟩
      exact Kept.one (by rcases this with h | h | h; exact h.1; all_goals (simp at h; omega)) (by rcases this with h | h | h; exact h.2; all_goals (simp at h; omega))
    · refine Kept.same (fun c hcm => ?_)
      have := enc_high p (by omega) h2 h3 c hcm
      exact ⟨fun e => by rw [e] at this; exact absurd this (by decide), fun e => by rw [e] at this; exact absurd this (by decide)⟩
  · rw [if_neg hc]
    have hp : p < 128 := by omega
    have e1 : ((p : Int).toNat) = p := by simp
    rw [e1]
    have k1 := hex_kept ⟨p / 16 % 16, Nat.mod_lt _ (by decide)⟩
    have k2 := hex_kept ⟨p % 16, Nat.mod_lt _ (by decide)⟩
    have e2 : p / 16 % 16 = p / 16 := by omega
    simp only [e2] at k1
    exact (Kept.two 117).append (Kept.same (fun c hcm => by
      simp only [List.mem_cons, List.not_mem_nil, or_false] at hcm
      rcases hcm with rfl | rfl | rfl | rfl
      · exact ⟨by decide, by decide⟩
      · exact ⟨by decide, by decide⟩
      · exact k1
      · exact k2))
theorem body_kept (s : ByteArray) : Kept (bodyR s 0) := by
  have : ∀ l : List Nat, (∀ p ∈ l, p ≤ 1114111 ∧ (p < 55296 ∨ 57343 < p)) → Kept (l.flatMap fun p : Nat => escR ((p : Nat) : Int)) := by
    intro l
    induction l with
    | nil => intro _; exact Kept.nil
    | cons p l ih =>
      intro h
      rw [List.flatMap_cons]
      have h1 := h p (by simp)
      exact (escR_kept p h1.1 h1.2).append (ih (fun q hq => h q (by simp [hq])))
  refine this _ (fun p hp => ?_)
  unfold pts at hp
  rw [List.mem_map] at hp
  obtain ⟨x, _, rfl⟩ := hp
  exact dec_point s x
theorem Closed.quote (s : ByteArray) : Closed (quoteR s) (quoteR s) := fun r => by
  show tg false (34 :: ((bodyR s 0 ++ [34]) ++ r)) = _
  rw [tg_out, if_pos rfl, List.append_assoc, body_kept s]
  show [34] ++ (bodyR s 0 ++ tg true (34 :: r)) = _
  rw [tg_in 34 r (by decide), if_pos rfl]
  show [34] ++ (bodyR s 0 ++ ([34] ++ tg false r)) = _
  unfold quoteR
  simp
end Go.Proofs.YtmicpdibnkmekaaGreatDoor
namespace Go.Proofs.YtmicpdibnkmekaaGreatDoor
open Go Go.RowKit

theorem ok_high {c : UInt8} (h : 43 ≤ c.toNat) : c ≠ 34 ∧ blankB c = false := by
  have hne : ∀ d : UInt8, d.toNat < 43 → c ≠ d := fun d hd e => by rw [e] at h; omega
  refine ⟨hne _ (by decide), ?_⟩
  unfold blankB
  rw [decide_eq_false_iff_not]
  rintro (e | e | e) <;> exact hne _ (by decide) e
theorem of_high (n : Nat) (h : 43 ≤ n) (h2 : n < 256) : 43 ≤ (UInt8.ofNat n).toNat := by rw [UInt8.toNat_ofNat']; omega
theorem expD_high (x : Nat) (h : x ≤ 999) : ∀ c ∈ expD x, 43 ≤ c.toNat := by
  intro c hc
  unfold expD at hc
  split at hc
  · simp only [List.mem_cons, List.not_mem_nil, or_false] at hc
    rcases hc with rfl | rfl
    · decide
    · exact of_high _ (by omega) (by omega)
  · split at hc
    · simp only [List.mem_cons, List.not_mem_nil, or_false] at hc
      rcases hc with rfl | rfl
      · exact of_high _ (by omega) (by omega)
      · exact of_high _ (by omega) (by omega)
    · simp only [List.mem_cons, List.not_mem_nil, or_false] at hc
      rcases hc with rfl | rfl | rfl
      · exact of_high _ (by omega) (by omega)
      · exact of_high _ (by omega) (by omega)
      · exact of_high _ (by omega) (by omega)
theorem sign_high (b : Bool) : ∀ c ∈ (if b then ([45] : List UInt8) else []), 43 ≤ c.toNat := by
  intro c hc
  split at hc
  · simp only [List.mem_cons, List.not_mem_nil, or_false] at hc; subst hc; decide
  · cases hc
theorem eText_high (neg : Bool) (l : List UInt8) (x : Int) (hl : ∀ c ∈ l, 43 ≤ c.toNat) (hx : x.natAbs ≤ 999) : ∀ c ∈ eText neg l x, 43 ≤ c.toNat := by
  intro c hc
  unfold eText at hc
  simp only [List.mem_append] at hc
  rcases hc with ((((h | h) | h) | h) | h) | h
  · exact sign_high neg c h
  · exact hl c (List.mem_of_mem_take h)
  · split at h
    · cases h
    · rcases List.mem_cons.1 h with rfl | h
      · decide
      · exact hl c (List.mem_of_mem_drop h)
  · simp only [List.mem_cons, List.not_mem_nil, or_false] at h; subst h; decide
  · split at h <;> (simp only [List.mem_cons, List.not_mem_nil, or_false] at h; subst h; decide)
  · exact expD_high _ hx c h
theorem fText_high (neg : Bool) (l : List UInt8) (dp : Int) (hl : ∀ c ∈ l, 43 ≤ c.toNat) : ∀ c ∈ fText neg l dp, 43 ≤ c.toNat := by
  intro c hc
  unfold fText at hc
  rw [List.mem_append] at hc
  rcases hc with h | h
  · exact sign_high neg c h
  · split at h
    · rcases List.mem_append.1 h with h | h
      · exact hl c h
      · rw [List.eq_of_mem_replicate h]; decide
    · split at h
      · rcases List.mem_append.1 h with h | h
        · exact hl c (List.mem_of_mem_take h)
        · rcases List.mem_cons.1 h with rfl | h
          · decide
          · exact hl c (List.mem_of_mem_drop h)
      · rcases List.mem_cons.1 h with rfl | h
        · decide
        · rcases List.mem_cons.1 h with rfl | h
          · decide
          · rcases List.mem_append.1 h with h | h
            · rw [List.eq_of_mem_replicate h]; decide
            · exact hl c h
theorem textB_high (b : Nat) (hb : b < 18446744073709551616) : ∀ c ∈ textB b, 43 ≤ c.toNat := by
  intro c hc
  unfold textB at hc
  by_cases h1 : 9218868437227405312 < szB b
  · rw [if_pos h1] at hc
    simp only [List.mem_cons, List.not_mem_nil, or_false] at hc
    rcases hc with rfl | rfl | rfl | rfl <;> decide
  · rw [if_neg h1] at hc
    have hcl := clamp_in b hb (by omega)
    obtain ⟨q, hq⟩ : ∃ q, clampB b = q := ⟨_, rfl⟩
    rw [hq] at hcl hc
    have hdig : ∀ d ∈ digB q, 43 ≤ d.toNat := fun d hd => by
      have := dec_digit _ d (List.mem_of_mem_take hd)
      omega
    have hz : ∀ n : Bool, ∀ T : List UInt8, (∀ c ∈ T, 43 ≤ c.toNat) → ∀ c ∈ (if n then ([45] : List UInt8) else []) ++ T, 43 ≤ c.toNat := fun n T hT c hc => (List.mem_append.1 hc).elim (sign_high n c) (hT c)
    split at hc
    · unfold fOf at hc
      split at hc
      · exact hz _ _ (fun c h => by simp only [List.mem_cons, List.not_mem_nil, or_false] at h; subst h; decide) c hc
      · exact fText_high _ _ _ hdig c hc
    · unfold eOf at hc
      split at hc
      · exact hz _ _ (fun c h => by simp only [List.mem_cons, List.not_mem_nil, or_false] at h; rcases h with rfl | rfl | rfl | rfl | rfl <;> decide) c hc
      · rename_i hnz
        have hx : exB q ≤ 2046 := by unfold exB; have := hcl.2; unfold szB at this; omega
        have hm : mtB q < 4503599627370496 := Nat.mod_lt _ (by omega)
        obtain ⟨d1, d2, d3, d4⟩ := dec_all _ _ hnz hx hm
        have s3 := nine_digits _ d2
        exact eText_high _ _ _ hdig (by unfold dpB; omega) c hc
theorem Closed.scalar (m : Nat) (v : V) (hk : 0 ≤ v.k ∧ v.k ≤ 3) (hf : v.f < 18446744073709551616) : Closed (textV (m + 1) v) (textV (m + 1) v) := by
  have e : textV (m + 1) v = if v.k = 0 then nullT else if v.k = 1 then falseT else if v.k = 2 then trueT else if v.k = 3 then textB v.f else if v.k = 4 then quoteR v.s
      else if v.k = 5 then 91 :: (rowB (fun i => textV m (v.l.getD i default)) v.l.length ++ [93])
      else 123 :: (rowB (fun i => quoteR (v.ks.getD i default) ++ 58 :: textV m (v.l.getD i default)) v.l.length ++ [125]) := rfl
  refine Closed.same (fun c hc => ok_high ?_)
  rw [e] at hc
  by_cases h0 : v.k = 0
  · rw [if_pos h0] at hc
    unfold nullT at hc
    simp only [List.mem_cons, List.not_mem_nil, or_false] at hc
    rcases hc with rfl | rfl | rfl | rfl <;> decide
  by_cases h1 : v.k = 1
  · rw [if_neg h0, if_pos h1] at hc
    unfold falseT at hc
    simp only [List.mem_cons, List.not_mem_nil, or_false] at hc
    rcases hc with rfl | rfl | rfl | rfl | rfl <;> decide
  by_cases h2 : v.k = 2
  · rw [if_neg h0, if_neg h1, if_pos h2] at hc
    unfold trueT at hc
    simp only [List.mem_cons, List.not_mem_nil, or_false] at hc
    rcases hc with rfl | rfl | rfl | rfl <;> decide
  · rw [if_neg h0, if_neg h1, if_neg h2, if_pos (by omega)] at hc
    exact textB_high v.f hf c hc
theorem kind_in {d : Nat} {v : V} (h : rightV d v = true) : 0 ≤ v.k ∧ v.k ≤ 6 := by
  cases d with
  | zero => cases h
  | succ d =>
    have h : (headOK v && v.l.all (fun x => rightV d x)) = true := h
    rw [Bool.and_eq_true, headOK_iff] at h
    exact h.1.1
/-- A step of blanks. -/
def Blanks (step : ByteArray) : Prop := ∀ c ∈ step.data.toList, c ≠ 34 ∧ blankB c = true
theorem Closed.line {step : ByteArray} (h : Blanks step) (lev : Nat) : Closed (linT step lev) [] := by
  unfold linT
  split
  · exact Closed.nil
  · refine (Closed.blank (c := 10) (by decide) (by decide)).append (U' := []) (Closed.blanks (fun c hc => ?_))
    have : ∀ (l : List UInt8) (n : Nat), c ∈ Lib.repeatL l n → c ∈ l := by
      intro l n
      induction n with
      | zero => intro h; cases h
      | succ n ih => intro h; exact (List.mem_append.1 h).elim id ih
    exact h c (this _ _ hc)
theorem Closed.blankT {step : ByteArray} : Closed (blankT step) [] := by
  unfold Go.Proofs.YtmicpdibnkmekaaGreatDoor.blankT
  split
  · exact Closed.nil
  · exact Closed.blank (by decide) (by decide)
theorem Closed.sign {c : UInt8} (h1 : c ≠ 34) (h2 : blankB c = false) : Closed (sgnT false [c]) [c] := Closed.one h1 h2
theorem Closed.parts {step : ByteArray} (hs : Blanks step) (lev : Nat) (T U : Nat → List UInt8) : ∀ n, (∀ i, i < n → Closed (T i) (U i)) → Closed (prtT false step lev T n) (rowB U n)
  | 0, _ => Closed.nil
  | n + 1, h => by
    have h0 := Closed.parts hs lev T U n (fun i hi => h i (by omega))
    have h1 := h n (by omega)
    have h2 : Closed ((if n = 0 then [] else sgnT false [44]) ++ linT step (lev + 1) ++ T n) (if n = 0 then U n else 44 :: U n) := by
      by_cases e : n = 0
      · rw [if_pos e, if_pos e]
        exact (Closed.nil.append (U' := []) (Closed.line hs _)).append h1
      · rw [if_neg e, if_neg e]
        exact ((Closed.sign (c := 44) (by decide) (by decide)).append (U' := []) (Closed.line hs _)).append h1
    exact h0.append h2
theorem Closed.row {step : ByteArray} (hs : Blanks step) (lev : Nat) (op cl : UInt8) (h1 : op ≠ 34 ∧ blankB op = false) (h2 : cl ≠ 34 ∧ blankB cl = false) (n : Nat) (T U : Nat → List UInt8) (h : ∀ i, i < n → Closed (T i) (U i)) : Closed (rowT false step lev [op] [cl] n T) (op :: (rowB U n ++ [cl])) := by
  have hl : Closed (if n = 0 then [] else linT step lev) [] := by
    split
    · exact Closed.nil
    · exact Closed.line hs lev
  have := (((Closed.sign h1.1 h1.2).append (Closed.parts hs lev T U n h)).append hl).append (Closed.sign h2.1 h2.2)
  unfold rowT
  simpa using this
theorem Closed.value (y : Sty) (hc : y.col = false) (ha : y.asc = false) (hsr : y.srt = false) {step : ByteArray} (hs : Blanks step) (w : World) (B : Nat) : ∀ (m : Nat) (v : V) (lv kv : Value) (d lev : Nat), At w B m v lv kv → rightV d v = true → Closed (printV y step m v lev) (textV m v) := by
  intro m
  induction m with
  | zero => intro v lv kv d lev h; exact h.elim
  | succ m ih =>
    intro v lv kv d lev h hr
    obtain ⟨hsm, hka, hcp, a, c, b, o, rfl, hab, hi⟩ := h.opened
    obtain ⟨hk0, hk6⟩ := kind_in hr
    have hkl : v.k = 6 → v.ks.length = v.l.length := by
      intro h6
      cases d with
      | zero => cases hr
      | succ d =>
        have hr : (headOK v && v.l.all (fun x => rightV d x)) = true := hr
        rw [Bool.and_eq_true, headOK_iff] at hr
        exact hr.1.2.2.2.2.1.resolve_left (by rw [h6]; simp)
    have hch : ∀ i, i < v.l.length → Closed (printV y step m (v.l.getD i default) (lev + 1)) (textV m (v.l.getD i default)) := by
      intro i hlt
      have hg : v.l.getD i default = v.l[i] := by simp [List.getD, hlt]
      rw [hg]
      obtain ⟨lv', kv', _, hAt⟩ := hi i hlt
      exact ih v.l[i] lv' kv' (d - 1) (lev + 1) hAt (right_sub hr hlt)
    have e : textV (m + 1) v = if v.k = 0 then nullT else if v.k = 1 then falseT else if v.k = 2 then trueT else if v.k = 3 then textB v.f else if v.k = 4 then quoteR v.s
      else if v.k = 5 then 91 :: (rowB (fun i => textV m (v.l.getD i default)) v.l.length ++ [93])
      else 123 :: (rowB (fun i => quoteR (v.ks.getD i default) ++ 58 :: textV m (v.l.getD i default)) v.l.length ++ [125]) := rfl
    by_cases h5 : v.k = 5
    · rw [printV_arr y step m v lev h5, e, if_neg (by omega), if_neg (by omega), if_neg (by omega), if_neg (by omega), if_neg (by omega), if_pos h5, hc]
      exact Closed.row hs lev 91 93 ⟨by decide, by decide⟩ ⟨by decide, by decide⟩ _ _ _ hch
    by_cases h6 : v.k = 6
    · have e2 : ∀ i, ordP y.srt v.ks i = i := fun i => by unfold ordP; rw [hsr]; rfl
      rw [printV_obj y step m v lev h6, e, if_neg (by omega), if_neg (by omega), if_neg (by omega), if_neg (by omega), if_neg (by omega), if_neg h5, hc]
      simp only [e2]
      refine Closed.row hs lev 123 125 ⟨by decide, by decide⟩ ⟨by decide, by decide⟩ _ _ _ (fun i hlt => ?_)
      have hq : Closed (tokT y.col [51, 52, 59, 49] (escT y.asc (v.ks.getD i default))) (quoteR (v.ks.getD i default)) := by
        rw [hc, ha]
        exact Closed.quote _
      have hs2 : Closed (sgnT y.col [58]) [58] := by rw [hc]; exact Closed.sign (by decide) (by decide)
      have := ((hq.append hs2).append (U' := []) (Closed.blankT (step := step))).append (hch i hlt)
      unfold pairT
      simpa using this
    by_cases h4 : v.k = 4
    · rw [printV_str y step m v lev h4, e, if_neg (by omega), if_neg (by omega), if_neg (by omega), if_neg (by omega), if_pos h4, hc, ha]
      exact Closed.quote _
    · rw [printV_sca y step m v lev (by omega), hc]
      exact Closed.scalar m v ⟨hk0, by omega⟩ hsm.2.2.1
end Go.Proofs.YtmicpdibnkmekaaGreatDoor
namespace Go.Proofs.YtmicpdibnkmekaaGreatDoor
open Go Go.RowKit

theorem drop_cons (s : ByteArray) (k : Nat) (h : k < s.size) : s.data.toList.drop k = s[k] :: s.data.toList.drop (k + 1) := by
  have h1 : k < s.data.toList.length := by simpa using h
  rw [← List.getElem_cons_drop h1]
  rfl
theorem tg_len : ∀ (n : Nat) (i : Bool) (l : List UInt8), l.length ≤ n → (tg i l).length ≤ l.length := by
  intro n
  induction n with
  | zero => intro i l h; obtain rfl : l = [] := List.eq_nil_of_length_eq_zero (by omega)
            rw [tg_nil]; exact Nat.le_refl _
  | succ n ih =>
    intro i l h
    cases l with
    | nil => rw [tg_nil]; exact Nat.le_refl _
    | cons c r =>
      rw [List.length_cons] at h
      have one : ∀ (q j : Bool), ((if q = true then [c] else []) ++ tg j r).length ≤ (c :: r).length := by
        intro q j
        have := ih j r (by omega)
        rw [List.length_append, List.length_cons]
        split
        · simp; omega
        · simp; omega
      cases i with
      | false => rw [tg_out]; exact one _ _
      | true =>
        by_cases h92 : c = 92
        · subst h92
          cases r with
          | nil => rw [tg_one]; exact Nat.le_refl _
          | cons d r =>
            rw [tg_two]
            rw [List.length_cons] at h
            have := ih true r (by omega)
            simp only [List.length_cons]
            omega
        · rw [tg_in c r h92]; exact one _ _
theorem u8_ne (c d : UInt8) : (((c.toNat : Nat) : Int) != ((d.toNat : Nat) : Int)) = !decide (c = d) := by
  show (!(((c.toNat : Nat) : Int) == ((d.toNat : Nat) : Int))) = _
  rw [u8_eq]
theorem drop_end (s : ByteArray) (k : Nat) (h : s.size ≤ k) : s.data.toList.drop k = [] := List.drop_of_length_le (by simpa using h)
end Go.Proofs.YtmicpdibnkmekaaGreatDoor
namespace Go.Proofs.YtmicpdibnkmekaaGreatDoor
open Go Go.RowKit

theorem outS_small (st : Option (List UInt8)) (h : ∀ l, st = some l → l.length ≤ 16777216) : (outS st).1.size ≤ 16777216 := by
  cases st with
  | none => exact Nat.zero_le _
  | some l => show (⟨l.toArray⟩ : ByteArray).size ≤ _; rw [size_arr]; exact h l rfl
theorem prT_small (y : Sty) (m : Nat) (v : V) : ∀ l, prT y m v = some l → l = printV y (stepT y) m v 0 ∧ l.length ≤ 16777216 := by
  intro l hl
  unfold prT at hl
  by_cases hf : ([] : List UInt8).length + (printV y (stepT y) m v 0).length ≤ 16777216
  · rw [putS_fit hf] at hl
    injection hl with hl
    rw [← hl, List.nil_append]
    exact ⟨rfl, by simpa using hf⟩
  · rw [putS_not hf] at hl; cases hl
theorem blanks_step (y : Sty) : Blanks (stepT y) := by
  intro c hc
  unfold stepT at hc
  split at hc
  · have hc : c ∈ [(9 : UInt8)] := hc
    simp only [List.mem_cons, List.not_mem_nil, or_false] at hc
    subst hc
    exact ⟨by decide, by decide⟩
  · have : ∀ n, c ∈ Lib.repeatL [(32 : UInt8)] n → c = 32 := by
      intro n
      induction n with
      | zero => intro h; cases h
      | succ n ih => intro h; exact (List.mem_append.1 h).elim (fun h => by simpa using h) ih
    have := this _ hc
    subst this
    exact ⟨by decide, by decide⟩
/-- What is left of what Print writes is the value's text. -/
theorem tight_print (y : Sty) (hc : y.col = false) (ha : y.asc = false) (hsr : y.srt = false) (w : World) (B m : Nat) (v : V) (lv kv : Value) (d : Nat) (hA : At w B m v lv kv) (hr : rightV d v = true) (l : List UInt8) (hl : prT y m v = some l) : tg false l = textV m v := by
  rw [(prT_small y m v l hl).1]
  have := Closed.value y hc ha hsr (blanks_step y) w B m v lv kv d 0 hA hr []
  rw [List.append_nil, tg_nil, List.append_nil] at this
  exact this
theorem At.depth {w : World} {B : Nat} : ∀ (d m : Nat) (v : V) (lv kv : Value), At w B m v lv kv → rightV d v = true → At w B d v lv kv := by
  intro d
  induction d with
  | zero => intro m v lv kv _ hr; cases hr
  | succ d ih =>
    intro m v lv kv h hr
    obtain ⟨m, rfl⟩ : ∃ m', m = m' + 1 := by cases m with | zero => exact h.elim | succ m => exact ⟨m, rfl⟩
    obtain ⟨hs, hk, hc, a, c, b, o, e, hab, hi⟩ := h.opened
    refine ⟨hs, hk, hc, a, c, b, o, e, hab, fun i hlt => ?_⟩
    obtain ⟨lv', kv', h5, hA⟩ := hi i hlt
    exact ⟨lv', kv', h5, ih m _ _ _ hA (right_sub hr hlt)⟩
/-- What Print answers without colours, in what order keys stand: a text and a number; if it is 0, the value's text is left of it. -/
theorem print_out (n : Int) (hn : -9223372036854775808 ≤ n ∧ n ≤ 9223372036854775807) (tab : Bool) (v : V) (m : Nat) (a1 a2 : Option Addr) (n1 k1 n2 k2 : Nat) (w : World) (hN : NumW w) (hA : At w w.heap.size m v (.slice a1 n1 k1) (.slice a2 n2 k2)) (hr : rightV 10000 v = true) :
    ∃ (A : ByteArray) (E : Int), (∀ W, Below w.heap.size w W → Calls Tryz.prog 13 #[.agg #[.int .i64 v.k, .float .f64 v.f, .string v.s, .slice a1 n1 k1, .slice a2 n2 k2], .agg #[.int .i64 n, .bool tab, .bool false, .bool false, .bool false]] W fun e w' => e = .returned (.tuple #[.string A, .int .i64 E]) ∧ Below W.heap.size W w') ∧
      (E = 0 → tg false A.data.toList = textV 10000 v) ∧ A.size ≤ 16777216 := by
  have h10 := At.depth 10000 m v _ _ hA hr
  by_cases hin : 0 ≤ n ∧ n ≤ 7
  · refine ⟨(outS (prT ⟨n, tab, false, false, false⟩ 10000 v)).1, (outS (prT ⟨n, tab, false, false, false⟩ 10000 v)).2, fun W hW => ?_, fun h0 => ?_, outS_small _ (fun l hl => (prT_small _ _ _ l hl).2)⟩
    · exact Print_any ⟨n, tab, false, false, false⟩ (order_F _ rfl) hin.1 hin.2 10000 (by decide) v 10000 _ _ W (hN.below hW) ((h10.below hW).more hW.size) hr
    · cases hp : prT ⟨n, tab, false, false, false⟩ 10000 v with
      | none => rw [hp] at h0; cases h0
      | some l => exact tight_print ⟨n, tab, false, false, false⟩ rfl rfl rfl w w.heap.size 10000 v _ _ 10000 h10 hr l hp
  · exact ⟨⟨#[]⟩, 2, fun W hW => Print_bad ⟨n, tab, false, false, false⟩ hn (by show n < 0 ∨ 7 < n; omega) v.k v.f v.s _ _ W, (fun h => absurd h (by decide)), by decide⟩
end Go.Proofs.YtmicpdibnkmekaaGreatDoor

/- PrinterAscii: its walk. -/
import Derived.Test.YtjhghhjnccjhmaaGreatDoorRTgV
import Derived.Test.YtjhghhjnccjhmaaGreatDoorRTight
import Derived.Test.YtjhghhjnccjhmaaGreatDoorQLaid
import Derived.Test.YtjhghhjnccjhmaaGreatDoorRBlanks
import Derived.Test.YtjhghhjnccjhmaaGreatDoorROrdU
namespace Go.Proofs.YtjhghhjnccjhmaaGreatDoor
open Go Go.RowKit

/-- A letter of ASCII that is seen. -/
def Pl (c : UInt8) : Prop := 32 ≤ c.toNat ∧ c.toNat ≤ 126
theorem hex_pl : ∀ n : Fin 16, 32 ≤ (hexC n.val).toNat ∧ (hexC n.val).toNat ≤ 126 := by decide +kernel
theorem low_pl : ∀ n : Fin 128, ∀ c ∈ escR (n.val : Int), 32 ≤ c.toNat ∧ c.toNat ≤ 126 := by decide +kernel
theorem escR_pl (p : Nat) (h2 : p ≤ 1114111) (h3 : p < 55296 ∨ 57343 < p) : ∀ c ∈ escR (p : Int), 128 ≤ c.toNat ∨ Pl c := by
  intro c hc
  by_cases h : p < 128
  · exact Or.inr (low_pl ⟨p, h⟩ c hc)
  · unfold escR at hc
    rw [if_neg (by omega), if_neg (by omega), if_neg (by omega), if_neg (by omega), if_neg (by omega), if_neg (by omega), if_pos (by omega)] at hc
    exact Or.inl (enc_high p (by omega) h2 h3 c hc)
theorem quote_pl (s : ByteArray) : ∀ c ∈ quoteR s, 128 ≤ c.toNat ∨ Pl c := by
  intro c hc
  unfold quoteR at hc
  rw [List.mem_cons, List.mem_append] at hc
  rcases hc with rfl | hc | hc
  · exact Or.inr ⟨by decide, by decide⟩
  · unfold bodyR at hc
    rw [List.mem_flatMap] at hc
    obtain ⟨p, hp, hc⟩ := hc
    unfold pts at hp
    rw [List.mem_map] at hp
    obtain ⟨x, _, rfl⟩ := hp
    exact escR_pl _ (dec_point s x).1 (dec_point s x).2 c hc
  · simp only [List.mem_cons, List.not_mem_nil, or_false] at hc
    subst hc
    exact Or.inr ⟨by decide, by decide⟩
theorem unit_pl (u : Nat) : ∀ c ∈ unitT u, Pl c := by
  intro c hc
  unfold unitT at hc
  simp only [List.mem_cons, List.not_mem_nil, or_false] at hc
  rcases hc with rfl | rfl | rfl | rfl | rfl | rfl
  · exact ⟨by decide, by decide⟩
  · exact ⟨by decide, by decide⟩
  · exact hex_pl ⟨_, Nat.mod_lt _ (by decide)⟩
  · exact hex_pl ⟨_, Nat.mod_lt _ (by decide)⟩
  · exact hex_pl ⟨_, Nat.mod_lt _ (by decide)⟩
  · exact hex_pl ⟨_, Nat.mod_lt _ (by decide)⟩
theorem ascii_pl (s : ByteArray) (hs : ∀ c ∈ s.data.toList, 128 ≤ c.toNat ∨ Pl c) : ∀ (k pos : Nat), s.size - pos ≤ k → ∀ c ∈ asciiR s pos, Pl c := by
  intro k
  induction k with
  | zero =>
    intro pos hk c hc
    rw [asciiR_nil s pos (by omega)] at hc
    cases hc
  | succ k ih =>
    intro pos hk c hc
    by_cases hlt : pos < s.size
    · rw [asciiR_cons s pos hlt, List.mem_append] at hc
      have hwd := wid s pos hlt
      rcases hc with hc | hc
      · unfold escA at hc
        split at hc
        · rename_i h127
          have hne : s.data.toList.drop pos ≠ [] := by
            intro e
            have := congrArg List.length e
            rw [List.length_drop] at this
            simp at this
            omega
          have he := Lib.encode_decode _ hne (by rw [Lib.decodeL_drop]; omega)
          rw [Lib.decodeL_drop, enc_low _ (by omega)] at he
          rw [he] at hc
          have h := hs c (List.mem_of_mem_drop (List.mem_of_mem_take hc))
          rcases h with h | h
          · rw [← he] at hc
            simp only [List.mem_cons, List.not_mem_nil, or_false] at hc
            rw [hc] at h
            have e : ((Utf8.decode s pos).1.toUInt8).toNat = (Utf8.decode s pos).1 % 256 := by simp
            rw [e] at h
            omega
          · exact h
        · split at hc
          · exact unit_pl _ c hc
          · exact (List.mem_append.1 hc).elim (unit_pl _ c) (unit_pl _ c)
      · exact ih _ (by omega) c hc
    · rw [asciiR_nil s pos hlt] at hc
      cases hc
theorem escT_pl (s : ByteArray) : ∀ c ∈ escT true s, Pl c := by
  intro c hc
  unfold escT at hc
  rw [if_pos rfl] at hc
  exact ascii_pl _ (fun c hc => quote_pl s c (by simpa using hc)) _ 0 (Nat.le_refl _) c hc
theorem of_lo (n : Nat) (h : 43 ≤ n) (h2 : n ≤ 126) : 43 ≤ (UInt8.ofNat n).toNat ∧ (UInt8.ofNat n).toNat ≤ 126 := by rw [UInt8.toNat_ofNat']; omega
theorem expD_lo (x : Nat) (h : x ≤ 999) : ∀ c ∈ expD x, (43 ≤ c.toNat ∧ c.toNat ≤ 126) := by
  intro c hc
  unfold expD at hc
  split at hc
  · simp only [List.mem_cons, List.not_mem_nil, or_false] at hc
    rcases hc with rfl | rfl
    · decide
    · exact of_lo _ (by omega) (by omega)
  · split at hc
    · simp only [List.mem_cons, List.not_mem_nil, or_false] at hc
      rcases hc with rfl | rfl
      · exact of_lo _ (by omega) (by omega)
      · exact of_lo _ (by omega) (by omega)
    · simp only [List.mem_cons, List.not_mem_nil, or_false] at hc
      rcases hc with rfl | rfl | rfl
      · exact of_lo _ (by omega) (by omega)
      · exact of_lo _ (by omega) (by omega)
      · exact of_lo _ (by omega) (by omega)
theorem sign_lo (b : Bool) : ∀ c ∈ (if b then ([45] : List UInt8) else []), (43 ≤ c.toNat ∧ c.toNat ≤ 126) := by
  intro c hc
  split at hc
  · simp only [List.mem_cons, List.not_mem_nil, or_false] at hc; subst hc; decide
  · cases hc
theorem eText_lo (neg : Bool) (l : List UInt8) (x : Int) (hl : ∀ c ∈ l, (43 ≤ c.toNat ∧ c.toNat ≤ 126)) (hx : x.natAbs ≤ 999) : ∀ c ∈ eText neg l x, (43 ≤ c.toNat ∧ c.toNat ≤ 126) := by
  intro c hc
  unfold eText at hc
  simp only [List.mem_append] at hc
  rcases hc with ((((h | h) | h) | h) | h) | h
  · exact sign_lo neg c h
  · exact hl c (List.mem_of_mem_take h)
  · split at h
    · cases h
    · rcases List.mem_cons.1 h with rfl | h
      · decide
      · exact hl c (List.mem_of_mem_drop h)
  · simp only [List.mem_cons, List.not_mem_nil, or_false] at h; subst h; decide
  · split at h <;> (simp only [List.mem_cons, List.not_mem_nil, or_false] at h; subst h; decide)
  · exact expD_lo _ hx c h
theorem fText_lo (neg : Bool) (l : List UInt8) (dp : Int) (hl : ∀ c ∈ l, (43 ≤ c.toNat ∧ c.toNat ≤ 126)) : ∀ c ∈ fText neg l dp, (43 ≤ c.toNat ∧ c.toNat ≤ 126) := by
  intro c hc
  unfold fText at hc
  rw [List.mem_append] at hc
  rcases hc with h | h
  · exact sign_lo neg c h
  · split at h
    · rcases List.mem_append.1 h with h | h
      · exact hl c h
      · rw [List.eq_of_mem_replicate h]; decide
    · split at h
      · rcases List.mem_append.1 h with h | h
        · exact hl c (List.mem_of_mem_take h)
        · rcases List.mem_cons.1 h with rfl | h
          · decide
          · exact hl c (List.mem_of_mem_drop h)
      · rcases List.mem_cons.1 h with rfl | h
        · decide
        · rcases List.mem_cons.1 h with rfl | h
          · decide
          · rcases List.mem_append.1 h with h | h
            · rw [List.eq_of_mem_replicate h]; decide
            · exact hl c h
theorem textB_lo (b : Nat) (hb : b < 18446744073709551616) : ∀ c ∈ textB b, (43 ≤ c.toNat ∧ c.toNat ≤ 126) := by
  intro c hc
  unfold textB at hc
  by_cases h1 : 9218868437227405312 < szB b
  · rw [if_pos h1] at hc
    simp only [List.mem_cons, List.not_mem_nil, or_false] at hc
    rcases hc with rfl | rfl | rfl | rfl <;> decide
  · rw [if_neg h1] at hc
    have hcl := clamp_in b hb (by omega)
    obtain ⟨q, hq⟩ : ∃ q, clampB b = q := ⟨_, rfl⟩
    rw [hq] at hcl hc
    have hdig : ∀ d ∈ digB q, (43 ≤ d.toNat ∧ d.toNat ≤ 126) := fun d hd => by
      have := dec_digit _ d (List.mem_of_mem_take hd)
      constructor <;> omega
    have hz : ∀ n : Bool, ∀ T : List UInt8, (∀ c ∈ T, (43 ≤ c.toNat ∧ c.toNat ≤ 126)) → ∀ c ∈ (if n then ([45] : List UInt8) else []) ++ T, (43 ≤ c.toNat ∧ c.toNat ≤ 126) := fun n T hT c hc => (List.mem_append.1 hc).elim (sign_lo n c) (hT c)
    split at hc
    · unfold fOf at hc
      split at hc
      · exact hz _ _ (fun c h => by simp only [List.mem_cons, List.not_mem_nil, or_false] at h; subst h; decide) c hc
      · exact fText_lo _ _ _ hdig c hc
    · unfold eOf at hc
      split at hc
      · exact hz _ _ (fun c h => by simp only [List.mem_cons, List.not_mem_nil, or_false] at h; rcases h with rfl | rfl | rfl | rfl | rfl <;> decide) c hc
      · rename_i hnz
        have hx : exB q ≤ 2046 := by unfold exB; have := hcl.2; unfold szB at this; omega
        have hm : mtB q < 4503599627370496 := Nat.mod_lt _ (by omega)
        obtain ⟨d1, d2, d3, d4⟩ := dec_all _ _ hnz hx hm
        have s3 := nine_digits _ d2
        exact eText_lo _ _ _ hdig (by unfold dpB; omega) c hc
theorem scalar_lo (m : Nat) (v : V) (hk : 0 ≤ v.k ∧ v.k ≤ 3) (hf : v.f < 18446744073709551616) : ∀ c ∈ textV (m + 1) v, 43 ≤ c.toNat ∧ c.toNat ≤ 126 := by
  intro c hc
  have e : textV (m + 1) v = if v.k = 0 then nullT else if v.k = 1 then falseT else if v.k = 2 then trueT else if v.k = 3 then textB v.f else if v.k = 4 then quoteR v.s
      else if v.k = 5 then 91 :: (rowB (fun i => textV m (v.l.getD i default)) v.l.length ++ [93])
      else 123 :: (rowB (fun i => quoteR (v.ks.getD i default) ++ 58 :: textV m (v.l.getD i default)) v.l.length ++ [125]) := rfl
  rw [e] at hc
  by_cases h0 : v.k = 0
  · rw [if_pos h0] at hc
    unfold nullT at hc
    simp only [List.mem_cons, List.not_mem_nil, or_false] at hc
    rcases hc with rfl | rfl | rfl | rfl <;> decide
  by_cases h1 : v.k = 1
  · rw [if_neg h0, if_pos h1] at hc
    unfold falseT at hc
    simp only [List.mem_cons, List.not_mem_nil, or_false] at hc
    rcases hc with rfl | rfl | rfl | rfl | rfl <;> decide
  by_cases h2 : v.k = 2
  · rw [if_neg h0, if_neg h1, if_pos h2] at hc
    unfold trueT at hc
    simp only [List.mem_cons, List.not_mem_nil, or_false] at hc
    rcases hc with rfl | rfl | rfl | rfl <;> decide
  · rw [if_neg h0, if_neg h1, if_neg h2, if_pos (by omega)] at hc
    exact textB_lo v.f hf c hc
/-- A text without colours. -/
def bareL : Bool → List UInt8 → List UInt8
  | _, [] => []
  | false, c :: r => if c = 27 then bareL true r else c :: bareL false r
  | true, c :: r => if c = 109 then bareL false r else bareL true r
theorem bare_nil (b : Bool) : bareL b [] = [] := by unfold bareL; rfl
theorem bare_out (c : UInt8) (r : List UInt8) : bareL false (c :: r) = if c = 27 then bareL true r else c :: bareL false r := by rw [bareL]
theorem bare_in (c : UInt8) (r : List UInt8) : bareL true (c :: r) = if c = 109 then bareL false r else bareL true r := by rw [bareL]
/-- A text T of ASCII, of which U is left without colours. -/
def Good (T U : List UInt8) : Prop := (∀ r, bareL false (T ++ r) = U ++ bareL false r) ∧ ∀ c ∈ T, c.toNat ≤ 126
theorem Good.nil : Good [] [] := ⟨fun _ => rfl, fun _ h => by cases h⟩
theorem Good.append {T U T' U' : List UInt8} (h : Good T U) (k : Good T' U') : Good (T ++ T') (U ++ U') :=
  ⟨fun r => by rw [List.append_assoc, h.1, k.1, List.append_assoc], fun c hc => (List.mem_append.1 hc).elim (h.2 c) (k.2 c)⟩
theorem Good.same : ∀ {T : List UInt8}, (∀ c ∈ T, c ≠ 27 ∧ c.toNat ≤ 126) → Good T T
  | [], _ => Good.nil
  | c :: T, h => by
    have h1 := h c (by simp)
    have h2 := Good.same (T := T) (fun d hd => h d (by simp [hd]))
    exact ⟨fun r => by rw [List.cons_append, bare_out, if_neg h1.1, h2.1, List.cons_append], fun d hd => (h d hd).2⟩
theorem bare_skip : ∀ (T r : List UInt8), (∀ c ∈ T, c ≠ 109) → bareL true (T ++ 109 :: r) = bareL false r
  | [], r, _ => by rw [List.nil_append, bare_in, if_pos rfl]
  | c :: T, r, h => by rw [List.cons_append, bare_in, if_neg (h c (by simp)), bare_skip T r (fun d hd => h d (by simp [hd]))]
theorem Good.colour (T : List UInt8) (h : ∀ c ∈ T, c ≠ 109) (h2 : ∀ c ∈ T, c.toNat ≤ 126) : Good (27 :: (T ++ [109])) [] := by
  refine ⟨fun r => ?_, fun c hc => ?_⟩
  · rw [List.cons_append, bare_out, if_pos rfl, List.append_assoc, List.singleton_append, bare_skip T r h, List.nil_append]
  · rcases List.mem_cons.1 hc with rfl | hc
    · decide
    · rcases List.mem_append.1 hc with hc | hc
      · exact h2 c hc
      · simp only [List.mem_cons, List.not_mem_nil, or_false] at hc
        subst hc
        decide
/-- A colour's number. -/
def Code (T : List UInt8) : Prop := ∀ c ∈ T, c ≠ 109 ∧ c.toNat ≤ 126
theorem Good.tok (col : Bool) {code T U : List UInt8} (hc : Code code) (h : Good T U) : Good (tokT col code T) (tokT false code U) := by
  have e1 : tokT false code U = U := rfl
  rw [e1]
  cases col with
  | false => exact h
  | true =>
    have e2 : tokT true code T = [27, 91] ++ code ++ [109] ++ T ++ [27, 91, 48, 109] := rfl
    rw [e2]
    have h1 := Good.colour (91 :: code) (fun c h => by rcases List.mem_cons.1 h with rfl | h; decide; exact (hc c h).1) (fun c h => by rcases List.mem_cons.1 h with rfl | h; decide; exact (hc c h).2)
    have h2 := Good.colour [91, 48] (by decide) (by decide)
    have := (h1.append h).append h2
    simpa using this
theorem Good.sgn (col : Bool) {T U : List UInt8} (h : Good T U) : Good (sgnT col T) (sgnT false U) := Good.tok col (by unfold Code; decide) h
theorem Good.pl {T : List UInt8} (h : ∀ c ∈ T, Pl c) : Good T T := Good.same fun c hc => ⟨fun e => by have := (h c hc).1; rw [e] at this; exact absurd this (by decide), (h c hc).2⟩
theorem blank_good {c : UInt8} (h : blankB c = true) : c ≠ 27 ∧ c.toNat ≤ 126 := by
  unfold blankB at h
  rw [decide_eq_true_iff] at h
  rcases h with rfl | rfl | rfl <;> decide
theorem Good.line {step : ByteArray} (h : Blanks step) (lev : Nat) : Good (linT step lev) (linT step lev) := by
  refine Good.same (fun c hc => ?_)
  unfold linT at hc
  split at hc
  · cases hc
  · rcases List.mem_cons.1 hc with rfl | hc
    · decide
    · have : ∀ (l : List UInt8) (n : Nat), c ∈ Lib.repeatL l n → c ∈ l := by
        intro l n
        induction n with
        | zero => intro h; cases h
        | succ n ih => intro h; exact (List.mem_append.1 h).elim id ih
      exact blank_good (h c (this _ _ hc)).2
theorem Good.blankT {step : ByteArray} : Good (blankT step) (blankT step) := by
  refine Good.same (fun c hc => ?_)
  unfold Go.Proofs.YtjhghhjnccjhmaaGreatDoor.blankT at hc
  split at hc
  · cases hc
  · simp only [List.mem_cons, List.not_mem_nil, or_false] at hc
    subst hc
    decide
theorem Good.parts (col : Bool) {step : ByteArray} (hs : Blanks step) (lev : Nat) (T U : Nat → List UInt8) : ∀ n, (∀ i, i < n → Good (T i) (U i)) → Good (prtT col step lev T n) (prtT false step lev U n)
  | 0, _ => Good.nil
  | n + 1, h => by
    have h0 := Good.parts col hs lev T U n (fun i hi => h i (by omega))
    have h1 := h n (by omega)
    have h2 : Good ((if n = 0 then [] else sgnT col [44]) ++ linT step (lev + 1) ++ T n) ((if n = 0 then [] else sgnT false [44]) ++ linT step (lev + 1) ++ U n) := by
      by_cases e : n = 0
      · rw [if_pos e, if_pos e]
        exact (Good.nil.append (Good.line hs _)).append h1
      · rw [if_neg e, if_neg e]
        exact ((Good.sgn col (Good.same (T := [44]) (by decide))).append (Good.line hs _)).append h1
    exact h0.append h2
theorem Good.row (col : Bool) {step : ByteArray} (hs : Blanks step) (lev : Nat) (op cl : List UInt8) (h1 : Good op op) (h2 : Good cl cl) (n : Nat) (T U : Nat → List UInt8) (h : ∀ i, i < n → Good (T i) (U i)) : Good (rowT col step lev op cl n T) (rowT false step lev op cl n U) := by
  have hl : Good (if n = 0 then [] else linT step lev) (if n = 0 then [] else linT step lev) := by
    split
    · exact Good.nil
    · exact Good.line hs lev
  unfold rowT
  exact (((Good.sgn col h1).append (Good.parts col hs lev T U n h)).append hl).append (Good.sgn col h2)
theorem col_code (k : Int) : Code (colT k).data.toList := by
  unfold Code colT
  split
  · decide
  · split
    · decide
    · split <;> decide
theorem Good.value (y : Sty) (ha : y.asc = true) {step : ByteArray} (hs : Blanks step) (w : World) (B : Nat) : ∀ (m : Nat) (v : V) (lv kv : Value) (d lev : Nat), At w B m v lv kv → rightV d v = true → Good (printV y step m v lev) (printV { y with col := false } step m v lev) := by
  intro m
  induction m with
  | zero => intro v lv kv d lev h; exact h.elim
  | succ m ih =>
    intro v lv kv d lev h hr
    obtain ⟨hsm, hka, hcp, a, c, b, o, rfl, hab, hi⟩ := h.opened
    obtain ⟨hk0, hk6⟩ := kind_in hr
    have hkl : v.k = 6 → v.ks.length = v.l.length := by
      intro h6
      cases d with
      | zero => cases hr
      | succ d =>
        have hr : (headOK v && v.l.all (fun x => rightV d x)) = true := hr
        rw [Bool.and_eq_true, headOK_iff] at hr
        exact hr.1.2.2.2.2.1.resolve_left (by rw [h6]; simp)
    have hch : ∀ i, i < v.l.length → Good (printV y step m (v.l.getD i default) (lev + 1)) (printV { y with col := false } step m (v.l.getD i default) (lev + 1)) := by
      intro i hlt
      have hg : v.l.getD i default = v.l[i] := by simp [List.getD, hlt]
      rw [hg]
      obtain ⟨lv', kv', _, hAt⟩ := hi i hlt
      exact ih v.l[i] lv' kv' (d - 1) (lev + 1) hAt (right_sub hr hlt)
    have hesc : ∀ s : ByteArray, Good (escT y.asc s) (escT y.asc s) := fun s => by rw [ha]; exact Good.pl (escT_pl s)
    by_cases h5 : v.k = 5
    · rw [printV_arr y step m v lev h5, printV_arr { y with col := false } step m v lev h5]
      exact Good.row y.col hs lev [91] [93] (Good.same (by decide)) (Good.same (by decide)) _ _ _ hch
    by_cases h6 : v.k = 6
    · rw [printV_obj y step m v lev h6, printV_obj { y with col := false } step m v lev h6]
      refine Good.row y.col hs lev [123] [125] (Good.same (by decide)) (Good.same (by decide)) _ _ _ (fun i hlt => ?_)
      have hq := Good.tok y.col (code := [51, 52, 59, 49]) (by unfold Code; decide) (hesc (v.ks.getD (ordP y.srt v.ks i) default))
      have hs2 := Good.sgn y.col (Good.same (T := [58]) (by decide))
      exact ((hq.append hs2).append Good.blankT).append (hch _ (by have := ord_lt y.srt v.ks i (by rw [hkl h6]; exact hlt); rw [hkl h6] at this; exact this))
    by_cases h4 : v.k = 4
    · rw [printV_str y step m v lev h4, printV_str { y with col := false } step m v lev h4]
      exact Good.tok y.col (col_code 4) (hesc v.s)
    · rw [printV_sca y step m v lev (by omega), printV_sca { y with col := false } step m v lev (by omega)]
      refine Good.tok y.col (col_code v.k) (Good.same fun c hc => ?_)
      have := scalar_lo m v ⟨hk0, by omega⟩ hsm.2.2.1 c hc
      exact ⟨fun e => by rw [e] at this; exact absurd this.1 (by decide), this.2⟩
end Go.Proofs.YtjhghhjnccjhmaaGreatDoor
namespace Go.Proofs.YtjhghhjnccjhmaaGreatDoor
open Go Go.RowKit

theorem bareL_len : ∀ (b : Bool) (l : List UInt8), (bareL b l).length ≤ l.length
  | b, [] => by rw [bare_nil]; exact Nat.le_refl _
  | false, c :: r => by
    have h1 := bareL_len true r
    have h2 := bareL_len false r
    rw [bare_out]
    split
    · rw [List.length_cons]; omega
    · rw [List.length_cons, List.length_cons]; omega
  | true, c :: r => by
    have h1 := bareL_len true r
    have h2 := bareL_len false r
    rw [bare_in]
    split <;> (rw [List.length_cons]; omega)
set_option maxRecDepth 100000 in
set_option maxHeartbeats 8000000 in
theorem bare_any (s : ByteArray) (hm : s.size ≤ 1000000000) (w : World) :
    Calls Tryz.prog 19 #[.string s] w fun e w' => e = .returned (.string ⟨(bareL false s.data.toList).toArray⟩) ∧ Below w.heap.size w w' := by
  have htl := bareL_len false s.data.toList
  have hsz : s.data.toList.length = s.size := by simp
  rw [hsz] at htl
  clear hsz
  go_enter Tryz.func19, Tryz.ntmps19
  go_wp2_with fail
  go_loopw [3, 4] (fun b i wr => ∃ (q : Value) (k : Nat) (acc : List UInt8), q = b ∧ i = .int .i64 k ∧ k ≤ s.size + 1 ∧ Hid (acc ++ bareL false (s.data.toList.drop k) = bareL false s.data.toList) ∧ wr.ownsRow w.heap.size 5 1 b acc.length (Lib.byteCells acc) ∧ Below w.heap.size w wr) (fun _ i _ => s.size + 2 - (intOf i).toNat)
  case atStart => exact ⟨_, 0, [], rfl, rfl, by omega, Lib.hid (by rw [List.drop_zero]; rfl), World.ownsRow_nil _ _ _ _, Below.refl _ _⟩
  case round =>
    obtain ⟨q, k, acc, rfl, rfl, hk, HE, hown, hb⟩ := hrel
    have hbz := hb.size
    have hal : acc.length ≤ s.size := by
      have := congrArg List.length HE.out
      rw [List.length_append] at this
      omega
    by_cases hlt : k < s.size
    · have hdc := drop_cons s k hlt
      have n27 : (((s[k].toNat : Nat) : Int) != 27) = !decide (s[k] = 27) := u8_ne s[k] 27
      have HDC := Lib.hid hdc
      have HOW := Lib.hid hown
      have HB := Lib.hid hb
      have i0 : (0 : Int) ≤ (k : Int) := by omega
      have i1 : (k : Int) < (s.size : Int) := by omega
      clear hdc hown hb
      by_cases e27 : s[k] = 27
      · rw [decide_eq_true e27] at n27
        have n27 : (((s[k].toNat : Nat) : Int) != 27) = false := n27
        have HE2 : Hid (acc ++ bareL true (s.data.toList.drop k) = bareL false s.data.toList) := Lib.hid (by rw [← HE.out, HDC.out, bare_out, bare_in, if_pos e27, if_neg (by rw [e27]; decide)])
        clear hk
        go_wp2_with fail
        go_loopw [4] (fun i W => ∃ j : Nat, i = .int .i64 j ∧ j ≤ s.size ∧ k ≤ j ∧ Hid (acc ++ bareL true (s.data.toList.drop j) = bareL false s.data.toList) ∧ W.ownsRow w.heap.size 5 1 q acc.length (Lib.byteCells acc) ∧ Below w.heap.size w W) (fun i _ => s.size + 1 - (intOf i).toNat)
        case atStart => exact ⟨k, rfl, by omega, Nat.le_refl _, HE2, HOW.out, HB.out⟩
        case round =>
          obtain ⟨j, rfl, hj, hkj, HF, hown2, hb2⟩ := hrel
          have HOW2 := Lib.hid hown2
          have HB2 := Lib.hid hb2
          clear hown2 hb2 n27 i0 i1
          by_cases hlt2 : j < s.size
          · have hdc2 := drop_cons s j hlt2
            have HDC2 := Lib.hid hdc2
            have n109 : (((s[j].toNat : Nat) : Int) != 109) = !decide (s[j] = 109) := u8_ne s[j] 109
            have i0 : (0 : Int) ≤ (j : Int) := by omega
            have i1 : (j : Int) < (s.size : Int) := by omega
            have dj : decide ((j : Int) < (s.size : Int)) = true := by simp; omega
            clear hdc2
            by_cases e109 : s[j] = 109
            · rw [decide_eq_true e109] at n109
              have n109 : (((s[j].toNat : Nat) : Int) != 109) = false := n109
              go_wp2_with fail
              go_roundw
              case rel => exact ⟨_, j + 1, acc, rfl, by go_num, by omega, Lib.hid (by rw [← HF.out, HDC2.out, bare_in, if_pos e109]), HOW2.out, HB2.out⟩
              case measure => simp [intOf]; omega
            · rw [decide_eq_false e109] at n109
              have n109 : (((s[j].toNat : Nat) : Int) != 109) = true := n109
              go_wp2_with fail
              go_roundw
              case rel => exact ⟨j + 1, by go_num, by omega, by omega, Lib.hid (by rw [← HF.out, HDC2.out, bare_in, if_neg e109]), HOW2.out, HB2.out⟩
              case measure => simp [intOf]; omega
          · have dj : decide ((j : Int) < (s.size : Int)) = false := by simp; omega
            have hde := drop_end s j (by omega)
            have hde2 := drop_end s (j + 1) (by omega)
            have HDE := Lib.hid hde
            have HDE2 := Lib.hid hde2
            clear hde hde2
            go_wp2_with fail
            go_roundw
            case rel => exact ⟨_, j + 1, acc, rfl, by go_num, by omega, Lib.hid (by rw [← HF.out, HDE.out, HDE2.out, bare_nil, bare_nil]), HOW2.out, HB2.out⟩
            case measure => simp [intOf]; omega
      · rw [decide_eq_false e27] at n27
        have n27 : (((s[k].toNat : Nat) : Int) != 27) = true := n27
        go_wp2_with (at_builtin; refine app_one rfl _ _ _ rfl w.heap.size 5 _ 1 Tryz.underlying42 infoU8 rfl _ _ _ rfl (by exact HOW.out) rfl rfl ?c1 ?c2 ?c3 ?_)
        case c1 => unfold maxLen; omega
        case c2 => omega
        case c3 => omega
        intro v1 x1 hown1 hg1 hb1
        go_wp2_with fail
        go_roundw
        case rel => exact ⟨_, k + 1, acc ++ [s[k]], rfl, by go_num, by omega, Lib.hid (by rw [← HE.out, HDC.out, bare_out, if_neg e27]; simp), by rw [List.length_append, Lib.byteCells_append]; exact hown1, HB.out.trans hb1⟩
        case measure => simp [intOf]; omega
    · have hde := drop_end s k (by omega)
      have he : acc = bareL false s.data.toList := by have := HE.out; rw [hde, bare_nil, List.append_nil] at this; exact this
      have dk : decide ((k : Int) < (s.size : Int)) = false := by simp; omega
      have hst := arr_string (P := Tryz.prog) (Arr.of_own hown (Nat.le_refl _)) 42 9 5 Tryz.underlying42 Tryz.underlying5 Tryz.underlying9
      rw [he] at hst
      have HB := Lib.hid hb
      clear hde he hown hb HE
      go_wp2_with fail
      go_ret
      exact ⟨rfl, HB.out⟩
end Go.Proofs.YtjhghhjnccjhmaaGreatDoor
namespace Go.Proofs.YtjhghhjnccjhmaaGreatDoor
open Go Go.ChangeShapes Go.WideShapes Go.ChangeAt Go.RowKit Go.Lib Go.Deep

set_option maxRecDepth 100000 in
theorem readS : Tryz.prog.readableRec 29 = true := by kernel_rfl
set_option maxRecDepth 100000 in
/-- A style that came in: its fields, and that it reads the same behind the call. -/
theorem open_sty {H : Type} {enc : TypeId × Value → H} {W : World} {v : Value} {d : DataW H} {p : List MemPlace} (hval : Value.okWide Tryz.prog W .any 0 29 v) (h : DataW.Trod enc Tryz.prog W 0 (fun _ => true) true 29 v d p) :
    ∃ (n : Int) (tab srt asc col : Bool), v = .agg #[.int .i64 n, .bool tab, .bool srt, .bool asc, .bool col] ∧ (-9223372036854775808 ≤ n ∧ n ≤ 9223372036854775807) ∧ ∀ W' : World, Below W.heap.size W W' → DataW.Trod enc Tryz.prog W' 0 (fun b => decide (b < W.heap.size)) true 29 v d p := by
  have h' := h
  obtain ⟨cs, rfl, _⟩ := okWide_struct Tryz.underlying29 hval
  obtain ⟨fuel, hf⟩ := h
  have hback : ∀ W' : World, Below W.heap.size W W' → DataW.Trod enc Tryz.prog W' 0 (fun b => decide (b < W.heap.size)) true 29 (.agg cs) d p := fun W' bel => Below.trod laidOutV readS (of_decide_eq_true (by kernel_rfl)) h' bel (fun y hy => DataW.trod_lt _ _ _ _ hf y hy)
  have hf : DataW.trod enc Tryz.prog W 0 (fun _ => true) true fuel 29 cs.toList = some (d, p) := hf
  obtain ⟨xs, n, _, hx, hcl, hxl, hq⟩ := DataW.trod_struct Tryz.underlying29 hf
  have hc5 : Tryz.prog.cellsOf 29 = 5 := by kernel_rfl
  rw [hc5] at hcl
  obtain ⟨cl⟩ := cs
  match cl, hcl with
  | [c0, c1, c2, c3, c4], _ =>
    match xs, hxl with
    | [y0, y1, y2, y3, y4], _ =>
      have g0 := hq 0 _ rfl
      have g1 := hq 1 _ rfl
      have g2 := hq 2 _ rfl
      have g3 := hq 3 _ rfl
      have g4 := hq 4 _ rfl
      have k0 : Tryz.prog.cellsOf 3 = 1 := by kernel_rfl
      have k1 : Tryz.prog.cellsOf 4 = 1 := by kernel_rfl
      replace g0 : DataW.trod enc Tryz.prog W 0 (fun _ => true) true n 3 (List.take (Tryz.prog.cellsOf 3) (List.drop 0 [c0, c1, c2, c3, c4])) = some y0 := g0
      rw [k0] at g0
      replace g0 : DataW.trod enc Tryz.prog W 0 (fun _ => true) true n 3 [c0] = some y0 := g0
      replace g1 : DataW.trod enc Tryz.prog W 0 (fun _ => true) true n 4 (List.take (Tryz.prog.cellsOf 4) (List.drop 1 [c0, c1, c2, c3, c4])) = some y1 := g1
      rw [k1] at g1
      replace g1 : DataW.trod enc Tryz.prog W 0 (fun _ => true) true n 4 [c1] = some y1 := g1
      replace g2 : DataW.trod enc Tryz.prog W 0 (fun _ => true) true n 4 (List.take (Tryz.prog.cellsOf 4) (List.drop 2 [c0, c1, c2, c3, c4])) = some y2 := g2
      rw [k1] at g2
      replace g2 : DataW.trod enc Tryz.prog W 0 (fun _ => true) true n 4 [c2] = some y2 := g2
      replace g3 : DataW.trod enc Tryz.prog W 0 (fun _ => true) true n 4 (List.take (Tryz.prog.cellsOf 4) (List.drop 3 [c0, c1, c2, c3, c4])) = some y3 := g3
      rw [k1] at g3
      replace g3 : DataW.trod enc Tryz.prog W 0 (fun _ => true) true n 4 [c3] = some y3 := g3
      replace g4 : DataW.trod enc Tryz.prog W 0 (fun _ => true) true n 4 (List.take (Tryz.prog.cellsOf 4) (List.drop 4 [c0, c1, c2, c3, c4])) = some y4 := g4
      rw [k1] at g4
      replace g4 : DataW.trod enc Tryz.prog W 0 (fun _ => true) true n 4 [c4] = some y4 := g4
      obtain ⟨k, e0, _, wk⟩ := DataW.trod_int Tryz.underlying3 g0
      obtain ⟨b1, e1, _⟩ := DataW.trod_bool Tryz.underlying4 g1
      obtain ⟨b2, e2, _⟩ := DataW.trod_bool Tryz.underlying4 g2
      obtain ⟨b3, e3, _⟩ := DataW.trod_bool Tryz.underlying4 g3
      obtain ⟨b4, e4, _⟩ := DataW.trod_bool Tryz.underlying4 g4
      cases e0
      cases e1
      cases e2
      cases e3
      cases e4
      have hkk : -9223372036854775808 ≤ k ∧ k ≤ 9223372036854775807 := by
        simp [Lit.wf] at wk
        have e1 : IntKind.i64.min = -9223372036854775808 := by decide
        have e2 : IntKind.i64.max = 9223372036854775807 := by decide
        omega
      exact ⟨k, b1, b2, b3, b4, rfl, hkk, hback⟩
end Go.Proofs.YtjhghhjnccjhmaaGreatDoor
namespace Go.Proofs.YtjhghhjnccjhmaaGreatDoor
open Go Go.RowKit

/-- A cell of the second of two blocks is written. -/
theorem HW.store {w W : World} {cv cs : Array Value} {tv ts : TypeId} {V S : Nat} (h : HW w W [(S, cs, ts), (V, cv, tv)]) (hS : w.heap.size ≤ S) (hne : V ≠ S) (j : Nat) (x : Value) : HW w (W.setCell ⟨S, j, none⟩ x) [(S, cs.setIfInBounds j x, ts), (V, cv, tv)] := by
  refine ⟨fun y hy => ?_, h.bel.setCell (p := ⟨S, j, none⟩) hS x⟩
  rcases List.mem_cons.1 hy with rfl | hy
  · exact row_setAt (h.rows (S, cs, ts) (by simp)) j x
  · rcases List.mem_cons.1 hy with rfl | hy
    · have := h.rows (V, cv, tv) (by simp)
      exact block_set this hne
    · cases hy
theorem row5z {w : World} {b : Nat} {u0 u1 u2 u3 u4 : Value} {t : TypeId} (hb : w.heap[b]? = some (.cells #[u0, u1, u2, u3, u4] t (0, 0))) : ∀ j, w.frozen? ⟨b, j, none⟩ = false := by
  intro j
  simp [World.frozen?, hb]
/-- What Print answers in ASCII: a text and a number. -/
theorem print_asc (n : Int) (hn : -9223372036854775808 ≤ n ∧ n ≤ 9223372036854775807) (tab srt col : Bool) (v : V) (m : Nat) (a1 a2 : Option Addr) (n1 k1 n2 k2 : Nat) (w : World) (hN : NumW w) (hA : At w w.heap.size m v (.slice a1 n1 k1) (.slice a2 n2 k2)) (hr : rightV 10000 v = true) :
    ∃ (A : ByteArray) (E : Int), (∀ W, Below w.heap.size w W → Calls Tryz.prog 10 #[.agg #[.int .i64 v.k, .float .f64 v.f, .string v.s, .slice a1 n1 k1, .slice a2 n2 k2], .agg #[.int .i64 n, .bool tab, .bool srt, .bool true, .bool col]] W fun e w' => e = .returned (.tuple #[.string A, .int .i64 E]) ∧ Below W.heap.size W w') ∧
      (∀ c ∈ A.data.toList, c.toNat ≤ 126) ∧ (E = 0 → bareL false A.data.toList = printV ⟨n, tab, srt, true, false⟩ (stepT ⟨n, tab, srt, true, false⟩) 10000 v 0) ∧ A.size ≤ 16777216 := by
  have h10 := At.depth 10000 m v _ _ hA hr
  by_cases hin : 0 ≤ n ∧ n ≤ 7
  · have hg := Good.value ⟨n, tab, srt, true, col⟩ rfl (blanks_step ⟨n, tab, srt, true, col⟩) w w.heap.size 10000 v _ _ 10000 0 h10 hr
    have hcase : ∀ l, prT ⟨n, tab, srt, true, col⟩ 10000 v = some l → l = printV ⟨n, tab, srt, true, col⟩ (stepT ⟨n, tab, srt, true, col⟩) 10000 v 0 := fun l hl => (prT_small _ _ _ l hl).1
    refine ⟨(outS (prT ⟨n, tab, srt, true, col⟩ 10000 v)).1, (outS (prT ⟨n, tab, srt, true, col⟩ 10000 v)).2, fun W hW => ?_, fun c hc => ?_, fun h0 => ?_, outS_small _ (fun l hl => (prT_small _ _ _ l hl).2)⟩
    · exact Print_any ⟨n, tab, srt, true, col⟩ (order_C _) hin.1 hin.2 10000 (by decide) v 10000 _ _ W (hN.below hW) ((h10.below hW).more hW.size) hr
    · cases hp : prT ⟨n, tab, srt, true, col⟩ 10000 v with
      | none => rw [hp] at hc; cases hc
      | some l =>
        rw [hp] at hc
        have hc : c ∈ l := hc
        rw [hcase l hp] at hc
        exact hg.2 c hc
    · cases hp : prT ⟨n, tab, srt, true, col⟩ 10000 v with
      | none => rw [hp] at h0; cases h0
      | some l =>
        show bareL false l = _
        rw [hcase l hp]
        have := hg.1 []
        rw [List.append_nil, bare_nil, List.append_nil] at this
        exact this
  · exact ⟨⟨#[]⟩, 2, fun W hW => Print_bad ⟨n, tab, srt, true, col⟩ hn (by show n < 0 ∨ 7 < n; omega) v.k v.f v.s _ _ W, (fun c hc => by cases hc), (fun h => absurd h (by decide)), by decide⟩
set_option maxRecDepth 100000 in
set_option maxHeartbeats 8000000 in
theorem printerAscii_true (v : V) (m : Nat) (lv kv : Value) (n : Int) (tab srt asc col : Bool) (w : World) (hN : NumW w) (h : At w w.heap.size m v lv kv) (hn : -9223372036854775808 ≤ n ∧ n ≤ 9223372036854775807) :
    Calls Tryz.prog 5 #[.agg (cellsV v lv kv), .agg #[.int .i64 n, .bool tab, .bool srt, .bool asc, .bool col]] w fun e w' => e = .returned (.bool true) ∧ Below w.heap.size w w' := by
  have hsf := run_store_float Tryz.prog
  have HN := Lib.hid (fun W (hW : Below w.heap.size w W) => hN.below hW)
  have hh := fun W hW => heads_true W hW
  have hrr := fun W (hW : Below w.heap.size w W) => refRightT_any m v _ _ W ((h.below hW).more hW.size)
  have hrl := fun W (hW : Below w.heap.size w W) => refLarge_any m v _ _ W ((h.below hW).more hW.size)
  obtain ⟨a1, n1, k1, a2, n2, k2, rfl, rfl⟩ := h.slices
  unfold cellsV at hrr hrl ⊢
  have HH := Lib.hid hh
  have HRR := Lib.hid hrr
  have HRL := Lib.hid hrl
  have HA := Lib.hid h
  have H := Lib.hid ((HW.start w).two #[.int .i64 v.k, .float .f64 v.f, .string v.s, .slice a1 n1 k1, .slice a2 n2 k2] #[.int .i64 n, .bool tab, .bool srt, .bool asc, .bool col] 27 29)
  clear hh hrr hrl h hN
  go_enter Tryz.func5, Tryz.ntmps5
  go_wp2_with fail
  refine (HRR.out _ H.out.bel).mono ?_
  rintro e w1 ⟨rfl, hb⟩
  have hx := H.out.below hb
  clear H
  have H := Lib.hid hx
  obtain ⟨i0, i1, i2, i3, i4⟩ := row5p (hx.get _ _ _ (.tail _ (.head _)))
  clear hx hb
  cases hR : rightV 10000 v with
  | false =>
    go_wp2_with fail
    refine (HH.out _ (HN.out _ H.out.bel)).mono ?_
    rintro e w2 ⟨rfl, hb⟩
    have hz := H.out.bel.trans (hb.mono H.out.bel.size)
    go_wp2_with fail
    go_ret
    exact ⟨rfl, hz⟩
  | true =>
    have hNw := HN.out w (Below.refl _ _)
    obtain ⟨A1, E1, hp1, hl1, ht1, hs1⟩ := print_asc n hn tab srt col v m a1 a2 n1 k1 n2 k2 w hNw HA.out hR
    obtain ⟨A2, E2, hp2, hl2, ht2, hs2⟩ := print_asc n hn tab srt (!col) v m a1 a2 n1 k1 n2 k2 w hNw HA.out hR
    have hbg1 := fun W => bare_any A1 (by omega) W
    have hbg2 := fun W => bare_any A2 (by omega) W
    obtain ⟨P, hP⟩ : ∃ P, printV ⟨n, tab, srt, true, false⟩ (stepT ⟨n, tab, srt, true, false⟩) 10000 v 0 = P := ⟨_, rfl⟩
    rw [hP] at ht1 ht2
    obtain ⟨L, hL⟩ : ∃ L, largeV m v = L := ⟨_, rfl⟩
    rw [hL] at HRL
    have HP1 := Lib.hid hp1
    have HP2 := Lib.hid hp2
    have HT1 := Lib.hid ht1
    have HT2 := Lib.hid ht2
    have HL1 := Lib.hid hl1
    have HG1 := Lib.hid hbg1
    have HG2 := Lib.hid hbg2
    clear hp1 hp2 ht1 ht2 hl1 hl2 hs2 hbg1 hbg2 hL hP hNw hR
    go_wp2_with fail
    refine (HRL.out _ H.out.bel).mono ?_
    rintro e w2 ⟨rfl, hb⟩
    have hx := H.out.below hb
    clear H i0 i1 i2 i3 i4
    have H := Lib.hid hx
    clear hx hb
    cases L with
    | true =>
      go_wp2_with fail
      refine (HH.out _ (HN.out _ H.out.bel)).mono ?_
      rintro e w2 ⟨rfl, hb⟩
      have hz := H.out.bel.trans (hb.mono H.out.bel.size)
      go_wp2_with fail
      go_ret
      exact ⟨rfl, hz⟩
    | false =>
      have fz := row5z (H.out.get _ _ _ (.head _)) 3
      have oz := (row5p (H.out.get _ _ _ (.head _))).2.2.2.1
      have hx : HW w _ [(w.heap.size + 1, #[.int .i64 n, .bool tab, .bool srt, .bool true, .bool col], 29), (w.heap.size, #[.int .i64 v.k, .float .f64 v.f, .string v.s, .slice a1 n1 k1, .slice a2 n2 k2], 27)] := H.out.store (by omega) (by omega) 3 (.bool true)
      clear H
      have H := Lib.hid hx
      obtain ⟨i0, i1, i2, i3, i4⟩ := row5p (hx.get _ _ _ (.tail _ (.head _)))
      obtain ⟨j0, j1, j2, j3, j4⟩ := row5p (hx.get _ _ _ (.head _))
      clear hx
      go_wp2_with fail
      refine (HP1.out _ H.out.bel).mono ?_
      rintro e w3 ⟨rfl, hb⟩
      have hx := H.out.below hb
      clear H i0 i1 i2 i3 i4 j0 j1 j2 j3 j4 fz oz
      have H := Lib.hid hx
      clear hx hb
      go_wp2_with fail
      go_loopw [7] (fun i W => ∃ k : Nat, i = .int .i64 k ∧ k ≤ A1.size ∧ Hid (HW w W [(w.heap.size + 1, #[.int .i64 n, .bool tab, .bool srt, .bool true, .bool col], 29), (w.heap.size, #[.int .i64 v.k, .float .f64 v.f, .string v.s, .slice a1 n1 k1, .slice a2 n2 k2], 27)])) (fun i _ => A1.size - (intOf i).toNat)
      case atStart => exact ⟨0, rfl, Nat.zero_le _, H⟩
      case round =>
        obtain ⟨k, rfl, hk, H2⟩ := hrel
        clear H
        by_cases hlt : k < A1.size
        · have hc := HL1.out A1[k] (List.mem_of_mem_drop (i := k) (by rw [drop_cons A1 k hlt]; simp))
          have dg : decide ((126 : Int) < ((A1[k].toNat : Nat) : Int)) = false := by simp; omega
          have q0 : (0 : Int) ≤ (k : Int) := by omega
          have q1 : (k : Int) < (A1.size : Int) := by omega
          clear hc
          go_wp2_with fail
          go_roundw
          case rel => exact ⟨k + 1, by go_num, by omega, H2⟩
          case measure => simp [intOf]; omega
        · have dk : decide ((k : Int) < (A1.size : Int)) = false := by simp; omega
          have fz := row5z (H2.out.get _ _ _ (.head _)) 4
          have j4 := (row5p (H2.out.get _ _ _ (.head _))).2.2.2.2
          have hx : HW w _ [(w.heap.size + 1, #[.int .i64 n, .bool tab, .bool srt, .bool true, .bool (!col)], 29), (w.heap.size, #[.int .i64 v.k, .float .f64 v.f, .string v.s, .slice a1 n1 k1, .slice a2 n2 k2], 27)] := H2.out.store (by omega) (by omega) 4 (.bool (!col))
          clear H2
          have H := Lib.hid hx
          obtain ⟨i0, i1, i2, i3, i4⟩ := row5p (hx.get _ _ _ (.tail _ (.head _)))
          obtain ⟨l0, l1, l2, l3, l4⟩ := row5p (hx.get _ _ _ (.head _))
          clear hx
          go_wp2_with fail
          refine (HP2.out _ H.out.bel).mono ?_
          rintro e w4 ⟨rfl, hb⟩
          have hx := H.out.below hb
          clear H i0 i1 i2 i3 i4 l0 l1 l2 l3 l4 fz j4
          have H := Lib.hid hx
          clear hx hb
          by_cases h1 : E1 = 0
          · have d1 : (E1 != 0) = false := by rw [h1]; rfl
            by_cases h2 : E2 = 0
            · have d2 : (E2 != 0) = false := by rw [h2]; rfl
              have hq1 := HT1.out h1
              have hq2 := HT2.out h2
              rw [hq1] at HG1
              rw [hq2] at HG2
              clear h1 h2 hq1 hq2
              go_wp2_with fail
              refine (HG1.out _).mono ?_
              rintro e w5 ⟨rfl, hb⟩
              have hx := H.out.below hb
              clear H
              have H := Lib.hid hx
              clear hx hb
              go_wp2_with fail
              refine (HG2.out _).mono ?_
              rintro e w6 ⟨rfl, hb⟩
              have hx := H.out.below hb
              clear H
              have H := Lib.hid hx
              clear hx hb
              go_wp2_with fail
              refine (HH.out _ (HN.out _ H.out.bel)).mono ?_
              rintro e w2 ⟨rfl, hb⟩
              have hz := H.out.bel.trans (hb.mono H.out.bel.size)
              go_wp2_with fail
              go_ret
              exact ⟨rfl, hz⟩
            · have d2 : (E2 != 0) = true := by simp [h2]
              clear h1 h2
              go_wp2_with fail
              refine (HH.out _ (HN.out _ H.out.bel)).mono ?_
              rintro e w2 ⟨rfl, hb⟩
              have hz := H.out.bel.trans (hb.mono H.out.bel.size)
              go_wp2_with fail
              go_ret
              exact ⟨rfl, hz⟩
          · have d1 : (E1 != 0) = true := by simp [h1]
            clear h1
            go_wp2_with fail
            refine (HH.out _ (HN.out _ H.out.bel)).mono ?_
            rintro e w2 ⟨rfl, hb⟩
            have hz := H.out.bel.trans (hb.mono H.out.bel.size)
            go_wp2_with fail
            go_ret
            exact ⟨rfl, hz⟩
end Go.Proofs.YtjhghhjnccjhmaaGreatDoor

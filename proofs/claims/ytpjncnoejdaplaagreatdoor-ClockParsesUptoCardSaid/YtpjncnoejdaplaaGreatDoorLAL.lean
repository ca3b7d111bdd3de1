/- Reading a text: what stands for a directive, the program's closures. -/
import Derived.Test.YtpjncnoejdaplaaGreatDoorLAG
import Derived.Test.YtpjncnoejdaplaaGreatDoorLAH
import Derived.Test.YtpjncnoejdaplaaGreatDoorLAJ
import Derived.Test.YtpjncnoejdaplaaGreatDoorLAK
import Derived.Deep.RegionHeld3
namespace Go.Proofs.YtpjncnoejdaplaaGreatDoor
open Go Go.RowKit Go.Shelf

/-- The sentinel's value. -/
def errV (eb : Addr) : Value := .iface 214 (.pointer (some eb))
/-- What a step answers: nothing, and the text is as it says; or the sentinel. -/
def StepPost (rb : Nat) (eb : Addr) (w : World) (o : Option St) (e : Ending) (w' : World) : Prop :=
  (match o with
    | some s => e = .returned .nilIface ∧ RdAt w' rb s
    | none => e = .returned (errV eb) ∧ ∃ s, RdAt w' rb s) ∧ w.grownBy w' (some rb)
/-- A text on its way, in its bounds. -/
structure StB (st : St) : Prop where
  len : st.left.length ≤ 70368744177664
  t1 : 0 ≤ st.turns
  t2 : st.turns ≤ 1000000000000000
/-- The sentinel's variable. -/
def ErrW (w : World) (eb : Addr) : Prop := w.cell? ⟨0, 0, none⟩ = some (errV eb)
theorem cell_lt {w : World} {a : Addr} {v : Value} (h : w.cell? a = some v) : a.block < w.heap.size := by
  rcases Nat.lt_or_ge a.block w.heap.size with h1 | h1
  · exact h1
  · exfalso
    unfold World.cell? at h
    rw [Array.getElem?_eq_none h1] at h
    cases h
theorem cell_grown {w w' : World} {a : Addr} {v : Value} {rb : Nat} (h : w.cell? a = some v) (hne : a.block ≠ rb) (hg : w.grownBy w' (some rb)) : w'.cell? a = some v := by
  rw [World.cell?_of_block (hg.block a.block (cell_lt h) (fun e => hne (Option.some.inj e)))]
  exact h
theorem ErrW.grown {w w' : World} {eb : Addr} {rb : Nat} (h : ErrW w eb) (hr : 6 ≤ rb) (hg : w.grownBy w' (some rb)) : ErrW w' eb := cell_grown h (by show 0 ≠ rb; omega) hg
theorem ErrW.below {w w' : World} {eb : Addr} (h : ErrW w eb) (hb : Below w.heap.size w w') : ErrW w' eb := (hb.cell (cell_lt h)).trans h
theorem StB.left {st : St} (h : StB st) (l : List UInt8) (hl : l.length ≤ st.left.length) : StB (leftS st l) := ⟨Nat.le_trans hl h.len, h.t1, h.t2⟩
theorem dropWhile_le {α : Type} (p : α → Bool) (l : List α) : (l.dropWhile p).length ≤ l.length := (List.dropWhile_sublist p).length_le
theorem fold_bd : ∀ (l : List UInt8) (acc : Int) (k : Nat), (∀ c ∈ l, digitB c = true) → 0 ≤ acc → acc < 10 ^ k → 0 ≤ l.foldl (fun n c => n * 10 + ((c.toNat : Int) - 48)) acc ∧ l.foldl (fun n c => n * 10 + ((c.toNat : Int) - 48)) acc < 10 ^ (k + l.length)
  | [], acc, k, _, h1, h2 => ⟨h1, h2⟩
  | c :: r, acc, k, hd, h1, h2 => by
    obtain ⟨d1, d2⟩ : 48 ≤ c.toNat ∧ c.toNat ≤ 57 := of_decide_eq_true (hd c (by simp))
    have h := fold_bd r (acc * 10 + ((c.toNat : Int) - 48)) (k + 1) (fun x hx => hd x (by simp [hx])) (by omega) (by rw [Int.pow_succ]; omega)
    rw [List.foldl_cons, List.length_cons, show k + (r.length + 1) = k + 1 + r.length from by omega]
    exact h
theorem all_dig (p : UInt8 → Bool) : ∀ (l : List UInt8) (c : UInt8), c ∈ l.takeWhile p → p c = true
  | [], c, h => by simp at h
  | d :: r, c, h => by
    rw [List.takeWhile_cons] at h
    split at h
    · rcases List.mem_cons.1 h with rfl | h
      · assumption
      · exact all_dig p r c h
    · simp at h
theorem take_digK (d : Nat) (l : List UInt8) : l.take (digK d l) = (l.take d).takeWhile digitB := by
  have h := List.takeWhile_prefix (p := digitB) (l := l.take d)
  have h2 : (l.take d).takeWhile digitB <+: l := h.trans (List.take_prefix d l)
  exact (List.prefix_iff_eq_take.1 h2).symm
theorem digN_bd (d : Nat) (hd : d ≤ 12) (l : List UInt8) : 0 ≤ digN d l ∧ digN d l ≤ 1000000000000 := by
  have hk := digK_le d l
  have h := fold_bd (l.take (digK d l)) 0 0 (fun c hc => all_dig digitB _ c (by rw [take_digK] at hc; exact hc)) (by omega) (by simp)
  have hp := pow_le12 (l.take (digK d l)).length (by rw [List.length_take]; omega)
  rw [Nat.zero_add] at h
  unfold digN numOf
  omega
set_option maxRecDepth 100000 in
set_option maxHeartbeats 1000000 in
theorem number_any (d : Nat) (hd : d ≤ 12) (a b : Int) (hab : -1000000 ≤ a ∧ a ≤ 1000000 ∧ -1000000 ≤ b ∧ b ≤ 1000000) (p : Nat) (hp : p < 13) (rb b1 b2 b3 b4 : Nat) (eb : Addr) (st : St) (hst : StB st) (w : World) (hE : ErrW w eb) (hrb : 6 ≤ rb) (h : RdAt w rb st)
    (h1 : w.cell? ⟨b1, 0, none⟩ = some (.int .i64 d)) (h2 : w.cell? ⟨b2, 0, none⟩ = some (.int .i64 a)) (h3 : w.cell? ⟨b3, 0, none⟩ = some (.int .i64 b)) (h4 : w.cell? ⟨b4, 0, none⟩ = some (.int .i64 p)) (n1 : b1 ≠ rb) (n2 : b2 ≠ rb) (n3 : b3 ≠ rb) (n4 : b4 ≠ rb) :
    Calls Tryz.prog 162 #[.pointer (some ⟨rb, 0, none⟩), .pointer (some ⟨b1, 0, none⟩), .pointer (some ⟨b2, 0, none⟩), .pointer (some ⟨b3, 0, none⟩), .pointer (some ⟨b4, 0, none⟩)] w fun e w' => StepPost rb eb w (numberS d a b p st) e w' := by
  have HS := Lib.hid (skip_any 82 blankB blank_any (enters_of Tryz.func82 (by kernel_rfl) rfl) rb st hst.len w h)
  have HST := Lib.hid (hst.left (st.left.dropWhile blankB) (dropWhile_le _ _))
  obtain ⟨s, hs⟩ : ∃ s, skipS blankB st = s := ⟨_, rfl⟩
  have HSE : Hid (leftS st (st.left.dropWhile blankB) = s) := Lib.hid hs
  have HNum : Hid (numberS d a b p st = if digK d s.left = 0 ∨ digN d s.left < a ∨ b < digN d s.left then none else some (tellS (leftS s (s.left.drop (digK d s.left))) p (digN d s.left))) := Lib.hid (by unfold numberS; rw [hs])
  rw [hs] at HS
  rw [HSE.out] at HST
  have hbd := digN_bd d hd s.left
  have hkl := (digK_le d s.left).1
  obtain ⟨k, hk⟩ : ∃ k, digK d s.left = k := ⟨_, rfl⟩
  obtain ⟨v, hv⟩ : ∃ v, digN d s.left = v := ⟨_, rfl⟩
  rw [hk, hv] at HNum
  rw [hv] at hbd
  rw [hk] at hkl
  obtain ⟨v1, v2⟩ := hbd
  obtain ⟨a1, a2, a3, a4⟩ := hab
  have HKV : Hid (digK d s.left = k ∧ digN d s.left = v) := Lib.hid ⟨hk, hv⟩
  have hkb : (k : Int) ≤ 70368744177664 := by have := HST.out.len; omega
  have H1 := Lib.hid h1
  have H2 := Lib.hid h2
  have H3 := Lib.hid h3
  have H4 := Lib.hid h4
  have HE := Lib.hid hE
  clear hs hk hv h h1 h2 h3 h4 hE hst hkl
  go_enter Tryz.func162, Tryz.ntmps162
  go_wp2_with fail
  refine HS.out.mono ?_
  rintro e w1 ⟨rfl, hr, hg⟩
  have R1 := Lib.hid hr
  have G1 := Lib.hid hg
  have d1 := cell_grown H1.out n1 hg
  clear hr hg
  go_wp2_with fail
  refine (digits_any d hd rb s HST.out.len _ R1.out).mono ?_
  rw [HKV.out.1, HKV.out.2]
  rintro e w2 ⟨rfl, hr, hg⟩
  have R2 := Lib.hid hr
  have G2 := Lib.hid (Lib.grownBy_trans G1.out hg)
  clear hr hg d1
  have d2 := cell_grown H2.out n2 G2.out
  have d3 := cell_grown H3.out n3 G2.out
  have d4 := cell_grown H4.out n4 G2.out
  have d5 := HE.out.grown hrb G2.out
  unfold ErrW errV at d5
  by_cases hk0 : k = 0
  · have hkt : ((k : Int) == 0) = true := by rw [hk0]; rfl
    have HK0 := Lib.hid hk0
    clear hk0
    go_wp2_with fail
    go_ret
    rw [HNum.out, if_pos (.inl HK0.out)]
    exact ⟨⟨rfl, _, R2.out⟩, G2.out⟩
  · have hkf : ((k : Int) == 0) = false := by rw [beq_eq_false_iff_ne]; omega
    by_cases hva : v < a
    · go_wp2_with fail
      go_ret
      rw [HNum.out, if_pos (.inr (.inl hva))]
      exact ⟨⟨rfl, _, R2.out⟩, G2.out⟩
    · have hvf : decide (v < a) = false := decide_eq_false hva
      by_cases hvb : b < v
      · go_wp2_with fail
        go_ret
        rw [HNum.out, if_pos (.inr (.inr hvb))]
        exact ⟨⟨rfl, _, R2.out⟩, G2.out⟩
      · have hvg : decide (b < v) = false := decide_eq_false hvb
        have HN : Hid (numberS d a b p st = some (tellS (leftS s (s.left.drop k)) p v)) := Lib.hid (by rw [HNum.out, if_neg (fun h => h.elim hk0 (fun h => h.elim hva hvb))])
        clear hva hvb
        go_wp2_with fail
        refine (tell_any p hp v rb (leftS s (s.left.drop k)) HST.out.t1 HST.out.t2 _ R2.out).mono ?_
        rintro e w3 ⟨rfl, hr, hg⟩
        have R3 := Lib.hid hr
        have G3 := Lib.hid (Lib.grownBy_trans G2.out hg)
        clear hr hg
        go_wp2_with fail
        go_ret
        rw [HN.out]
        exact ⟨⟨rfl, R3.out⟩, G3.out⟩
set_option maxRecDepth 100000 in
theorem many_any (k : Nat) (q : UInt8 → Bool) (hq : ∀ (c : UInt8) (w : World), Calls Tryz.prog k #[.int .u8 c.toNat] w fun e w' => e = .returned (.bool (q c)) ∧ w = w') (hen : ∀ args w, (callFunc k args).run Tryz.prog w = .ok (.enter k args) w) (rb b1 : Nat) (eb : Addr) (st : St) (hst : StB st) (w : World) (h : RdAt w rb st)
    (h1 : w.cell? ⟨b1, 0, none⟩ = some (.func (.func k) #[] #[])) :
    Calls Tryz.prog 166 #[.pointer (some ⟨rb, 0, none⟩), .pointer (some ⟨b1, 0, none⟩)] w fun e w' => StepPost rb eb w (some (skipS q st)) e w' := by
  have HS := Lib.hid (skip_any k q hq hen rb st hst.len w h)
  clear h hst hq
  go_enter Tryz.func166, Tryz.ntmps166
  go_wp2_with fail
  refine HS.out.mono ?_
  rintro e w1 ⟨rfl, hr, hg⟩
  have R1 := Lib.hid hr
  have G1 := Lib.hid hg
  clear hr hg
  go_wp2_with fail
  go_ret
  exact ⟨⟨rfl, R1.out⟩, G1.out⟩
set_option maxRecDepth 100000 in
theorem percent_any (rb : Nat) (eb : Addr) (st : St) (w : World) (hE : ErrW w eb) (hrb : 6 ≤ rb) (h : RdAt w rb st) :
    Calls Tryz.prog 138 #[.pointer (some ⟨rb, 0, none⟩)] w fun e w' => StepPost rb eb w (cutS [37] st) e w' := by
  have HC := Lib.hid (cut_any ⟨#[37]⟩ rb st w h)
  have HE := Lib.hid hE
  obtain ⟨o, ho⟩ : ∃ o, cutS [37] st = o := ⟨_, rfl⟩
  rw [show (⟨#[37]⟩ : ByteArray).data.toList = [37] from rfl, ho] at HC
  rw [ho]
  clear h hE ho
  cases o with
  | none =>
    go_enter Tryz.func138, Tryz.ntmps138
    go_wp2_with fail
    refine HC.out.mono ?_
    rintro e w1 ⟨rfl, hr, hg⟩
    have R1 := Lib.hid hr
    have G1 := Lib.hid hg
    have d5 := HE.out.grown hrb hg
    unfold ErrW errV at d5
    clear hr hg
    go_wp2_with fail
    go_ret
    exact ⟨⟨rfl, _, R1.out⟩, G1.out⟩
  | some s =>
    go_enter Tryz.func138, Tryz.ntmps138
    go_wp2_with fail
    refine HC.out.mono ?_
    rintro e w1 ⟨rfl, hr, hg⟩
    have R1 := Lib.hid hr
    have G1 := Lib.hid hg
    clear hr hg
    go_wp2_with fail
    go_ret
    exact ⟨⟨rfl, R1.out⟩, G1.out⟩
end Go.Proofs.YtpjncnoejdaplaaGreatDoor
namespace Go.Proofs.YtpjncnoejdaplaaGreatDoor
open Go Go.RowKit Go.Shelf

theorem cutS_some {p : List UInt8} {st s : St} (h : cutS p st = some s) : s = leftS st (st.left.drop p.length) := by
  unfold cutS at h
  split at h
  · exact (Option.some.inj h).symm
  · cases h
theorem cutS_stB {p : List UInt8} {st : St} (h : StB st) : StB ((cutS p st).getD st) := by
  cases e : cutS p st with
  | none => exact h
  | some s =>
    rw [show (some s).getD st = s from rfl, cutS_some e]
    exact h.left _ (by rw [List.length_drop]; omega)
theorem stB_drop {st : St} (h : StB st) (n : Nat) : StB (leftS st (st.left.drop n)) := h.left _ (by rw [List.length_drop]; omega)
theorem stB_skip {st : St} (p : UInt8 → Bool) (h : StB st) : StB (skipS p st) := h.left _ (dropWhile_le _ _)
set_option maxRecDepth 100000 in
set_option maxHeartbeats 2000000 in
theorem zone_any (rb : Nat) (eb : Addr) (st : St) (hst : StB st) (w : World) (hE : ErrW w eb) (hrb : 6 ≤ rb) (h : RdAt w rb st) :
    Calls Tryz.prog 140 #[.pointer (some ⟨rb, 0, none⟩)] w fun e w' => StepPost rb eb w (zoneS st) e w' := by
  have HS := Lib.hid (skip_any 82 blankB blank_any (enters_of Tryz.func82 (by kernel_rfl) rfl) rb st hst.len w h)
  have HST := Lib.hid (stB_skip blankB hst)
  have HE := Lib.hid hE
  have HZ : Hid (zoneS st = zoneS st) := Lib.hid rfl
  unfold zoneS at HZ
  obtain ⟨s, hs⟩ : ∃ s, skipS blankB st = s := ⟨_, rfl⟩
  rw [hs] at HS HST
  have HSE := Lib.hid hs
  clear hs h hst hE HZ
  cases h1 : cutS [90] s with
  | some s1 =>
    have HR : Hid (zoneS st = some s1) := Lib.hid (by unfold zoneS; rw [HSE.out]; simp only [h1])
    have H1 := Lib.hid h1
    clear h1
    go_enter Tryz.func140, Tryz.ntmps140
    go_wp2_with fail
    refine HS.out.mono ?_
    rintro e w1 ⟨rfl, hr, hg⟩
    have R1 := Lib.hid hr
    have G1 := Lib.hid hg
    clear hr hg
    go_wp2_with fail
    refine (cut_any ⟨#[90]⟩ rb s _ R1.out).mono ?_
    rw [show (⟨#[90]⟩ : ByteArray).data.toList = [90] from rfl, H1.out]
    rintro e w2 ⟨rfl, hr, hg⟩
    have R2 := Lib.hid hr
    have G2 := Lib.hid (Lib.grownBy_trans G1.out hg)
    clear hr hg
    go_wp2_with fail
    go_ret
    rw [HR.out]
    exact ⟨⟨rfl, R2.out⟩, G2.out⟩
  | none =>
    have H1 := Lib.hid h1
    cases h2 : signS s with
    | none =>
      have HR : Hid (zoneS st = none) := Lib.hid (by unfold zoneS; rw [HSE.out]; simp only [h1, h2])
      have H2 : Hid (cutS [43] s = none ∧ cutS [45] s = none) := Lib.hid (by
        have h3 := h2
        unfold signS at h3
        cases e : cutS [43] s with
        | none => rw [e] at h3; exact ⟨rfl, h3⟩
        | some x => rw [e] at h3; cases h3)
      clear h1 h2
      go_enter Tryz.func140, Tryz.ntmps140
      go_wp2_with fail
      refine HS.out.mono ?_
      rintro e w1 ⟨rfl, hr, hg⟩
      have R1 := Lib.hid hr
      have G1 := Lib.hid hg
      clear hr hg
      go_wp2_with fail
      refine (cut_any ⟨#[90]⟩ rb s _ R1.out).mono ?_
      rw [show (⟨#[90]⟩ : ByteArray).data.toList = [90] from rfl, H1.out]
      rintro e w2 ⟨rfl, hr, hg⟩
      have R2 := Lib.hid (show RdAt w2 rb s from hr)
      have G2 := Lib.hid (Lib.grownBy_trans G1.out hg)
      clear hr hg
      go_wp2_with fail
      refine (cut_any ⟨#[43]⟩ rb s _ R2.out).mono ?_
      rw [show (⟨#[43]⟩ : ByteArray).data.toList = [43] from rfl, H2.out.1]
      rintro e w3 ⟨rfl, hr, hg⟩
      have R3 := Lib.hid (show RdAt w3 rb s from hr)
      have G3 := Lib.hid (Lib.grownBy_trans G2.out hg)
      clear hr hg
      go_wp2_with fail
      refine (cut_any ⟨#[45]⟩ rb s _ R3.out).mono ?_
      rw [show (⟨#[45]⟩ : ByteArray).data.toList = [45] from rfl, H2.out.2]
      rintro e w4 ⟨rfl, hr, hg⟩
      have R4 := Lib.hid (show RdAt w4 rb s from hr)
      have G4 := Lib.hid (Lib.grownBy_trans G3.out hg)
      clear hr hg
      have d5 := HE.out.grown hrb G4.out
      unfold ErrW errV at d5
      go_wp2_with fail
      go_ret
      rw [HR.out]
      exact ⟨⟨rfl, _, R4.out⟩, G4.out⟩
    | some t =>
      have HT : Hid (StB t) := Lib.hid (by
        have h3 := h2
        unfold signS at h3
        cases e : cutS [43] s with
        | none =>
          rw [e] at h3
          rw [cutS_some h3]
          exact stB_drop HST.out _
        | some x =>
          rw [e] at h3
          obtain rfl := Option.some.inj h3
          rw [cutS_some e]
          exact stB_drop HST.out _)
      have H2 : Hid (cutS [43] s = some t ∨ (cutS [43] s = none ∧ cutS [45] s = some t)) := Lib.hid (by
        have h3 := h2
        unfold signS at h3
        cases e : cutS [43] s with
        | none => rw [e] at h3; exact .inr ⟨rfl, h3⟩
        | some x => rw [e] at h3; obtain rfl := Option.some.inj h3; exact .inl rfl)
      obtain ⟨k1, hk1⟩ : ∃ k1, digK 2 t.left = k1 := ⟨_, rfl⟩
      obtain ⟨t1, ht1⟩ : ∃ t1, leftS t (t.left.drop k1) = t1 := ⟨_, rfl⟩
      have HT1 : Hid (StB t1) := Lib.hid (by rw [← ht1]; exact stB_drop HT.out _)
      obtain ⟨t2, ht2⟩ : ∃ t2, (cutS [58] t1).getD t1 = t2 := ⟨_, rfl⟩
      have HT2 : Hid (StB t2) := Lib.hid (by rw [← ht2]; exact cutS_stB HT1.out)
      obtain ⟨k2, hk2⟩ : ∃ k2, digK 2 t2.left = k2 := ⟨_, rfl⟩
      have HR : Hid (zoneS st = if k1 ≠ 2 ∨ k2 ≠ 2 then none else some (leftS t2 (t2.left.drop k2))) := Lib.hid (by
        unfold zoneS
        rw [HSE.out]
        simp only [h1, h2, hk1, ht1, ht2, hk2])
      have hb1 := (digK_le 2 t.left).2
      have hb2 := (digK_le 2 t2.left).2
      rw [hk1] at hb1
      rw [hk2] at hb2
      have K1 := Lib.hid hk1
      have K2 := Lib.hid hk2
      have T1 := Lib.hid ht1
      have T2 := Lib.hid ht2
      clear h1 h2 hk1 hk2 ht1 ht2
      rcases H2.out with hp | ⟨hp, hm⟩
      · have HP := Lib.hid hp
        clear hp
        go_enter Tryz.func140, Tryz.ntmps140
        go_wp2_with fail
        refine HS.out.mono ?_
        rintro e w1 ⟨rfl, hr, hg⟩
        have R1 := Lib.hid hr
        have G1 := Lib.hid hg
        clear hr hg
        go_wp2_with fail
        refine (cut_any ⟨#[90]⟩ rb s _ R1.out).mono ?_
        rw [show (⟨#[90]⟩ : ByteArray).data.toList = [90] from rfl, H1.out]
        rintro e w2 ⟨rfl, hr, hg⟩
        have R2 := Lib.hid (show RdAt w2 rb s from hr)
        have G2 := Lib.hid (Lib.grownBy_trans G1.out hg)
        clear hr hg
        go_wp2_with fail
        refine (cut_any ⟨#[43]⟩ rb s _ R2.out).mono ?_
        rw [show (⟨#[43]⟩ : ByteArray).data.toList = [43] from rfl, HP.out]
        rintro e w3 ⟨rfl, hr, hg⟩
        have R3 := Lib.hid (show RdAt w3 rb t from hr)
        have G3 := Lib.hid (Lib.grownBy_trans G2.out hg)
        clear hr hg
        go_wp2_with fail
        refine (digits_any 2 (by omega) rb t HT.out.len _ R3.out).mono ?_
        rw [K1.out, T1.out]
        rintro e w4 ⟨rfl, hr, hg⟩
        have R4 := Lib.hid hr
        have G4 := Lib.hid (Lib.grownBy_trans G3.out hg)
        clear hr hg
        go_wp2_with fail
        refine (cut_any ⟨#[58]⟩ rb t1 _ R4.out).mono ?_
        rw [show (⟨#[58]⟩ : ByteArray).data.toList = [58] from rfl, T2.out]
        rintro e w5 ⟨rfl, hr, hg⟩
        have R5 := Lib.hid hr
        have G5 := Lib.hid (Lib.grownBy_trans G4.out hg)
        clear hr hg
        go_wp2_with fail
        refine (digits_any 2 (by omega) rb t2 HT2.out.len _ R5.out).mono ?_
        rw [K2.out]
        rintro e w6 ⟨rfl, hr, hg⟩
        have R6 := Lib.hid hr
        have G6 := Lib.hid (Lib.grownBy_trans G5.out hg)
        clear hr hg
        have d5 := HE.out.grown hrb G6.out
        unfold ErrW errV at d5
        by_cases q1 : k1 = 2
        · have q3 : ((k1 : Int) != 2) = false := by rw [q1]; rfl
          by_cases q2 : k2 = 2
          · have q4 : ((k2 : Int) != 2) = false := by rw [q2]; rfl
            have HF : Hid (zoneS st = some (leftS t2 (t2.left.drop k2))) := Lib.hid (by rw [HR.out, if_neg (fun h => h.elim (fun h => h q1) (fun h => h q2))])
            clear q1 q2
            go_wp2_with fail
            go_ret
            rw [HF.out]
            exact ⟨⟨rfl, R6.out⟩, G6.out⟩
          · have q4 : ((k2 : Int) != 2) = true := by rw [bne_iff_ne]; omega
            have HF : Hid (zoneS st = none) := Lib.hid (by rw [HR.out, if_pos (.inr q2)])
            clear q1 q2
            go_wp2_with fail
            go_ret
            rw [HF.out]
            exact ⟨⟨rfl, _, R6.out⟩, G6.out⟩
        · have q3 : ((k1 : Int) != 2) = true := by rw [bne_iff_ne]; omega
          have HF : Hid (zoneS st = none) := Lib.hid (by rw [HR.out, if_pos (.inl q1)])
          clear q1
          go_wp2_with fail
          go_ret
          rw [HF.out]
          exact ⟨⟨rfl, _, R6.out⟩, G6.out⟩
      · have HP := Lib.hid hp
        have HM := Lib.hid hm
        clear hp hm
        go_enter Tryz.func140, Tryz.ntmps140
        go_wp2_with fail
        refine HS.out.mono ?_
        rintro e w1 ⟨rfl, hr, hg⟩
        have R1 := Lib.hid hr
        have G1 := Lib.hid hg
        clear hr hg
        go_wp2_with fail
        refine (cut_any ⟨#[90]⟩ rb s _ R1.out).mono ?_
        rw [show (⟨#[90]⟩ : ByteArray).data.toList = [90] from rfl, H1.out]
        rintro e w2 ⟨rfl, hr, hg⟩
        have R2 := Lib.hid (show RdAt w2 rb s from hr)
        have G2 := Lib.hid (Lib.grownBy_trans G1.out hg)
        clear hr hg
        go_wp2_with fail
        refine (cut_any ⟨#[43]⟩ rb s _ R2.out).mono ?_
        rw [show (⟨#[43]⟩ : ByteArray).data.toList = [43] from rfl, HP.out]
        rintro e w0 ⟨rfl, hr, hg⟩
        have R0 := Lib.hid (show RdAt w0 rb s from hr)
        have G0 := Lib.hid (Lib.grownBy_trans G2.out hg)
        clear hr hg
        go_wp2_with fail
        refine (cut_any ⟨#[45]⟩ rb s _ R0.out).mono ?_
        rw [show (⟨#[45]⟩ : ByteArray).data.toList = [45] from rfl, HM.out]
        rintro e w3 ⟨rfl, hr, hg⟩
        have R3 := Lib.hid (show RdAt w3 rb t from hr)
        have G3 := Lib.hid (Lib.grownBy_trans G0.out hg)
        clear hr hg
        go_wp2_with fail
        refine (digits_any 2 (by omega) rb t HT.out.len _ R3.out).mono ?_
        rw [K1.out, T1.out]
        rintro e w4 ⟨rfl, hr, hg⟩
        have R4 := Lib.hid hr
        have G4 := Lib.hid (Lib.grownBy_trans G3.out hg)
        clear hr hg
        go_wp2_with fail
        refine (cut_any ⟨#[58]⟩ rb t1 _ R4.out).mono ?_
        rw [show (⟨#[58]⟩ : ByteArray).data.toList = [58] from rfl, T2.out]
        rintro e w5 ⟨rfl, hr, hg⟩
        have R5 := Lib.hid hr
        have G5 := Lib.hid (Lib.grownBy_trans G4.out hg)
        clear hr hg
        go_wp2_with fail
        refine (digits_any 2 (by omega) rb t2 HT2.out.len _ R5.out).mono ?_
        rw [K2.out]
        rintro e w6 ⟨rfl, hr, hg⟩
        have R6 := Lib.hid hr
        have G6 := Lib.hid (Lib.grownBy_trans G5.out hg)
        clear hr hg
        have d5 := HE.out.grown hrb G6.out
        unfold ErrW errV at d5
        by_cases q1 : k1 = 2
        · have q3 : ((k1 : Int) != 2) = false := by rw [q1]; rfl
          by_cases q2 : k2 = 2
          · have q4 : ((k2 : Int) != 2) = false := by rw [q2]; rfl
            have HF : Hid (zoneS st = some (leftS t2 (t2.left.drop k2))) := Lib.hid (by rw [HR.out, if_neg (fun h => h.elim (fun h => h q1) (fun h => h q2))])
            clear q1 q2
            go_wp2_with fail
            go_ret
            rw [HF.out]
            exact ⟨⟨rfl, R6.out⟩, G6.out⟩
          · have q4 : ((k2 : Int) != 2) = true := by rw [bne_iff_ne]; omega
            have HF : Hid (zoneS st = none) := Lib.hid (by rw [HR.out, if_pos (.inr q2)])
            clear q1 q2
            go_wp2_with fail
            go_ret
            rw [HF.out]
            exact ⟨⟨rfl, _, R6.out⟩, G6.out⟩
        · have q3 : ((k1 : Int) != 2) = true := by rw [bne_iff_ne]; omega
          have HF : Hid (zoneS st = none) := Lib.hid (by rw [HR.out, if_pos (.inl q1)])
          clear q1
          go_wp2_with fail
          go_ret
          rw [HF.out]
          exact ⟨⟨rfl, _, R6.out⟩, G6.out⟩
end Go.Proofs.YtpjncnoejdaplaaGreatDoor
namespace Go.Proofs.YtpjncnoejdaplaaGreatDoor
open Go Go.RowKit Go.Shelf

theorem _root_.Go.World.grownBy.andBelow' {a w w' : World} {r : Option Nat} (h : a.grownBy w r) (hb : Below w.heap.size w w') : a.grownBy w' r := Lib.grownBy_below h hb
/-- What Split answers of a whole number of seconds. -/
theorem Split_known (a : Int) (h1 : -1000000000000 ≤ a) (h2 : a ≤ 1000000000000) : ∃ (y m d h i : Int) (s : Nat) (wd yd : Int), ∀ w, Calls Tryz.prog 15 #[.float .f64 (fI a)] w fun e w' => e = .returned (.tuple #[.agg (timeV y m d h i s wd yd), .int .i64 (if knownS a then 0 else 110)]) ∧ Below w.heap.size w w' := by
  have hz := (fI_is a (by omega) (by omega)).1
  have hf := flI_fI a (by omega) (by omega)
  by_cases hk : knownS a
  · obtain ⟨k1, k2⟩ := hk
    obtain ⟨y, m, d, hD, hN⟩ := num_ex (a / 86400) k1 k2
    have e := fun w => Split_of (fI a) hz y m d (a % 86400) hD (by rw [hf]; exact hN.symm) (by rw [hf]) w
    rw [if_pos ⟨k1, k2⟩]
    exact ⟨_, _, _, _, _, _, _, _, e⟩
  · have e := fun w => Split_out _ hz (by rw [hf]; omega) (by rw [hf]; omega) (by rw [hf]; unfold knownS at hk; omega) w
    rw [if_neg hk]
    exact ⟨_, _, _, _, _, _, _, _, e⟩
set_option maxRecDepth 100000 in
set_option maxHeartbeats 2000000 in
theorem seconds_any (rb : Nat) (eb : Addr) (st : St) (hst : StB st) (w : World) (hE : ErrW w eb) (hrb : 6 ≤ rb) (h : RdAt w rb st) :
    Calls Tryz.prog 136 #[.pointer (some ⟨rb, 0, none⟩)] w fun e w' => StepPost rb eb w (secondsS st) e w' := by
  have hsf := run_store_float Tryz.prog
  have HC := Lib.hid (cut_any ⟨#[45]⟩ rb st w h)
  have HE := Lib.hid hE
  have HQ := Lib.hid (cutS_left [45] st).2
  rw [show (⟨#[45]⟩ : ByteArray).data.toList = [45] from rfl, HQ.out] at HC
  obtain ⟨s, hs⟩ : ∃ s, (cutS [45] st).getD st = s := ⟨_, rfl⟩
  have HT : Hid (StB s) := Lib.hid (by rw [← hs]; exact cutS_stB hst)
  rw [hs] at HC
  obtain ⟨k, hk⟩ : ∃ k, digK 12 s.left = k := ⟨_, rfl⟩
  obtain ⟨v, hv⟩ : ∃ v, digN 12 s.left = v := ⟨_, rfl⟩
  have hbd := digN_bd 12 (by omega) s.left
  have hkl := (digK_le 12 s.left).2
  rw [hv] at hbd
  rw [hk] at hkl
  obtain ⟨v1, v2⟩ := hbd
  obtain ⟨neg, hneg⟩ : ∃ neg, Lib.hasPrefix st.left [45] = neg := ⟨_, rfl⟩
  rw [hneg] at HC
  have HR : Hid (secondsS st = if k = 0 ∨ ¬ knownS ((if neg = true then -1 else 1) * v) then none else some (tellS (leftS s (s.left.drop k)) 12 ((if neg = true then -1 else 1) * v))) := Lib.hid (by
    unfold secondsS
    simp only [hneg, hs, hk, hv])
  have HKV : Hid (digK 12 s.left = k ∧ digN 12 s.left = v) := Lib.hid ⟨hk, hv⟩
  clear hs hk hv hneg h hE hst
  have hci := conv_int
  obtain ⟨a, ha⟩ : ∃ a, (if neg = true then (-1 : Int) else 1) * v = a := ⟨_, rfl⟩
  rw [ha] at HR
  have hab : -1000000000000 ≤ a ∧ a ≤ 1000000000000 := by
    rw [← ha]
    split <;> omega
  obtain ⟨y, m, d, hh, i, ss, wd, yd, hSp⟩ := Split_known a hab.1 hab.2
  obtain ⟨c, hc⟩ : ∃ c : Int, (if knownS a then 0 else 110) = c := ⟨_, rfl⟩
  rw [hc] at hSp
  have HSp := Lib.hid hSp
  have HCd := Lib.hid hc
  have hav : (neg = false ∧ v = a) ∨ (neg = true ∧ -v = a) := by
    cases neg
    · left; exact ⟨rfl, by rw [← ha]; simp⟩
    · right; exact ⟨rfl, by rw [← ha]; simp⟩
  obtain ⟨a1, a2⟩ := hab
  clear ha hSp hc
  unfold timeV at HSp
  rcases hav with ⟨rfl, hva⟩ | ⟨rfl, hva⟩
  all_goals
    have HVA := Lib.hid hva
    clear hva
    go_enter Tryz.func136, Tryz.ntmps136
    go_wp2_with fail
    refine HC.out.mono ?_
    rintro e w1 ⟨rfl, hr, hg⟩
    have R1 := Lib.hid hr
    have G1 := Lib.hid hg
    clear hr hg
    go_wp2_with fail
    refine (digits_any 12 (by omega) rb s HT.out.len _ R1.out).mono ?_
    rw [HKV.out.1, HKV.out.2]
    rintro e w2 ⟨rfl, hr, hg⟩
    have R2 := Lib.hid hr
    have G2 := Lib.hid (Lib.grownBy_trans G1.out hg)
    clear hr hg
    go_wp2_with fail
    rw [HVA.out]
    refine (HSp.out _).mono ?_
    rintro e w3 ⟨rfl, hb⟩
    have R3 := Lib.hid (R2.out.below hb)
    have G3 := Lib.hid (G2.out.andBelow' hb)
    have d5 := fun o => ((HE.out.grown hrb G3.out).below ((Below.refl w3.heap.size w3).alloc (Nat.le_refl _) o))
    unfold ErrW errV at d5
    clear hb
    by_cases hk0 : k = 0
    · have hkt : ((k : Int) == 0) = true := by rw [hk0]; rfl
      have HF : Hid (secondsS st = none) := Lib.hid (by rw [HR.out, if_pos (.inl hk0)])
      clear hk0
      go_wp2_with fail
      go_ret
      rw [HF.out]
      exact ⟨⟨rfl, _, R3.out.below ((Below.refl _ _).alloc (Nat.le_refl _) _)⟩, G3.out.andBelow' ((Below.refl _ _).alloc (Nat.le_refl _) _)⟩
    · have hkf : ((k : Int) == 0) = false := by rw [beq_eq_false_iff_ne]; omega
      by_cases hkn : knownS a
      · have hcd : (c != 0) = false := by rw [← HCd.out, if_pos hkn]; rfl
        have HF : Hid (secondsS st = some (tellS (leftS s (s.left.drop k)) 12 a)) := Lib.hid (by rw [HR.out, if_neg (fun h => h.elim hk0 (fun h => h hkn))])
        clear hk0 hkn
        go_wp2_with fail
        try rw [HVA.out]
        refine (tell_any 12 (by omega) a rb (leftS s (s.left.drop k)) HT.out.t1 HT.out.t2 _ (R3.out.below ((Below.refl _ _).alloc (Nat.le_refl _) _))).mono ?_
        rintro e w4 ⟨rfl, hr, hg⟩
        have R4 := Lib.hid hr
        have G4 := Lib.hid (Lib.grownBy_trans (G3.out.andBelow' ((Below.refl _ _).alloc (Nat.le_refl _) _)) hg)
        clear hr hg
        go_wp2_with fail
        go_ret
        rw [HF.out]
        exact ⟨⟨rfl, R4.out⟩, G4.out⟩
      · have hcd : (c != 0) = true := by rw [← HCd.out, if_neg hkn]; rfl
        have HF : Hid (secondsS st = none) := Lib.hid (by rw [HR.out, if_pos (.inr hkn)])
        clear hk0 hkn
        go_wp2_with fail
        go_ret
        rw [HF.out]
        exact ⟨⟨rfl, _, R3.out.below ((Below.refl _ _).alloc (Nat.le_refl _) _)⟩, G3.out.andBelow' ((Below.refl _ _).alloc (Nat.le_refl _) _)⟩
/-- Names, in a row of their own that a box leads to. -/
def NamesR (w : World) (rb b1 : Nat) (l : List ByteArray) : Prop := ∃ g, b1 ≠ rb ∧ g ≠ rb ∧ w.heap[b1]? = some (.cells #[.slice (some ⟨g, 0, none⟩) l.length l.length] 41 (0, 0)) ∧ w.heap[g]? = some (.cells (l.map Value.string).toArray 9 (0, 0))
theorem nameS_succ (names : List ByteArray) (letters p : Nat) (st : St) (k i : Nat) (h : i + (k + 1) = names.length) : nameS names letters p st (k + 1) = match cutName (names.getD i ⟨#[]⟩).data.toList st with
    | some s => some (tellS s p (i + 1))
    | none => match cutName ((names.getD i ⟨#[]⟩).data.toList.take letters) st with
      | some s => some (tellS s p (i + 1))
      | none => nameS names letters p st k := by
  have e : names.length - (k + 1) = i := by omega
  conv => lhs; unfold nameS
  simp only [e]
  cases cutName (names.getD i ⟨#[]⟩).data.toList st with
  | some s => rfl
  | none =>
    cases cutName ((names.getD i ⟨#[]⟩).data.toList.take letters) st with
    | some s => rfl
    | none => rfl
theorem ext_take (s : ByteArray) (n : Nat) : s.extract 0 n = ⟨(s.data.toList.take n).toArray⟩ := by
  apply ByteArray.ext
  apply Array.ext'
  simp
theorem cutName_stB {nm : List UInt8} {st s : St} (h : StB st) (e : cutName nm st = some s) : StB s := by
  unfold cutName at e
  split at e
  · obtain rfl := Option.some.inj e
    exact stB_drop h _
  · cases e
set_option maxRecDepth 100000 in
set_option maxHeartbeats 4000000 in
theorem name_any (names : List ByteArray) (letters p : Nat) (hl1 : names.length ≤ 100) (hsz : ∀ s ∈ names, letters ≤ s.size ∧ s.size ≤ 1000) (hp : p < 13) (rb b1 b2 b3 : Nat) (eb : Addr) (st : St) (hst : StB st) (w : World) (hE : ErrW w eb) (hrb : 6 ≤ rb) (h : RdAt w rb st)
    (h1 : NamesR w rb b1 names) (h2 : w.cell? ⟨b2, 0, none⟩ = some (.int .i64 letters)) (h3 : w.cell? ⟨b3, 0, none⟩ = some (.int .i64 p)) (n2 : b2 ≠ rb) (n3 : b3 ≠ rb) :
    Calls Tryz.prog 184 #[.pointer (some ⟨rb, 0, none⟩), .pointer (some ⟨b1, 0, none⟩), .pointer (some ⟨b2, 0, none⟩), .pointer (some ⟨b3, 0, none⟩)] w fun e w' => StepPost rb eb w (nameS names letters p st names.length) e w' := by
  obtain ⟨g, nb, ng, hb1, hg1⟩ := h1
  have hc1 : w.cell? ⟨b1, 0, none⟩ = some (.slice (some ⟨g, 0, none⟩) names.length names.length) := by simp [World.cell?, hb1]
  have HGr := Lib.hid hg1
  have HE := Lib.hid hE
  have H2 := Lib.hid h2
  have H3 := Lib.hid h3
  have HST := Lib.hid hst
  have HSZ := Lib.hid hsz
  have HR0 := Lib.hid h
  have hm : Hid (100 ≤ maxLen) := Lib.hid (by unfold maxLen; omega)
  clear hb1 hg1 h h2 h3 hE hst hsz
  go_enter Tryz.func184, Tryz.ntmps184
  go_wp2_with fail
  go_loopw [10] (fun i wr => ∃ j : Nat, j ≤ names.length ∧ i = .int .i64 j ∧ Hid (nameS names letters p st names.length = nameS names letters p st (names.length - j)) ∧ Hid (RdAt wr rb st) ∧ Hid (w.grownBy wr (some rb))) (fun i _ => names.length - (intOf i).toNat)
  case atStart => exact ⟨0, by omega, rfl, Lib.hid rfl, HR0, Lib.hid (World.grownBy.refl _ _)⟩
  case round =>
    obtain ⟨j, hj, rfl, HN, HR, HG⟩ := hrel
    by_cases hlt : j < names.length
    · obtain ⟨nm, hnm⟩ : ∃ nm, names.getD j ⟨#[]⟩ = nm := ⟨_, rfl⟩
      have hmem : nm ∈ names := by
        rw [← hnm, List.getD_eq_getElem?_getD, List.getElem?_eq_getElem hlt]
        exact List.getElem_mem hlt
      obtain ⟨z1, z2⟩ := HSZ.out nm hmem
      have hc4 : wr.cell? ⟨g, j, none⟩ = some (.string nm) := by
        have e : w.cell? ⟨g, j, none⟩ = some (.string nm) := by
          rw [← hnm]
          simp [World.cell?, HGr.out, hlt]
        exact cell_grown e ng HG.out
      have HS := Lib.hid (nameS_succ names letters p st (names.length - (j + 1)) j (by omega))
      rw [show names.length - (j + 1) + 1 = names.length - j from by omega, hnm] at HS
      clear hnm hmem hc1
      cases e1 : cutName nm.data.toList st with
      | some s =>
        have E1 := Lib.hid e1
        have HF : Hid (nameS names letters p st names.length = some (tellS s p (j + 1))) := Lib.hid (by rw [HN.out, HS.out, e1])
        clear e1
        go_wp2_with fail
        refine (cutName_any nm z2 rb st HST.out.len _ HR.out).mono ?_
        rw [E1.out]
        rintro e w2 ⟨rfl, hr, hg⟩
        have R2 := Lib.hid (show RdAt w2 rb s from hr)
        have G2 := Lib.hid (Lib.grownBy_trans HG.out hg)
        clear hr hg
        have d3 := cell_grown H3.out n3 G2.out
        have HT := Lib.hid (cutName_stB HST.out E1.out)
        go_wp2_with fail
        refine (tell_any p hp _ rb s HT.out.t1 HT.out.t2 _ R2.out).mono ?_
        rintro e w3 ⟨rfl, hr, hg⟩
        have R3 := Lib.hid hr
        have G3 := Lib.hid (Lib.grownBy_trans G2.out hg)
        clear hr hg
        go_wp2_with fail
        go_ret
        rw [HF.out]
        exact ⟨⟨rfl, R3.out⟩, G3.out⟩
      | none =>
        have E1 := Lib.hid e1
        clear e1
        cases e2 : cutName (nm.data.toList.take letters) st with
        | some s =>
          have E2 := Lib.hid e2
          have HF : Hid (nameS names letters p st names.length = some (tellS s p (j + 1))) := Lib.hid (by rw [HN.out, HS.out, E1.out]; simp only [e2])
          clear e2
          go_wp2_with fail
          refine (cutName_any nm z2 rb st HST.out.len _ HR.out).mono ?_
          rw [E1.out]
          rintro e w2 ⟨rfl, hr, hg⟩
          have R2 := Lib.hid (show RdAt w2 rb st from hr)
          have G2 := Lib.hid (Lib.grownBy_trans HG.out hg)
          clear hr hg
          have d2 := cell_grown H2.out n2 G2.out
          go_wp2_with fail
          refine (cutName_any (nm.extract 0 letters) (by simp; omega) rb st HST.out.len _ R2.out).mono ?_
          rw [ba_take2, E2.out]
          rintro e w3 ⟨rfl, hr, hg⟩
          have R3 := Lib.hid (show RdAt w3 rb s from hr)
          have G3 := Lib.hid (Lib.grownBy_trans G2.out hg)
          clear hr hg d2
          have d3 := cell_grown H3.out n3 G3.out
          have HT := Lib.hid (cutName_stB HST.out E2.out)
          go_wp2_with fail
          refine (tell_any p hp _ rb s HT.out.t1 HT.out.t2 _ R3.out).mono ?_
          rintro e w4 ⟨rfl, hr, hg⟩
          have R4 := Lib.hid hr
          have G4 := Lib.hid (Lib.grownBy_trans G3.out hg)
          clear hr hg
          go_wp2_with fail
          go_ret
          rw [HF.out]
          exact ⟨⟨rfl, R4.out⟩, G4.out⟩
        | none =>
          have E2 := Lib.hid e2
          have HF : Hid (nameS names letters p st names.length = nameS names letters p st (names.length - (j + 1))) := Lib.hid (by rw [HN.out, HS.out, E1.out]; simp only [e2])
          clear e2
          go_wp2_with fail
          refine (cutName_any nm z2 rb st HST.out.len _ HR.out).mono ?_
          rw [E1.out]
          rintro e w2 ⟨rfl, hr, hg⟩
          have R2 := Lib.hid (show RdAt w2 rb st from hr)
          have G2 := Lib.hid (Lib.grownBy_trans HG.out hg)
          clear hr hg
          have d2 := cell_grown H2.out n2 G2.out
          go_wp2_with fail
          refine (cutName_any (nm.extract 0 letters) (by simp; omega) rb st HST.out.len _ R2.out).mono ?_
          rw [ba_take2, E2.out]
          rintro e w3 ⟨rfl, hr, hg⟩
          have R3 := Lib.hid (show RdAt w3 rb st from hr)
          have G3 := Lib.hid (Lib.grownBy_trans G2.out hg)
          clear hr hg d2
          go_wp2_with fail
          go_roundw
          case rel => exact ⟨j + 1, by omega, by go_num, HF, R3, G3⟩
          case measure => simp [intOf]; omega
    · have hjj : j = names.length := by omega
      subst hjj
      have HF : Hid (nameS names letters p st names.length = none) := Lib.hid (by rw [HN.out, Nat.sub_self]; rfl)
      have d5 := HE.out.grown hrb HG.out
      unfold ErrW errV at d5
      clear hc1
      go_wp2_with fail
      go_ret
      rw [HF.out]
      exact ⟨⟨rfl, _, HR.out⟩, HG.out⟩
end Go.Proofs.YtpjncnoejdaplaaGreatDoor

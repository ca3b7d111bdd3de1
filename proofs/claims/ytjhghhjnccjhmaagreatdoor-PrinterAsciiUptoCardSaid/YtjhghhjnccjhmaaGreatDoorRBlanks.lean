/- PrinterBlanks: its walk. -/
import Derived.Test.YtjhghhjnccjhmaaGreatDoorRHeadsW
import Derived.Test.YtjhghhjnccjhmaaGreatDoorRPieces
import Derived.Test.YtjhghhjnccjhmaaGreatDoorRTight
import Derived.Test.YtjhghhjnccjhmaaGreatDoorQLarge
namespace Go.Proofs.YtjhghhjnccjhmaaGreatDoor
open Go Go.RowKit

theorem outS_small (st : Option (List UInt8)) (h : ∀ l, st = some l → l.length ≤ 16777216) : (outS st).1.size ≤ 16777216 := by
  cases st with
  | none => exact Nat.zero_le _
  | some l => show (⟨l.toArray⟩ : ByteArray).size ≤ _; rw [size_arr]; exact h l rfl
theorem prT_small (y : Sty) (m : Nat) (v : V) : ∀ l, prT y m v = some l → l = printV y (stepT y) m v 0 ∧ l.length ≤ 16777216 := by
  intro l hl
  unfold prT at hl
  by_cases hf : ([] : List UInt8).length + (printV y (stepT y) m v 0).length ≤ 16777216
  · rw [putS_fit hf] at hl
    injection hl with hl
    rw [← hl, List.nil_append]
    exact ⟨rfl, by simpa using hf⟩
  · rw [putS_not hf] at hl; cases hl
theorem blanks_step (y : Sty) : Blanks (stepT y) := by
  intro c hc
  unfold stepT at hc
  split at hc
  · have hc : c ∈ [(9 : UInt8)] := hc
    simp only [List.mem_cons, List.not_mem_nil, or_false] at hc
    subst hc
    exact ⟨by decide, by decide⟩
  · have : ∀ n, c ∈ Lib.repeatL [(32 : UInt8)] n → c = 32 := by
      intro n
      induction n with
      | zero => intro h; cases h
      | succ n ih => intro h; exact (List.mem_append.1 h).elim (fun h => by simpa using h) ih
    have := this _ hc
    subst this
    exact ⟨by decide, by decide⟩
/-- What is left of what Print writes is the value's text. -/
theorem tight_print (y : Sty) (hc : y.col = false) (ha : y.asc = false) (hsr : y.srt = false) (w : World) (B m : Nat) (v : V) (lv kv : Value) (d : Nat) (hA : At w B m v lv kv) (hr : rightV d v = true) (l : List UInt8) (hl : prT y m v = some l) : tg false l = textV m v := by
  rw [(prT_small y m v l hl).1]
  have := Closed.value y hc ha hsr (blanks_step y) w B m v lv kv d 0 hA hr []
  rw [List.append_nil, tg_nil, List.append_nil] at this
  exact this
theorem At.depth {w : World} {B : Nat} : ∀ (d m : Nat) (v : V) (lv kv : Value), At w B m v lv kv → rightV d v = true → At w B d v lv kv := by
  intro d
  induction d with
  | zero => intro m v lv kv _ hr; cases hr
  | succ d ih =>
    intro m v lv kv h hr
    obtain ⟨m, rfl⟩ : ∃ m', m = m' + 1 := by cases m with | zero => exact h.elim | succ m => exact ⟨m, rfl⟩
    obtain ⟨hs, hk, hc, a, c, b, o, e, hab, hi⟩ := h.opened
    refine ⟨hs, hk, hc, a, c, b, o, e, hab, fun i hlt => ?_⟩
    obtain ⟨lv', kv', h5, hA⟩ := hi i hlt
    exact ⟨lv', kv', h5, ih m _ _ _ hA (right_sub hr hlt)⟩
/-- What Print answers without colours, in what order keys stand: a text and a number; if it is 0, the value's text is left of it. -/
theorem print_out (n : Int) (hn : -9223372036854775808 ≤ n ∧ n ≤ 9223372036854775807) (tab : Bool) (v : V) (m : Nat) (a1 a2 : Option Addr) (n1 k1 n2 k2 : Nat) (w : World) (hN : NumW w) (hA : At w w.heap.size m v (.slice a1 n1 k1) (.slice a2 n2 k2)) (hr : rightV 10000 v = true) :
    ∃ (A : ByteArray) (E : Int), (∀ W, Below w.heap.size w W → Calls Tryz.prog 10 #[.agg #[.int .i64 v.k, .float .f64 v.f, .string v.s, .slice a1 n1 k1, .slice a2 n2 k2], .agg #[.int .i64 n, .bool tab, .bool false, .bool false, .bool false]] W fun e w' => e = .returned (.tuple #[.string A, .int .i64 E]) ∧ Below W.heap.size W w') ∧
      (E = 0 → tg false A.data.toList = textV 10000 v) ∧ A.size ≤ 16777216 := by
  have h10 := At.depth 10000 m v _ _ hA hr
  by_cases hin : 0 ≤ n ∧ n ≤ 7
  · refine ⟨(outS (prT ⟨n, tab, false, false, false⟩ 10000 v)).1, (outS (prT ⟨n, tab, false, false, false⟩ 10000 v)).2, fun W hW => ?_, fun h0 => ?_, outS_small _ (fun l hl => (prT_small _ _ _ l hl).2)⟩
    · exact Print_any ⟨n, tab, false, false, false⟩ (order_F _ rfl) hin.1 hin.2 10000 (by decide) v 10000 _ _ W (hN.below hW) ((h10.below hW).more hW.size) hr
    · cases hp : prT ⟨n, tab, false, false, false⟩ 10000 v with
      | none => rw [hp] at h0; cases h0
      | some l => exact tight_print ⟨n, tab, false, false, false⟩ rfl rfl rfl w w.heap.size 10000 v _ _ 10000 h10 hr l hp
  · exact ⟨⟨#[]⟩, 2, fun W hW => Print_bad ⟨n, tab, false, false, false⟩ hn (by show n < 0 ∨ 7 < n; omega) v.k v.f v.s _ _ W, (fun h => absurd h (by decide)), by decide⟩
set_option maxRecDepth 100000 in
set_option maxHeartbeats 4000000 in
theorem printerBlanks_true (v : V) (m : Nat) (lv kv : Value) (n : Int) (tab : Bool) (w : World) (hN : NumW w) (h : At w w.heap.size m v lv kv) (hn : -9223372036854775808 ≤ n ∧ n ≤ 9223372036854775807) :
    Calls Tryz.prog 6 #[.agg (cellsV v lv kv), .int .i64 n, .bool tab] w fun e w' => e = .returned (.bool true) ∧ Below w.heap.size w w' := by
  have hsf := run_store_float Tryz.prog
  have HN := Lib.hid (fun W (hW : Below w.heap.size w W) => hN.below hW)
  have hh := fun W hW => heads_true W hW
  have hrr := fun W (hW : Below w.heap.size w W) => refRightT_any m v _ _ W ((h.below hW).more hW.size)
  have hrl := fun W (hW : Below w.heap.size w W) => refLarge_any m v _ _ W ((h.below hW).more hW.size)
  obtain ⟨a1, n1, k1, a2, n2, k2, rfl, rfl⟩ := h.slices
  unfold cellsV at hrr hrl ⊢
  have HH := Lib.hid hh
  have HRR := Lib.hid hrr
  have HRL := Lib.hid hrl
  have HA := Lib.hid h
  have H := Lib.hid ((HW.start w).one #[.int .i64 v.k, .float .f64 v.f, .string v.s, .slice a1 n1 k1, .slice a2 n2 k2] 27)
  clear hh hrr hrl h hN
  go_enter Tryz.func6, Tryz.ntmps6
  go_wp2_with fail
  refine (HRR.out _ H.out.bel).mono ?_
  rintro e w1 ⟨rfl, hb⟩
  have hx := H.out.below hb
  clear H
  have H := Lib.hid hx
  obtain ⟨i0, i1, i2, i3, i4⟩ := row5p (hx.get _ _ _ (.head _))
  clear hx hb
  cases hR : rightV 10000 v with
  | false =>
    go_wp2_with fail
    refine (HH.out _ (HN.out _ H.out.bel)).mono ?_
    rintro e w2 ⟨rfl, hb⟩
    have hz := H.out.bel.trans (hb.mono H.out.bel.size)
    go_wp2_with fail
    go_ret
    exact ⟨rfl, hz⟩
  | true =>
    have hNw := HN.out w (Below.refl _ _)
    obtain ⟨A1, E1, hp1, ht1, hs1⟩ := print_out n hn tab v m a1 a2 n1 k1 n2 k2 w hNw HA.out hR
    obtain ⟨A2, E2, hp2, ht2, hs2⟩ := print_out 0 (by decide) false v m a1 a2 n1 k1 n2 k2 w hNw HA.out hR
    have htg1 := fun W => tight_any A1 (by omega) W
    have htg2 := fun W => tight_any A2 (by omega) W
    obtain ⟨L, hL⟩ : ∃ L, largeV m v = L := ⟨_, rfl⟩
    rw [hL] at HRL
    have HP1 := Lib.hid hp1
    have HP2 := Lib.hid hp2
    have HT1 := Lib.hid ht1
    have HT2 := Lib.hid ht2
    have HG1 := Lib.hid htg1
    have HG2 := Lib.hid htg2
    clear hp1 hp2 ht1 ht2 hs1 hs2 htg1 htg2 hL hNw hR
    go_wp2_with fail
    refine (HRL.out _ H.out.bel).mono ?_
    rintro e w2 ⟨rfl, hb⟩
    have hx := H.out.below hb
    clear H i0 i1 i2 i3 i4
    have H := Lib.hid hx
    obtain ⟨i0, i1, i2, i3, i4⟩ := row5p (hx.get _ _ _ (.head _))
    clear hx hb
    cases L with
    | true =>
      go_wp2_with fail
      refine (HH.out _ (HN.out _ H.out.bel)).mono ?_
      rintro e w2 ⟨rfl, hb⟩
      have hz := H.out.bel.trans (hb.mono H.out.bel.size)
      go_wp2_with fail
      go_ret
      exact ⟨rfl, hz⟩
    | false =>
      go_wp2_with fail
      refine (HP1.out _ H.out.bel).mono ?_
      rintro e w3 ⟨rfl, hb⟩
      have hx := H.out.below hb
      clear H i0 i1 i2 i3 i4
      have H := Lib.hid hx
      obtain ⟨i0, i1, i2, i3, i4⟩ := row5p (hx.get _ _ _ (.head _))
      clear hx hb
      go_wp2_with fail
      refine (HP2.out _ H.out.bel).mono ?_
      rintro e w4 ⟨rfl, hb⟩
      have hx := H.out.below hb
      clear H i0 i1 i2 i3 i4
      have H := Lib.hid hx
      clear hx hb
      by_cases h1 : E1 = 0
      · have d1 : (E1 != 0) = false := by rw [h1]; rfl
        by_cases h2 : E2 = 0
        · have d2 : (E2 != 0) = false := by rw [h2]; rfl
          have hq1 := HT1.out h1
          have hq2 := HT2.out h2
          rw [hq1] at HG1
          rw [hq2] at HG2
          clear h1 h2 hq1 hq2
          go_wp2_with fail
          refine (HG1.out _).mono ?_
          rintro e w5 ⟨rfl, hb⟩
          have hx := H.out.below hb
          clear H
          have H := Lib.hid hx
          clear hx hb
          go_wp2_with fail
          refine (HG2.out _).mono ?_
          rintro e w6 ⟨rfl, hb⟩
          have hx := H.out.below hb
          clear H
          have H := Lib.hid hx
          clear hx hb
          go_wp2_with fail
          refine (HH.out _ (HN.out _ H.out.bel)).mono ?_
          rintro e w2 ⟨rfl, hb⟩
          have hz := H.out.bel.trans (hb.mono H.out.bel.size)
          go_wp2_with fail
          go_ret
          exact ⟨rfl, hz⟩
        · have d2 : (E2 != 0) = true := by simp [h2]
          clear h1 h2
          go_wp2_with fail
          refine (HH.out _ (HN.out _ H.out.bel)).mono ?_
          rintro e w2 ⟨rfl, hb⟩
          have hz := H.out.bel.trans (hb.mono H.out.bel.size)
          go_wp2_with fail
          go_ret
          exact ⟨rfl, hz⟩
      · have d1 : (E1 != 0) = true := by simp [h1]
        clear h1
        go_wp2_with fail
        refine (HH.out _ (HN.out _ H.out.bel)).mono ?_
        rintro e w2 ⟨rfl, hb⟩
        have hz := H.out.bel.trans (hb.mono H.out.bel.size)
        go_wp2_with fail
        go_ret
        exact ⟨rfl, hz⟩
end Go.Proofs.YtjhghhjnccjhmaaGreatDoor

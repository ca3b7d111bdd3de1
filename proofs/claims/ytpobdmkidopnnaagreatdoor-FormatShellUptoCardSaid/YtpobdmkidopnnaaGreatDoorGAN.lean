/- The document's right. -/
import Derived.Test.YtpobdmkidopnnaaGreatDoorGAJ
import Derived.Test.YtpobdmkidopnnaaGreatDoorGAA
import Derived.Test.YtpobdmkidopnnaaGreatDoorGAM
import Derived.Test.YtpobdmkidopnnaaGreatDoorGAL
import Derived.Test.YtpobdmkidopnnaaGreatDoorGAG
namespace Go.Proofs.YtpobdmkidopnnaaGreatDoor
open Go Go.RowKit

def emptyB (s : ByteArray) : Bool := s.toList.isEmpty
/-- What a value must be by itself. -/
def headOK (v : V) : Bool :=
  decide (0 ≤ v.k) && decide (v.k ≤ 6) && (v.k == 3 || zeroV v.f) && (v.k == 4 || emptyB v.s) && (decide (5 ≤ v.k) || decide (v.l.length = 0)) && (v.k != 6 || decide (v.ks.length = v.l.length)) && (v.k == 6 || decide (v.ks.length = 0)) && allGood v.s 0 && okK (sortK v.ks)
def rightV : Nat → V → Bool
  | 0, _ => false
  | d + 1, v => headOK v && v.l.all (fun x => rightV d x)
theorem rightV_pos {d : Nat} (hd : 1 ≤ d) (v : V) : rightV d v = (headOK v && v.l.all (fun x => rightV (d - 1) x)) := by
  obtain ⟨e, rfl⟩ : ∃ e, d = e + 1 := ⟨d - 1, by omega⟩
  rfl
theorem headOK_iff (v : V) : headOK v = true ↔ (0 ≤ v.k ∧ v.k ≤ 6) ∧ (v.k = 3 ∨ zeroV v.f = true) ∧ (v.k = 4 ∨ v.s.toList = []) ∧ (5 ≤ v.k ∨ v.l.length = 0) ∧ (v.k ≠ 6 ∨ v.ks.length = v.l.length) ∧ (v.k = 6 ∨ v.ks.length = 0) ∧ allGood v.s 0 = true ∧ okK (sortK v.ks) = true := by
  unfold headOK emptyB
  simp only [Bool.and_eq_true, Bool.or_eq_true, decide_eq_true_eq, beq_iff_eq, bne_iff_ne, List.isEmpty_iff, and_assoc]
theorem all_false {f : V → Bool} {l : List V} {j : Nat} (hj : j < l.length) (h : f l[j] = false) : l.all f = false := by
  rw [List.all_eq_false]
  exact ⟨l[j], List.getElem_mem hj, by simp [h]⟩
theorem all_true {f : V → Bool} {l : List V} (h : ∀ t (h : t < l.length), f l[t] = true) : l.all f = true := by
  rw [List.all_eq_true]
  intro x hx
  obtain ⟨t, ht, rfl⟩ := List.getElem_of_mem hx
  exact h t ht
set_option maxRecDepth 100000 in
set_option maxHeartbeats 8000000 in
theorem refRight_any3 (m : Nat) : ∀ (v : V) (lv kv : Value) (d : Nat) (w : World), d ≤ 10000 → At w w.heap.size m v lv kv →
    Calls Tryz.prog 37 #[.agg (cellsV v lv kv), .int .i64 d] w fun e w' => e = .returned (.bool (rightV d v)) ∧ Below w.heap.size w w' := by
  induction m with
  | zero => intro v lv kv d w _ h; exact h.elim
  | succ m ih =>
    intro v lv kv d w hd h
    obtain ⟨hsm, ha, hcp, a, c, B, o, rfl, hab, hi⟩ := h.opened
    obtain ⟨A, ad, ck, rfl, hA, hac⟩ := ha.1.dest
    have hsf := run_store_float Tryz.prog
    rw [List.length_map] at ha ⊢
    have HA := Lib.hid ha
    have HI := Lib.hid hi
    have HAB := Lib.hid hab
    have HIH := Lib.hid ih
    clear ha hac hA hcp hi hab h ih
    obtain ⟨_, _, _, hss, hls, hks, hkl⟩ := hsm
    have HKL := Lib.hid hkl
    clear hkl
    obtain ⟨k, hk⟩ : ∃ k, v.k = k := ⟨_, rfl⟩
    have HK := Lib.hid hk
    have hkv := fun W hW => refKeys_any v.ks (.slice A v.ks.length ck) W hks HKL.out hW
    have HKV := Lib.hid hkv
    unfold cellsV
    rw [hk]
    clear hk hkv
    by_cases hd1 : d < 1
    · obtain rfl : d = 0 := by omega
      go_enter Tryz.func37, Tryz.ntmps37
      go_wp2_with fail
      go_ret
      exact ⟨rfl, (Below.refl _ _).alloc (Nat.le_refl _) _⟩
    have hd2 : 1 ≤ d := by omega
    have HR := Lib.hid (rightV_pos hd2 v)
    have t0 : decide ((d : Int) < 1) = false := by simp; omega
    have t0' : decide (d < 1) = false := by simp; omega
    clear hd1
    by_cases k0 : k < 0
    · go_enter Tryz.func37, Tryz.ntmps37
      go_wp2_with fail
      go_ret
      exact ⟨by rw [HR.out]; simp [headOK, HK.out]; omega, (Below.refl _ _).alloc (Nat.le_refl _) _⟩
    by_cases k6 : 6 < k
    · go_enter Tryz.func37, Tryz.ntmps37
      go_wp2_with fail
      go_ret
      exact ⟨by rw [HR.out]; simp [headOK, HK.out]; omega, (Below.refl _ _).alloc (Nat.le_refl _) _⟩
    have hkk : k = 0 ∨ k = 1 ∨ k = 2 ∨ k = 3 ∨ k = 4 ∨ k = 5 ∨ k = 6 := by omega
    clear k0 k6
    rcases hkk with rfl | rfl | rfl | rfl | rfl | rfl | rfl
    all_goals
      go_enter Tryz.func37, Tryz.ntmps37
      go_wp2_with (first
        | (go_at_call 78; refine (refZero_any _ _).mono ?_; rintro e w' ⟨rfl, rfl⟩)
        | (go_at_call 21; refine (refValid_any _ (by omega) _).mono ?_; rintro e w' ⟨rfl, rfl⟩)
        | (go_at_call 79; refine (HKV.out _ (KeysAt.more (HA.out.below ((Below.refl w.heap.size w).alloc (Nat.le_refl _) _)) (by simp))).mono ?_; rintro e w1 ⟨rfl, hb1⟩))
      all_goals (first
        | (go_ret
           have hhead : headOK v = false := by
             cases hh : headOK v
             · rfl
             · exfalso
               rw [headOK_iff, HK.out] at hh
               obtain ⟨_, p1, p2, p3, p4, p5, p6, p7⟩ := hh
               first
                 | omega
                 | (simp_all; done)
                 | (simp_all; omega)
           first
             | exact ⟨by rw [HR.out, hhead]; rfl, (Below.refl _ _).alloc (Nat.le_refl _) _⟩
             | exact ⟨by rw [HR.out, hhead]; rfl, ((Below.refl _ _).alloc (Nat.le_refl _) _).trans (hb1.mono (by simp))⟩)
        | skip)
      all_goals
        have hhead : headOK v = true := by
          rw [headOK_iff, HK.out]
          refine ⟨⟨by omega, by omega⟩, ?_, ?_, ?_, ?_, ?_, ?_, ?_⟩
          all_goals first
            | assumption
            | exact Or.inl (by omega)
            | exact Or.inr (by assumption)
            | exact Or.inr (by omega)
            | (simp_all; done)
        have hres : rightV d v = v.l.all (fun x => rightV (d - 1) x) := by rw [HR.out, hhead]; rfl
        have HRES := Lib.hid hres
        have HB1 : Hid (Below w.heap.size w w1) := Lib.hid (((Below.refl _ _).alloc (Nat.le_refl _) _).trans (hb1.mono (by simp)))
        have hx3 : w1.cell? ⟨w.heap.size, 3, none⟩ = some (.slice a v.l.length c) := (hb1.cell (p := ⟨w.heap.size, 3, none⟩) (by simp)).trans (by go_simp)
        have hsz1 : w.heap.size < w1.heap.size := by have := hb1.size; simp at this; omega
        have HX3 := Lib.hid hx3
        clear hres hhead hb1 hx3
        try (rename v.s.toList = [] => hq; clear hq)
        try (rename zeroV v.f = true => hq; clear hq)
        try (rename allGood v.s 0 = true => hq; clear hq)
        try (rename (!okK (sortK v.ks)) = false => hq; clear hq)
        try (rename (v.ks.length : Int) = v.l.length => hq; clear hq)
        go_loopw [5] (fun i W => ∃ j : Nat, j ≤ v.l.length ∧ i = .int .i64 j ∧ (∀ t (h : t < v.l.length), t < j → rightV (d - 1) v.l[t] = true) ∧ Below w1.heap.size w1 W) (fun i _ => v.l.length - (intOf i).toNat)
        case atStart => exact ⟨0, Nat.zero_le _, rfl, fun t _ h => absurd h (by omega), Below.refl _ _⟩
        case round =>
          obtain ⟨j, hj, rfl, hok, hbel⟩ := hrel
          have HOK := Lib.hid hok
          have HBEL := Lib.hid hbel
          have hx3 : wr.cell? ⟨w.heap.size, 3, none⟩ = some (.slice a v.l.length c) := (hbel.cell (p := ⟨w.heap.size, 3, none⟩) hsz1).trans HX3.out
          clear hok hbel
          by_cases hlt : j < v.l.length
          · first
              | (exfalso; omega)
              | skip
            all_goals
              obtain ⟨lv', kv', h5, hAt⟩ := HI.out j hlt
              obtain ⟨rfl, hBw⟩ := HAB.out (by omega)
              have hbw : Below w.heap.size w wr := HB1.out.trans (HBEL.out.mono HB1.out.size)
              obtain ⟨f0, f1, f2, f3, f4⟩ := h5.keep hBw (fun p hp => hbw.cell hp)
              obtain ⟨a1, n1, k1, a2, n2, k2, rfl, rfl⟩ := hAt.slices
              have hih := HIH.out v.l[j] _ _ (d - 1) wr (by omega) (At.more hbw.size _ _ _ _ (hAt.below hbw))
              have hdm : ((d - 1 : Nat) : Int) = (d : Int) - 1 := by omega
              rw [hdm] at hih
              unfold cellsV at hih
              have HIH2 := Lib.hid hih
              have HBW := Lib.hid hbw
              clear hih hdm h5 hAt hbw
              go_wp2_with fail
              refine HIH2.out.mono ?_
              rintro e w2 ⟨rfl, hb2⟩
              have HB2 := Lib.hid hb2
              clear hb2
              cases hr : rightV (d - 1) v.l[j]
              · have HRR := Lib.hid hr
                clear hr
                go_wp2_with fail
                go_ret
                exact ⟨by rw [HRES.out, all_false hlt HRR.out]; rfl, HBW.out.trans (HB2.out.mono HBW.out.size)⟩
              · have HRR := Lib.hid hr
                clear hr
                go_wp2_with fail
                go_roundw
                case rel => exact ⟨j + 1, by omega, by go_num, fun t h ht => by by_cases e : t = j; (subst e; exact HRR.out); exact HOK.out t h (by omega), HBEL.out.trans (HB2.out.mono HBEL.out.size)⟩
                case measure => simp [intOf]; omega
          · go_wp2_with fail
            go_ret
            exact ⟨by rw [HRES.out, all_true (fun t h => HOK.out t h (by omega))]; rfl, HB1.out.trans (HBEL.out.mono HB1.out.size)⟩
end Go.Proofs.YtpobdmkidopnnaaGreatDoor
namespace Go.Proofs.YtpobdmkidopnnaaGreatDoor
open Go Go.RowKit

/-- The first n parts, commas between. -/
def rowB (T : Nat → List UInt8) : Nat → List UInt8
  | 0 => []
  | n + 1 => rowB T n ++ (if n = 0 then T n else 44 :: T n)
theorem rowB_mono (T : Nat → List UInt8) {i n : Nat} (h : i ≤ n) : (rowB T i).length ≤ (rowB T n).length := by
  induction n with
  | zero => obtain rfl : i = 0 := by omega
            exact Nat.le_refl _
  | succ n ih =>
    by_cases e : i = n + 1
    · subst e; exact Nat.le_refl _
    · have := ih (by omega)
      show _ ≤ (rowB T n ++ _).length
      rw [List.length_append]
      omega
def nullT : List UInt8 := [110, 117, 108, 108]
def falseT : List UInt8 := [102, 97, 108, 115, 101]
def trueT : List UInt8 := [116, 114, 117, 101]
/-- A value's text. -/
def textV : Nat → V → List UInt8
  | 0, _ => []
  | m + 1, v =>
    if v.k = 0 then nullT else if v.k = 1 then falseT else if v.k = 2 then trueT else if v.k = 3 then textB v.f else if v.k = 4 then quoteR v.s
    else if v.k = 5 then 91 :: (rowB (fun i => textV m (v.l.getD i default)) v.l.length ++ [93])
    else 123 :: (rowB (fun i => quoteR (v.ks.getD i default) ++ 58 :: textV m (v.l.getD i default)) v.l.length ++ [125])
set_option maxRecDepth 100000 in
set_option maxHeartbeats 4000000 in
theorem row_any1 (b : Nat) (en : Int) (op cl : UInt8) (n : Nat) (hn : n ≤ 1048576) (T : Nat → List UInt8) (p2 p3 : Value) (Env : World → Prop) (hEnv : ∀ w w', Env w → WStep b w w' → Env w')
    (hcall : ∀ (i : Nat) (l : List UInt8) (W : World), i < n → Env W → IsW W b l en → ((l ++ T i).length : Int) ≤ en → (l ++ T i).length ≤ 1099511627776 →
      Calls Tryz.prog 164 #[.int .i64 i, p2, p3] W fun e w' => e = .returned (.tuple #[]) ∧ WAt w' b (.pointer (some ⟨b, 0, none⟩)) (l ++ T i) en ∧ WStep b W w')
    (l : List UInt8) (w : World) (hE : Env w) (h : IsW w b l en) (hfit : ((l ++ op :: (rowB T n ++ [cl])).length : Int) ≤ en) (hlen : (l ++ op :: (rowB T n ++ [cl])).length ≤ 1099511627776) :
    Calls Tryz.prog 163 #[.pointer (some ⟨b, 0, none⟩), .int .u8 op.toNat, .int .u8 cl.toNat, .int .i64 n, .func (Fn.func 164) #[] #[p2, p3]] w fun e w' =>
      e = .returned (.tuple #[]) ∧ WAt w' b (.pointer (some ⟨b, 0, none⟩)) (l ++ op :: (rowB T n ++ [cl])) en ∧ WStep b w w' := by
  have hq : (l ++ op :: (rowB T n ++ [cl])).length = l.length + (rowB T n).length + 2 := by simp; omega
  rw [hq] at hfit hlen
  have h1 := WriteByte_any b l en op w h (by omega)
  have H1 := Lib.hid h1
  have HE := Lib.hid hE
  have HEnv := Lib.hid hEnv
  have HCALL := Lib.hid hcall
  obtain ⟨p, hp, v, hb, hown⟩ := h
  obtain ⟨c0, c1, c2, f0, f1, hsh, hlt⟩ := row3V hb
  clear h1 hq hE hEnv hcall hown hb hp hsh
  go_enter Tryz.func163, Tryz.ntmps163
  go_wp2_with fail
  refine H1.out.mono ?_
  rintro e w1 ⟨rfl, hw1, hst⟩
  have HW := Lib.hid hw1.is
  have HST := Lib.hid hst
  clear hw1 hst c0 c1 c2 f0 f1
  go_wp2_with fail
  go_loopw [17] (fun i W => ∃ j : Nat, j ≤ n ∧ i = .int .i64 j ∧ IsW W b (l ++ [op] ++ rowB T j) en ∧ WStep b w1 W) (fun i _ => n - (intOf i).toNat)
  case atStart => exact ⟨0, Nat.zero_le _, rfl, by show IsW w1 b (l ++ [op] ++ []) en; rw [List.append_nil]; exact HW.out, WStep.refl _ _⟩
  case round =>
    obtain ⟨j, hj, rfl, hw, hs⟩ := hrel
    have HWR := Lib.hid hw
    have HSR := Lib.hid hs
    obtain ⟨p', hp', v', hb', hown'⟩ := id hw
    obtain ⟨c0, c1, c2, f0, f1, hsh, hltr⟩ := row3V hb'
    have hm := rowB_mono T hj
    clear hw hs hb' hown' hp' hsh
    by_cases hlt2 : j < n
    · have hm1 := rowB_mono T (show j + 1 ≤ n by omega)
      have hfl := isFull_any b _ en _ HWR.out
      have hfd : decide (en < ((l ++ [op] ++ rowB T j).length : Int)) = false := by simp; omega
      rw [hfd] at hfl
      have HFL := Lib.hid hfl
      have hr1 : rowB T (j + 1) = rowB T j ++ (if j = 0 then T j else 44 :: T j) := rfl
      by_cases hj0 : j = 0
      · rw [if_pos hj0] at hr1
        have hrl : (rowB T (j + 1)).length = (rowB T j).length + (T j).length := by rw [hr1, List.length_append]
        have hc := fun W hE hW => HCALL.out j (l ++ [op] ++ rowB T j) W hlt2 hE hW (by simp; omega) (by simp; omega)
        rw [List.append_assoc (l ++ [op]), ← hr1] at hc
        have HC := Lib.hid hc
        have d0 : decide (0 < j) = false := by simp; omega
        have d1 : decide ((0 : Int) < j) = false := by simp; omega
        have hj0' : j ≤ 0 := by omega
        clear hfl hfd hr1 hrl hc hj0 hm hm1
        go_wp2_with fail
        refine HFL.out.mono ?_
        rintro e w3 ⟨rfl, nn, rfl⟩
        go_wp2_with fail
        refine (HC.out (wr.drewN nn) (HEnv.out _ _ HE.out (HST.out.trans (HSR.out.trans ((WStep.refl _ _).drewN nn)))) (HWR.out.heap rfl)).mono ?_
        rintro e w4 ⟨rfl, hw4, hs4⟩
        have HW4 := Lib.hid hw4.is
        have HS4 : Hid (WStep b w1 w4) := Lib.hid (HSR.out.trans (((WStep.refl _ _).drewN nn).trans hs4))
        clear hw4 hs4
        go_wp2_with fail
        go_roundw
        case rel => exact ⟨j + 1, by omega, by go_num, HW4.out, HS4.out⟩
        case measure => simp [intOf]; omega
      · rw [if_neg hj0] at hr1
        have hrl : (rowB T (j + 1)).length = (rowB T j).length + (T j).length + 1 := by rw [hr1, List.length_append, List.length_cons]; omega
        have hwb := fun W hW => WriteByte_any b (l ++ [op] ++ rowB T j) en 44 W hW (by simp; omega)
        have hc := fun W hE hW => HCALL.out j ((l ++ [op] ++ rowB T j) ++ [44]) W hlt2 hE hW (by simp; omega) (by simp; omega)
        have e1 : ((l ++ [op] ++ rowB T j) ++ [44]) ++ T j = l ++ [op] ++ rowB T (j + 1) := by rw [hr1]; simp
        rw [e1] at hc
        have HC := Lib.hid hc
        have HWB := Lib.hid hwb
        have d0 : decide (0 < j) = true := by simp; omega
        have d1 : decide ((0 : Int) < j) = true := by simp; omega
        have hj1 : 1 ≤ j := by omega
        clear hfl hfd hr1 hrl hc hj0 hm hm1 hwb e1
        go_wp2_with fail
        refine HFL.out.mono ?_
        rintro e w3 ⟨rfl, nn, rfl⟩
        go_wp2_with fail
        refine (HWB.out (wr.drewN nn) (HWR.out.heap rfl)).mono ?_
        rintro e w5 ⟨rfl, hw5, hs5⟩
        have HW5 := Lib.hid hw5.is
        have HS5 : Hid (WStep b w1 w5) := Lib.hid (HSR.out.trans (((WStep.refl _ _).drewN nn).trans hs5))
        clear hw5 hs5
        go_wp2_with fail
        refine (HC.out w5 (HEnv.out _ _ HE.out (HST.out.trans HS5.out)) HW5.out).mono ?_
        rintro e w4 ⟨rfl, hw4, hs4⟩
        have HW4 := Lib.hid hw4.is
        have HS4 : Hid (WStep b w1 w4) := Lib.hid (HS5.out.trans hs4)
        clear hw4 hs4
        go_wp2_with fail
        go_roundw
        case rel => exact ⟨j + 1, by omega, by go_num, HW4.out, HS4.out⟩
        case measure => simp [intOf]; omega
    · obtain rfl : j = n := by omega
      have h2 := WriteByte_any b (l ++ [op] ++ rowB T j) en cl wr HWR.out (by simp; omega)
      have H2 := Lib.hid h2
      clear h2 hm
      go_wp2_with fail
      refine H2.out.mono ?_
      rintro e w3 ⟨rfl, hw3, hs3⟩
      have HW3 := Lib.hid hw3
      have HS3 := Lib.hid hs3
      clear hw3 hs3
      go_wp2_with fail
      go_end0
      refine ⟨rfl, ?_, HST.out.trans (HSR.out.trans HS3.out)⟩
      have := HW3.out
      simpa [List.append_assoc] using this
set_option maxRecDepth 100000 in
set_option maxHeartbeats 4000000 in
theorem row_any2 (b : Nat) (en : Int) (op cl : UInt8) (n : Nat) (hn : n ≤ 1048576) (T : Nat → List UInt8) (p2 p3 : Value) (Env : World → Prop) (hEnv : ∀ w w', Env w → WStep b w w' → Env w')
    (hcall : ∀ (i : Nat) (l : List UInt8) (W : World), i < n → Env W → IsW W b l en → ((l ++ T i).length : Int) ≤ en → (l ++ T i).length ≤ 1099511627776 →
      Calls Tryz.prog 165 #[.int .i64 i, p2, p3] W fun e w' => e = .returned (.tuple #[]) ∧ WAt w' b (.pointer (some ⟨b, 0, none⟩)) (l ++ T i) en ∧ WStep b W w')
    (l : List UInt8) (w : World) (hE : Env w) (h : IsW w b l en) (hfit : ((l ++ op :: (rowB T n ++ [cl])).length : Int) ≤ en) (hlen : (l ++ op :: (rowB T n ++ [cl])).length ≤ 1099511627776) :
    Calls Tryz.prog 163 #[.pointer (some ⟨b, 0, none⟩), .int .u8 op.toNat, .int .u8 cl.toNat, .int .i64 n, .func (Fn.func 165) #[] #[p2, p3]] w fun e w' =>
      e = .returned (.tuple #[]) ∧ WAt w' b (.pointer (some ⟨b, 0, none⟩)) (l ++ op :: (rowB T n ++ [cl])) en ∧ WStep b w w' := by
  have hq : (l ++ op :: (rowB T n ++ [cl])).length = l.length + (rowB T n).length + 2 := by simp; omega
  rw [hq] at hfit hlen
  have h1 := WriteByte_any b l en op w h (by omega)
  have H1 := Lib.hid h1
  have HE := Lib.hid hE
  have HEnv := Lib.hid hEnv
  have HCALL := Lib.hid hcall
  obtain ⟨p, hp, v, hb, hown⟩ := h
  obtain ⟨c0, c1, c2, f0, f1, hsh, hlt⟩ := row3V hb
  clear h1 hq hE hEnv hcall hown hb hp hsh
  go_enter Tryz.func163, Tryz.ntmps163
  go_wp2_with fail
  refine H1.out.mono ?_
  rintro e w1 ⟨rfl, hw1, hst⟩
  have HW := Lib.hid hw1.is
  have HST := Lib.hid hst
  clear hw1 hst c0 c1 c2 f0 f1
  go_wp2_with fail
  go_loopw [17] (fun i W => ∃ j : Nat, j ≤ n ∧ i = .int .i64 j ∧ IsW W b (l ++ [op] ++ rowB T j) en ∧ WStep b w1 W) (fun i _ => n - (intOf i).toNat)
  case atStart => exact ⟨0, Nat.zero_le _, rfl, by show IsW w1 b (l ++ [op] ++ []) en; rw [List.append_nil]; exact HW.out, WStep.refl _ _⟩
  case round =>
    obtain ⟨j, hj, rfl, hw, hs⟩ := hrel
    have HWR := Lib.hid hw
    have HSR := Lib.hid hs
    obtain ⟨p', hp', v', hb', hown'⟩ := id hw
    obtain ⟨c0, c1, c2, f0, f1, hsh, hltr⟩ := row3V hb'
    have hm := rowB_mono T hj
    clear hw hs hb' hown' hp' hsh
    by_cases hlt2 : j < n
    · have hm1 := rowB_mono T (show j + 1 ≤ n by omega)
      have hfl := isFull_any b _ en _ HWR.out
      have hfd : decide (en < ((l ++ [op] ++ rowB T j).length : Int)) = false := by simp; omega
      rw [hfd] at hfl
      have HFL := Lib.hid hfl
      have hr1 : rowB T (j + 1) = rowB T j ++ (if j = 0 then T j else 44 :: T j) := rfl
      by_cases hj0 : j = 0
      · rw [if_pos hj0] at hr1
        have hrl : (rowB T (j + 1)).length = (rowB T j).length + (T j).length := by rw [hr1, List.length_append]
        have hc := fun W hE hW => HCALL.out j (l ++ [op] ++ rowB T j) W hlt2 hE hW (by simp; omega) (by simp; omega)
        rw [List.append_assoc (l ++ [op]), ← hr1] at hc
        have HC := Lib.hid hc
        have d0 : decide (0 < j) = false := by simp; omega
        have d1 : decide ((0 : Int) < j) = false := by simp; omega
        have hj0' : j ≤ 0 := by omega
        clear hfl hfd hr1 hrl hc hj0 hm hm1
        go_wp2_with fail
        refine HFL.out.mono ?_
        rintro e w3 ⟨rfl, nn, rfl⟩
        go_wp2_with fail
        refine (HC.out (wr.drewN nn) (HEnv.out _ _ HE.out (HST.out.trans (HSR.out.trans ((WStep.refl _ _).drewN nn)))) (HWR.out.heap rfl)).mono ?_
        rintro e w4 ⟨rfl, hw4, hs4⟩
        have HW4 := Lib.hid hw4.is
        have HS4 : Hid (WStep b w1 w4) := Lib.hid (HSR.out.trans (((WStep.refl _ _).drewN nn).trans hs4))
        clear hw4 hs4
        go_wp2_with fail
        go_roundw
        case rel => exact ⟨j + 1, by omega, by go_num, HW4.out, HS4.out⟩
        case measure => simp [intOf]; omega
      · rw [if_neg hj0] at hr1
        have hrl : (rowB T (j + 1)).length = (rowB T j).length + (T j).length + 1 := by rw [hr1, List.length_append, List.length_cons]; omega
        have hwb := fun W hW => WriteByte_any b (l ++ [op] ++ rowB T j) en 44 W hW (by simp; omega)
        have hc := fun W hE hW => HCALL.out j ((l ++ [op] ++ rowB T j) ++ [44]) W hlt2 hE hW (by simp; omega) (by simp; omega)
        have e1 : ((l ++ [op] ++ rowB T j) ++ [44]) ++ T j = l ++ [op] ++ rowB T (j + 1) := by rw [hr1]; simp
        rw [e1] at hc
        have HC := Lib.hid hc
        have HWB := Lib.hid hwb
        have d0 : decide (0 < j) = true := by simp; omega
        have d1 : decide ((0 : Int) < j) = true := by simp; omega
        have hj1 : 1 ≤ j := by omega
        clear hfl hfd hr1 hrl hc hj0 hm hm1 hwb e1
        go_wp2_with fail
        refine HFL.out.mono ?_
        rintro e w3 ⟨rfl, nn, rfl⟩
        go_wp2_with fail
        refine (HWB.out (wr.drewN nn) (HWR.out.heap rfl)).mono ?_
        rintro e w5 ⟨rfl, hw5, hs5⟩
        have HW5 := Lib.hid hw5.is
        have HS5 : Hid (WStep b w1 w5) := Lib.hid (HSR.out.trans (((WStep.refl _ _).drewN nn).trans hs5))
        clear hw5 hs5
        go_wp2_with fail
        refine (HC.out w5 (HEnv.out _ _ HE.out (HST.out.trans HS5.out)) HW5.out).mono ?_
        rintro e w4 ⟨rfl, hw4, hs4⟩
        have HW4 := Lib.hid hw4.is
        have HS4 : Hid (WStep b w1 w4) := Lib.hid (HS5.out.trans hs4)
        clear hw4 hs4
        go_wp2_with fail
        go_roundw
        case rel => exact ⟨j + 1, by omega, by go_num, HW4.out, HS4.out⟩
        case measure => simp [intOf]; omega
    · obtain rfl : j = n := by omega
      have h2 := WriteByte_any b (l ++ [op] ++ rowB T j) en cl wr HWR.out (by simp; omega)
      have H2 := Lib.hid h2
      clear h2 hm
      go_wp2_with fail
      refine H2.out.mono ?_
      rintro e w3 ⟨rfl, hw3, hs3⟩
      have HW3 := Lib.hid hw3
      have HS3 := Lib.hid hs3
      clear hw3 hs3
      go_wp2_with fail
      go_end0
      refine ⟨rfl, ?_, HST.out.trans (HSR.out.trans HS3.out)⟩
      have := HW3.out
      simpa [List.append_assoc] using this
/-- The contract of a value's writing, for all values of at most m levels that lie below w0. -/
def ValueC (w0 : World) (b : Nat) (en : Int) (m : Nat) : Prop := ∀ (v : V) (lv kv : Value) (d : Nat) (l : List UInt8) (w : World), rightV d v = true → At w0 w0.heap.size m v lv kv → Below w0.heap.size w0 w → IsW w b l en →
    ((l ++ textV m v).length : Int) ≤ en → (l ++ textV m v).length ≤ 1099511627776 →
    Calls Tryz.prog 100 #[.pointer (some ⟨b, 0, none⟩), .agg (cellsV v lv kv)] w fun e w' => e = .returned (.tuple #[]) ∧ WAt w' b (.pointer (some ⟨b, 0, none⟩)) (l ++ textV m v) en ∧ WStep b w w'
/-- What a part's closure finds. -/
structure WEnv (w0 : World) (b P : Nat) (cells : Array Value) (W : World) : Prop where
  p2 : W.heap[P]? = some (.cells #[.pointer (some ⟨b, 0, none⟩)] 174 (0, 0))
  p3 : W.heap[P + 1]? = some (.cells cells 27 (0, 0))
  bel : Below w0.heap.size w0 W
theorem WEnv.step {w0 : World} {b P : Nat} {cells : Array Value} (hP : b < P) (hb : w0.heap.size ≤ b) (w w' : World) (h : WEnv w0 b P cells w) (hs : WStep b w w') : WEnv w0 b P cells w' :=
  ⟨hs.block h.p2 (by omega) (by decide), hs.block h.p3 (by omega) (by decide), h.bel.trans (hs.1.mono hb)⟩
theorem row5' {w : World} {b : Nat} {u0 u1 u2 u3 u4 : Value} {t : TypeId} (hb : w.heap[b]? = some (.cells #[u0, u1, u2, u3, u4] t (0, 0))) :
    w.cell? ⟨b, 0, none⟩ = some u0 ∧ w.cell? ⟨b, 1, none⟩ = some u1 ∧ w.cell? ⟨b, 2, none⟩ = some u2 ∧ w.cell? ⟨b, 3, none⟩ = some u3 ∧ w.cell? ⟨b, 4, none⟩ = some u4 ∧ True ∧ True ∧ True ∧ True ∧ True := by
  simp [World.cell?, hb]
theorem row1V {w : World} {b : Nat} {u0 : Value} {t : TypeId} (hb : w.heap[b]? = some (.cells #[u0] t (0, 0))) : w.cell? ⟨b, 0, none⟩ = some u0 := by simp [World.cell?, hb]
theorem right_sub {d : Nat} {v : V} (h : rightV d v = true) {i : Nat} (hi : i < v.l.length) : rightV (d - 1) v.l[i] = true := by
  cases d with
  | zero => cases h
  | succ d =>
    have h : (headOK v && v.l.all (fun x => rightV d x)) = true := h
    rw [Bool.and_eq_true, List.all_eq_true] at h
    exact h.2 _ (List.getElem_mem hi)
set_option maxRecDepth 100000 in
set_option maxHeartbeats 4000000 in
theorem part1_any (w0 : World) (b P : Nat) (_hb : w0.heap.size ≤ b) (_hP : b < P) (en : Int) (m : Nat) (hC : ValueC w0 b en m) (v : V) (d : Nat) (hr : rightV d v = true) (k : Int) (a : Option Addr) (c B o : Nat) (kv : Value) (hls : v.l.length ≤ 1048576)
    (hab : 0 < v.l.length → a = some ⟨B, o, none⟩ ∧ B < w0.heap.size) (hi : ∀ i (h : i < v.l.length), ∃ lv' kv', FiveAt w0 B (o + i * 5) (v.l[i]) lv' kv' ∧ At w0 w0.heap.size m (v.l[i]) lv' kv')
    (i : Nat) (l : List UInt8) (w : World) (hlt : i < v.l.length) (hE : WEnv w0 b P #[.int .i64 k, .float .f64 v.f, .string v.s, .slice a v.l.length c, kv] w) (hw : IsW w b l en)
    (hfit : ((l ++ textV m (v.l.getD i default)).length : Int) ≤ en) (hlen : (l ++ textV m (v.l.getD i default)).length ≤ 1099511627776) :
    Calls Tryz.prog 164 #[.int .i64 i, .pointer (some ⟨P, 0, none⟩), .pointer (some ⟨P + 1, 0, none⟩)] w fun e w' => e = .returned (.tuple #[]) ∧ WAt w' b (.pointer (some ⟨b, 0, none⟩)) (l ++ textV m (v.l.getD i default)) en ∧ WStep b w w' := by
  have hg : v.l.getD i default = v.l[i] := by simp [List.getD, hlt]
  rw [hg] at hfit hlen ⊢
  obtain ⟨rfl, hBw⟩ := hab (by omega)
  obtain ⟨lv', kv', h5, hAt⟩ := hi i hlt
  obtain ⟨f0, f1, f2, f3, f4⟩ := h5.keep hBw (fun p hp => hE.bel.cell hp)
  obtain ⟨a1, n1, k1, a2, n2, k2, rfl, rfl⟩ := hAt.slices
  have hcall := hC v.l[i] _ _ (d - 1) l w.drew (right_sub hr hlt) hAt hE.bel.drew (hw.heap rfl) hfit hlen
  unfold cellsV at hcall
  have HC := Lib.hid hcall
  have g2 := row1V hE.p2
  obtain ⟨e0, e1, e2, e3, e4, _, _, _, _, _⟩ := row5' hE.p3
  clear hcall hC hE h5 hAt hi hab hr hg hw
  go_enter Tryz.func164, Tryz.ntmps164
  go_wp2_with fail
  go_region_with (go_at_call 100; refine HC.out.mono ?_; rintro e w2 ⟨rfl, hw2, hs2⟩)
  all_goals
    go_end0
    exact ⟨rfl, hw2, ((WStep.refl _ _).drew).trans hs2⟩
set_option maxRecDepth 100000 in
set_option maxHeartbeats 4000000 in
theorem part2_any (w0 : World) (b P : Nat) (hb : w0.heap.size ≤ b) (hP : b < P) (en : Int) (m : Nat) (hC : ValueC w0 b en m) (v : V) (d : Nat) (hr : rightV d v = true) (k : Int) (a : Option Addr) (c B o : Nat) (kv : Value) (hls : v.l.length ≤ 1048576)
    (hab : 0 < v.l.length → a = some ⟨B, o, none⟩ ∧ B < w0.heap.size) (hi : ∀ i (h : i < v.l.length), ∃ lv' kv', FiveAt w0 B (o + i * 5) (v.l[i]) lv' kv' ∧ At w0 w0.heap.size m (v.l[i]) lv' kv')
    (hk : KeysAt w0 w0.heap.size kv v.ks) (hkl : v.ks.length = v.l.length)
    (i : Nat) (l : List UInt8) (w : World) (hlt : i < v.l.length) (hE : WEnv w0 b P #[.int .i64 k, .float .f64 v.f, .string v.s, .slice a v.l.length c, kv] w) (hw : IsW w b l en)
    (hfit : ((l ++ (quoteR (v.ks.getD i default) ++ 58 :: textV m (v.l.getD i default))).length : Int) ≤ en) (hlen : (l ++ (quoteR (v.ks.getD i default) ++ 58 :: textV m (v.l.getD i default))).length ≤ 1099511627776) :
    Calls Tryz.prog 165 #[.int .i64 i, .pointer (some ⟨P, 0, none⟩), .pointer (some ⟨P + 1, 0, none⟩)] w fun e w' => e = .returned (.tuple #[]) ∧
      WAt w' b (.pointer (some ⟨b, 0, none⟩)) (l ++ (quoteR (v.ks.getD i default) ++ 58 :: textV m (v.l.getD i default))) en ∧ WStep b w w' := by
  have hg : v.l.getD i default = v.l[i] := by simp [List.getD, hlt]
  have hgk : v.ks.getD i default = v.ks[i]'(by omega) := by rw [List.getD, List.getElem?_eq_getElem (by omega)]; rfl
  rw [hg, hgk] at hfit hlen ⊢
  have hlk : i < v.ks.length := by omega
  obtain ⟨A, ad, ck, rfl, hA, hac⟩ := hk.1.dest
  rw [List.length_map] at hE hA
  obtain ⟨rfl, hAw⟩ := hA (by omega)
  have hck : w0.cell? (ad.add i) = some (.string (v.ks[i]'hlk)) := hac i _ (by simp [hlk])
  have hkc : w.cell? (ad.add i) = some (.string (v.ks[i]'hlk)) := (hE.bel.cell (p := ad.add i) (by rw [add_block]; exact hAw)).trans hck
  obtain ⟨rfl, hBw⟩ := hab (by omega)
  obtain ⟨lv', kv', h5, hAt⟩ := hi i hlt
  obtain ⟨a1, n1, k1, a2, n2, k2, rfl, rfl⟩ := hAt.slices
  have hll : (l ++ (quoteR (v.ks[i]'hlk) ++ 58 :: textV m v.l[i])).length = (l ++ quoteR (v.ks[i]'hlk)).length + 1 + (textV m v.l[i]).length := by simp; omega
  rw [hll] at hfit hlen
  have ht := text_any b l en (v.ks[i]'hlk) w.drew (hw.heap rfl) (by omega) (by omega)
  have hwb := fun W hW => WriteByte_any b (l ++ quoteR (v.ks[i]'hlk)) en 58 W hW (by omega)
  have e1 : ((l ++ quoteR (v.ks[i]'hlk)) ++ [58]) ++ textV m v.l[i] = l ++ (quoteR (v.ks[i]'hlk) ++ 58 :: textV m v.l[i]) := by simp
  have hcall := fun W hB hW => hC v.l[i] _ _ (d - 1) ((l ++ quoteR (v.ks[i]'hlk)) ++ [58]) W (right_sub hr hlt) hAt hB hW (by rw [e1, hll]; omega) (by rw [e1, hll]; omega)
  rw [e1] at hcall
  unfold cellsV at hcall
  have HC := Lib.hid hcall
  have HT := Lib.hid ht
  have HWB := Lib.hid hwb
  have HE := Lib.hid hE
  have H5 := Lib.hid h5
  have g2 := row1V hE.p2
  obtain ⟨e0, e1, e2, e3, e4, _, _, _, _, _⟩ := row5' hE.p3
  clear hcall hC hE h5 hAt hi hab hr hg hgk hw hk hac hA hck ht hwb hll e1
  go_enter Tryz.func165, Tryz.ntmps165
  go_wp2_with fail
  go_region_with (go_at_call 162; refine HT.out.mono ?_; rintro e w2 ⟨rfl, hw2, hs2⟩)
  all_goals
    have HW2 := Lib.hid hw2.is
    have hs02 : WStep b w w2 := ((WStep.refl _ _).drew).trans hs2
    have HE2 := Lib.hid (WEnv.step hP hb _ _ HE.out hs02)
    have HS2 := Lib.hid hs02
    have g2 := row1V HE2.out.p2
    obtain ⟨q0, q1, hlt2⟩ : ∃ u0 u1, b < w2.heap.size := by obtain ⟨_, _, v, hb, _⟩ := HW2.out; exact ⟨(), (), (Array.getElem?_eq_some_iff.1 hb).1⟩
    obtain ⟨p', hp', v', hb', hown'⟩ := HW2.out
    obtain ⟨c0, c1, c2, f0, f1, hsh, hltr⟩ := row3V hb'
    clear hw2 hs2 hs02 hb' hown' hp' hsh e0 e3 e4 hkc
    go_wp2_with fail
    refine (HWB.out w2 HW2.out).mono ?_
    rintro e w3 ⟨rfl, hw3, hs3⟩
    have HW3 := Lib.hid hw3.is
    have HE3 := Lib.hid (WEnv.step hP hb _ _ HE2.out hs3)
    have HS3 := Lib.hid (HS2.out.trans hs3)
    have g2 := row1V HE3.out.p2
    obtain ⟨e0, e1, e2, e3, e4, _, _, _, _, _⟩ := row5' HE3.out.p3
    obtain ⟨f0, f1, f2, f3, f4⟩ := H5.out.keep hBw (fun p hp => HE3.out.bel.cell hp)
    clear hw3 hs3
    go_wp2_with fail
    go_region_with (go_at_call 100; refine (HC.out w3.drew HE3.out.bel.drew (HW3.out.heap rfl)).mono ?_; rintro e w4 ⟨rfl, hw4, hs4⟩)
    all_goals
      go_end0
      exact ⟨rfl, hw4, HS3.out.trans (((WStep.refl _ _).drew).trans hs4)⟩
end Go.Proofs.YtpobdmkidopnnaaGreatDoor

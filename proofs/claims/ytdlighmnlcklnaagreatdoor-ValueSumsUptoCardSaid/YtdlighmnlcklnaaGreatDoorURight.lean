/- The program's right: the document's. -/
import Derived.Test.YtdlighmnlcklnaaGreatDoorURightR
import Derived.Test.YtdlighmnlcklnaaGreatDoorUClone
import Derived.Test.YtdlighmnlcklnaaGreatDoorUCopy
namespace Go.Proofs.YtdlighmnlcklnaaGreatDoor
open Go Go.RowKit

def bareB (f : Nat) (s : ByteArray) (n m : Nat) : Bool := zeroV f && emptyB s && decide (n = 0) && decide (m = 0)
theorem bareB_iff (f : Nat) (s : ByteArray) (n m : Nat) : bareB f s n m = true ↔ zeroV f = true ∧ s.toList = [] ∧ n = 0 ∧ m = 0 := by
  unfold bareB emptyB
  simp only [Bool.and_eq_true, decide_eq_true_eq, List.isEmpty_iff, and_assoc]
theorem good_empty (s : ByteArray) (h : s.toList = []) : allGood s 0 = true := by
  refine allGood_nil s 0 ?_
  rw [Lib.toList_data] at h
  have : s.size = 0 := by rw [← ByteArray.size_data, ← Array.length_toList, h]; rfl
  omega
theorem okK_nil (l : List ByteArray) (h : l.length = 0) : okK (sortK l) = true := by
  rw [List.eq_nil_of_length_eq_zero h, sortK_small [] (by simp)]
  rfl
theorem all_nil (l : List V) (g : V → Bool) (h : l.length = 0) : l.all g = true := by
  rw [List.eq_nil_of_length_eq_zero h]; rfl
theorem empty_listV : (⟨#[]⟩ : ByteArray).toList = [] := by rw [Lib.toList_data]
theorem right_flat (v : V) (g : V → Bool) (hk : v.k = 0 ∨ v.k = 1 ∨ v.k = 2) : (headOK v && v.l.all g) = bareB v.f v.s v.l.length v.ks.length := by
  rw [Bool.eq_iff_iff, Bool.and_eq_true, headOK_iff, bareB_iff]
  constructor
  · rintro ⟨⟨_, h1, h2, h3, _, h5, _⟩, _⟩
    exact ⟨h1.resolve_left (by omega), h2.resolve_left (by omega), by omega, by omega⟩
  · rintro ⟨h1, h2, h3, h4⟩
    exact ⟨⟨by omega, Or.inr h1, Or.inr h2, Or.inr h3, Or.inl (by omega), Or.inr h4, good_empty _ h2, okK_nil _ h4⟩, all_nil _ _ h3⟩
theorem right_num (v : V) (g : V → Bool) (hk : v.k = 3) : (headOK v && v.l.all g) = bareB 0 v.s v.l.length v.ks.length := by
  rw [Bool.eq_iff_iff, Bool.and_eq_true, headOK_iff, bareB_iff]
  constructor
  · rintro ⟨⟨_, h1, h2, h3, _, h5, _⟩, _⟩
    exact ⟨rfl, h2.resolve_left (by omega), by omega, by omega⟩
  · rintro ⟨h1, h2, h3, h4⟩
    exact ⟨⟨by omega, Or.inl hk, Or.inr h2, Or.inr h3, Or.inl (by omega), Or.inr h4, good_empty _ h2, okK_nil _ h4⟩, all_nil _ _ h3⟩
theorem right_str (v : V) (g : V → Bool) (hk : v.k = 4) : (headOK v && v.l.all g) = (allGood v.s 0 && bareB v.f ⟨#[]⟩ v.l.length v.ks.length) := by
  rw [Bool.eq_iff_iff, Bool.and_eq_true, Bool.and_eq_true, headOK_iff, bareB_iff]
  constructor
  · rintro ⟨⟨_, h1, h2, h3, _, h5, h6, _⟩, _⟩
    exact ⟨h6, h1.resolve_left (by omega), empty_listV, by omega, by omega⟩
  · rintro ⟨h6, h1, h2, h3, h4⟩
    exact ⟨⟨by omega, Or.inr h1, Or.inl hk, Or.inr h3, Or.inl (by omega), Or.inr h4, h6, okK_nil _ h4⟩, all_nil _ _ h3⟩
theorem right_arr (v : V) (g : V → Bool) (hk : v.k = 5) : (headOK v && v.l.all g) = (v.l.all g && bareB v.f v.s 0 v.ks.length) := by
  rw [Bool.eq_iff_iff, Bool.and_eq_true, Bool.and_eq_true, headOK_iff, bareB_iff]
  constructor
  · rintro ⟨⟨_, h1, h2, h3, _, h5, h6, _⟩, h7⟩
    exact ⟨h7, h1.resolve_left (by omega), h2.resolve_left (by omega), rfl, by omega⟩
  · rintro ⟨h7, h1, h2, _, h4⟩
    exact ⟨⟨by omega, Or.inr h1, Or.inr h2, Or.inl (by omega), Or.inl (by omega), Or.inr h4, good_empty _ h2, okK_nil _ h4⟩, h7⟩
theorem right_obj (v : V) (g : V → Bool) (hk : v.k = 6) : (headOK v && v.l.all g) = ((decide (v.ks.length = v.l.length) && okK (sortK v.ks)) && (v.l.all g && bareB v.f v.s 0 0)) := by
  rw [Bool.eq_iff_iff, Bool.and_eq_true, Bool.and_eq_true, Bool.and_eq_true, Bool.and_eq_true, headOK_iff, bareB_iff, decide_eq_true_eq]
  constructor
  · rintro ⟨⟨_, h1, h2, h3, h4, h5, h6, h8⟩, h7⟩
    exact ⟨⟨h4.resolve_left (by omega), h8⟩, h7, h1.resolve_left (by omega), h2.resolve_left (by omega), rfl, rfl⟩
  · rintro ⟨⟨h4, h8⟩, h7, h1, h2, _, _⟩
    exact ⟨⟨by omega, Or.inr h1, Or.inr h2, Or.inl (by omega), Or.inr h4, Or.inl hk, good_empty _ h2, h8⟩, h7⟩
theorem right_none (v : V) (g : V → Bool) (hk : v.k < 0 ∨ 6 < v.k) : (headOK v && v.l.all g) = false := by
  cases h : headOK v
  · rfl
  · rw [headOK_iff] at h
    obtain ⟨⟨h1, h2⟩, _⟩ := h
    omega
set_option maxRecDepth 100000 in
set_option maxHeartbeats 1000000 in
theorem isBare_any (k : Int) (f : Nat) (s : ByteArray) (a1 : Option Addr) (n1 c1 : Nat) (a2 : Option Addr) (n2 c2 : Nat) (w : World) (_h1 : n1 ≤ 1048576) (_h2 : n2 ≤ 1048576) :
    Calls Tryz.prog 74 #[.agg #[.int .i64 k, .float .f64 f, .string s, .slice a1 n1 c1, .slice a2 n2 c2]] w fun e w' => e = .returned (.bool (bareB f s n1 n2)) ∧ Below w.heap.size w w' := by
  have hsf := run_store_float Tryz.prog
  have hb := bits_of
  go_enter Tryz.func74, Tryz.ntmps74
  go_wp2_with fail
  all_goals (go_ret; exact ⟨by first | (simp [bareB, zeroV, emptyB, *]; done) | (simp [bareB, zeroV, emptyB, *]; rw [Bool.eq_iff_iff]; simp; try omega), (Below.refl _ _).alloc (Nat.le_refl _) _⟩)
set_option maxRecDepth 100000 in
set_option maxHeartbeats 8000000 in
theorem right_any3 (m : Nat) : ∀ (v : V) (lv kv : Value) (d : Nat) (w : World), d ≤ 10000 → At w w.heap.size m v lv kv →
    Calls Tryz.prog 46 #[.agg (cellsV v lv kv), .int .i64 d] w fun e w' => e = .returned (.bool (rightV d v)) ∧ Below w.heap.size w w' := by
  induction m with
  | zero => intro v lv kv d w _ h; exact h.elim
  | succ m ih =>
    intro v lv kv d w hd h
    obtain ⟨hsm, ha, hcp, a, c, B, o, rfl, hab, hi⟩ := h.opened
    obtain ⟨A, ad, ck, rfl, hA, hac⟩ := ha.1.dest
    have hsf := run_store_float Tryz.prog
    rw [List.length_map] at ha ⊢
    have HA := Lib.hid ha
    have HI := Lib.hid hi
    have HAB := Lib.hid hab
    have HIH := Lib.hid ih
    clear ha hac hA hcp hi hab h ih
    obtain ⟨_, _, _, hss, hls, hks, hkl⟩ := hsm
    have HKL := Lib.hid hkl
    clear hkl
    obtain ⟨k, hk⟩ : ∃ k, v.k = k := ⟨_, rfl⟩
    have HK := Lib.hid hk
    unfold cellsV
    rw [hk]
    clear hk
    by_cases hd1 : d = 0
    · subst hd1
      go_enter Tryz.func46, Tryz.ntmps46
      go_wp2_with fail
      go_ret
      exact ⟨rfl, (Below.refl _ _).alloc (Nat.le_refl _) _⟩
    have hd2 : 1 ≤ d := by omega
    have HR := Lib.hid (rightV_pos hd2 v)
    have t0 : ((d : Int) == 0) = false := by simp; omega
    clear hd1
    by_cases hout : k < 0 ∨ 6 < k
    · have b0 : (k == 0) = false := by simp; omega
      have b1 : (k == 1) = false := by simp; omega
      have b2 : (k == 2) = false := by simp; omega
      have b3 : (k == 3) = false := by simp; omega
      have b4 : (k == 4) = false := by simp; omega
      have b5 : (k == 5) = false := by simp; omega
      have b6 : (k == 6) = false := by simp; omega
      have HN := Lib.hid (right_none v (fun x => rightV (d - 1) x) (by rw [HK.out]; exact hout))
      clear hout
      go_enter Tryz.func46, Tryz.ntmps46
      go_wp2_with fail
      go_ret
      exact ⟨by rw [HR.out, HN.out]; rfl, (Below.refl _ _).alloc (Nat.le_refl _) _⟩
    have hkk : (k = 0 ∨ k = 1 ∨ k = 2) ∨ k = 3 ∨ k = 4 ∨ k = 5 ∨ k = 6 := by omega
    clear hout
    rcases hkk with hf | rfl | rfl | rfl | rfl
    · have HF := Lib.hid (right_flat v (fun x => rightV (d - 1) x) (by rw [HK.out]; exact hf))
      rcases hf with rfl | rfl | rfl
      all_goals
        go_enter Tryz.func46, Tryz.ntmps46
        go_wp2_with fail
        refine (isBare_any _ _ _ _ _ _ _ _ _ _ hls hks).mono ?_
        rintro e w1 ⟨rfl, hb1⟩
        have HB1 : Hid (Below w.heap.size w w1) := Lib.hid (((Below.refl w.heap.size w).alloc (Nat.le_refl _) _).trans (hb1.mono (by simp)))
        clear hb1
        go_wp2_with fail
        go_ret
        exact ⟨by rw [HR.out, HF.out]; rfl, HB1.out⟩
    · have HF := Lib.hid (right_num v (fun x => rightV (d - 1) x) HK.out)
      go_enter Tryz.func46, Tryz.ntmps46
      go_wp2_with fail
      refine (isBare_any _ _ _ _ _ _ _ _ _ _ hls hks).mono ?_
      rintro e w1 ⟨rfl, hb1⟩
      have HB1 : Hid (Below w.heap.size w w1) := Lib.hid (((Below.refl w.heap.size w).alloc (Nat.le_refl _) _).trans (hb1.mono (by simp)))
      clear hb1
      go_wp2_with fail
      go_ret
      exact ⟨by rw [HR.out, HF.out]; rfl, HB1.out⟩
    · have HF := Lib.hid (right_str v (fun x => rightV (d - 1) x) HK.out)
      cases hv : allGood v.s 0
      · have HV := Lib.hid hv
        clear hv
        go_enter Tryz.func46, Tryz.ntmps46
        go_wp2_with fail
        refine (Valid_any _ (by omega) _).mono ?_
        rintro e w1 ⟨he, hb1⟩
        rw [HV.out] at he
        subst he
        have HB1 : Hid (Below w.heap.size w w1) := Lib.hid (((Below.refl w.heap.size w).alloc (Nat.le_refl _) _).trans (hb1.mono (by simp)))
        clear hb1
        go_wp2_with fail
        go_ret
        exact ⟨by rw [HR.out, HF.out, HV.out]; rfl, HB1.out⟩
      · have HV := Lib.hid hv
        clear hv
        go_enter Tryz.func46, Tryz.ntmps46
        go_wp2_with fail
        refine (Valid_any _ (by omega) _).mono ?_
        rintro e w1 ⟨he, hb1⟩
        rw [HV.out] at he
        subst he
        have HB1 : Hid (Below w.heap.size w w1) := Lib.hid (((Below.refl w.heap.size w).alloc (Nat.le_refl _) _).trans (hb1.mono (by simp)))
        obtain ⟨e0, e1, e2, e3, e4, z0, z1, z2, z3, z4⟩ := row5 ((hb1.block w.heap.size (by simp)).trans (heap_alloc_new w _))
        clear hb1
        go_wp2_with fail
        refine (isBare_any _ _ _ _ _ _ _ _ _ _ hls hks).mono ?_
        rintro e w3 ⟨rfl, hb3⟩
        have HB3 : Hid (Below w.heap.size w w3) := Lib.hid ((HB1.out.setCell (p := ⟨w.heap.size, 2, none⟩) (Nat.le_refl _) _).trans (hb3.mono (by have := HB1.out.size; simp; omega)))
        clear hb3
        go_wp2_with fail
        go_ret
        exact ⟨by rw [HR.out, HF.out, HV.out]; rfl, HB3.out⟩
    · have HF := Lib.hid (right_arr v (fun x => rightV (d - 1) x) HK.out)
      go_enter Tryz.func46, Tryz.ntmps46
      go_wp2_with fail
      have hrow0 := heap_alloc_new w (Obj.cells #[.int .i64 5, .float .f64 v.f, .string v.s, .slice a v.l.length c, .slice A v.ks.length ck] 27)
      have hb0 := (Below.refl w.heap.size w).alloc (Nat.le_refl _) (Obj.cells #[.int .i64 5, .float .f64 v.f, .string v.s, .slice a v.l.length c, .slice A v.ks.length ck] 27)
      have hsz0 : w.heap.size < (w.alloc (Obj.cells #[.int .i64 5, .float .f64 v.f, .string v.s, .slice a v.l.length c, .slice A v.ks.length ck] 27)).heap.size := by simp
      generalize w.alloc (Obj.cells #[.int .i64 5, .float .f64 v.f, .string v.s, .slice a v.l.length c, .slice A v.ks.length ck] 27) = W0 at hrow0 hb0 hsz0 ⊢
      have HROW := Lib.hid hrow0
      have HB0 := Lib.hid hb0
      have HSZ := Lib.hid hsz0
      clear hrow0 hb0 hsz0
      go_loopw [36] (fun i W => ∃ j : Nat, j ≤ v.l.length ∧ i = .int .i64 j ∧ (∀ t (h : t < v.l.length), t < j → rightV (d - 1) v.l[t] = true) ∧ Below W0.heap.size W0 W) (fun i _ => v.l.length - (intOf i).toNat)
      case atStart => exact ⟨0, Nat.zero_le _, rfl, fun t _ h => absurd h (by omega), Below.refl _ _⟩
      case round =>
        obtain ⟨j, hj, rfl, hok, hbel⟩ := hrel
        have HOK := Lib.hid hok
        have HBEL := Lib.hid hbel
        clear hok hbel
        by_cases hlt : j < v.l.length
        · obtain ⟨lv', kv', h5, hAt⟩ := HI.out j hlt
          obtain ⟨rfl, hBw⟩ := HAB.out (by omega)
          have hbw : Below w.heap.size w wr := HB0.out.trans (HBEL.out.mono HB0.out.size)
          obtain ⟨f0, f1, f2, f3, f4⟩ := h5.keep hBw (fun p hp => hbw.cell hp)
          obtain ⟨a1, n1, k1, a2, n2, k2, rfl, rfl⟩ := hAt.slices
          have hih := fun o => HIH.out v.l[j] _ _ (d - 1) (wr.alloc o) (by omega) (At.more (by have := hbw.size; simp; omega) _ _ _ _ (hAt.below (hbw.alloc hbw.size o)))
          have hdm : ((d - 1 : Nat) : Int) = (d : Int) - 1 := by omega
          rw [hdm] at hih
          unfold cellsV at hih
          have HIH2 := Lib.hid hih
          have HBW := Lib.hid hbw
          clear hih hdm h5 hAt hbw
          go_wp2_with fail
          refine (HIH2.out _).mono ?_
          rintro e w2 ⟨rfl, hb2⟩
          have HB2 : Hid (Below wr.heap.size wr w2) := Lib.hid (((Below.refl wr.heap.size wr).alloc (Nat.le_refl _) _).trans (hb2.mono (by simp)))
          clear hb2
          cases hr : rightV (d - 1) v.l[j]
          · have HRR := Lib.hid hr
            clear hr
            go_wp2_with fail
            go_ret
            exact ⟨by rw [HR.out, HF.out, all_false hlt HRR.out]; simp, HBW.out.trans (HB2.out.mono HBW.out.size)⟩
          · have HRR := Lib.hid hr
            clear hr
            go_wp2_with fail
            go_roundw
            case rel => exact ⟨j + 1, by omega, by go_num, fun t h ht => by by_cases e : t = j; (subst e; exact HRR.out); exact HOK.out t h (by omega), HBEL.out.trans (HB2.out.mono HBEL.out.size)⟩
            case measure => simp [intOf]; omega
        · have hrow := (HBEL.out.block w.heap.size HSZ.out).trans HROW.out
          obtain ⟨e0, e1, e2, e3, e4, z0, z1, z2, z3, z4⟩ := row5 hrow
          have hwz : w.heap.size < wr.heap.size := (Array.getElem?_eq_some_iff.1 hrow).1
          clear hrow
          go_wp2_with fail
          refine (isBare_any _ _ _ _ _ _ _ _ _ _ (by omega) (by omega)).mono ?_
          rintro e w3 ⟨rfl, hb3⟩
          have HB3 : Hid (Below w.heap.size w w3) := Lib.hid ((HB0.out.trans ((HBEL.out.mono HB0.out.size).setCell (p := ⟨w.heap.size, 3, none⟩) (Nat.le_refl _) _)).trans (hb3.mono (by simp; omega)))
          clear hb3
          go_wp2_with fail
          go_ret
          exact ⟨by rw [HR.out, HF.out, all_true (fun t h => HOK.out t h (by omega))]; simp, HB3.out⟩
    · have HF := Lib.hid (right_obj v (fun x => rightV (d - 1) x) HK.out)
      have hrk := fun W hW => rightKeys_any v.ks (.slice A v.ks.length ck) a v.l.length c 6 v.f v.s W hks HKL.out hls hW
      obtain ⟨kb, hkb⟩ : ∃ kb, (decide (v.ks.length = v.l.length) && okK (sortK v.ks)) = kb := ⟨_, rfl⟩
      rw [hkb] at hrk HF
      have HRK := Lib.hid hrk
      clear hrk hkb
      go_enter Tryz.func46, Tryz.ntmps46
      go_wp2_with fail
      refine (HRK.out _ (KeysAt.more (HA.out.below ((Below.refl w.heap.size w).alloc (Nat.le_refl _) _)) (by simp))).mono ?_
      rintro e w1 ⟨rfl, hb1⟩
      have hb01 : Below w.heap.size w w1 := ((Below.refl w.heap.size w).alloc (Nat.le_refl _) _).trans (hb1.mono (by simp))
      cases kb
      · have HB1 := Lib.hid hb01
        clear hb1 hb01
        go_wp2_with fail
        go_ret
        exact ⟨by rw [HR.out, HF.out]; rfl, HB1.out⟩
      have hrow1 := (hb1.block w.heap.size (by simp)).trans (heap_alloc_new w _)
      obtain ⟨e0, e1, e2, e3, e4, z0, z1, z2, z3, z4⟩ := row5 hrow1
      have hrow0 := row_setAt hrow1 4 (.slice none 0 0)
      have hb0 := hb01.setCell (p := ⟨w.heap.size, 4, none⟩) (Nat.le_refl _) (.slice none 0 0)
      have hsz0 : w.heap.size < (w1.setCell ⟨w.heap.size, 4, none⟩ (.slice none 0 0)).heap.size := by simp; exact (Array.getElem?_eq_some_iff.1 hrow1).1
      clear hb1 hb01 hrow1
      have HROW' := Lib.hid hrow0
      have HB0' := Lib.hid hb0
      have HSZ' := Lib.hid hsz0
      clear hrow0 hb0 hsz0
      go_wp2_with fail
      have hrow0 := HROW'.out
      have hb0 := HB0'.out
      have hsz0 := HSZ'.out
      clear e0 e1 e2 e3 e4 z0 z1 z2 z3 z4 HROW' HB0' HSZ'
      generalize w1.setCell ⟨w.heap.size, 4, none⟩ (.slice none 0 0) = W0 at hrow0 hb0 hsz0 ⊢
      have HROW : Hid (W0.heap[w.heap.size]? = some (.cells #[.int .i64 6, .float .f64 v.f, .string v.s, .slice a v.l.length c, .slice none 0 0] 27 (0, 0))) := Lib.hid hrow0
      have HB0 := Lib.hid hb0
      have HSZ := Lib.hid hsz0
      clear hrow0 hb0 hsz0
      go_loopw [36] (fun i W => ∃ j : Nat, j ≤ v.l.length ∧ i = .int .i64 j ∧ (∀ t (h : t < v.l.length), t < j → rightV (d - 1) v.l[t] = true) ∧ Below W0.heap.size W0 W) (fun i _ => v.l.length - (intOf i).toNat)
      case atStart => exact ⟨0, Nat.zero_le _, rfl, fun t _ h => absurd h (by omega), Below.refl _ _⟩
      case round =>
        obtain ⟨j, hj, rfl, hok, hbel⟩ := hrel
        have HOK := Lib.hid hok
        have HBEL := Lib.hid hbel
        clear hok hbel
        by_cases hlt : j < v.l.length
        · obtain ⟨lv', kv', h5, hAt⟩ := HI.out j hlt
          obtain ⟨rfl, hBw⟩ := HAB.out (by omega)
          have hbw : Below w.heap.size w wr := HB0.out.trans (HBEL.out.mono HB0.out.size)
          obtain ⟨f0, f1, f2, f3, f4⟩ := h5.keep hBw (fun p hp => hbw.cell hp)
          obtain ⟨a1, n1, k1, a2, n2, k2, rfl, rfl⟩ := hAt.slices
          have hih := fun o => HIH.out v.l[j] _ _ (d - 1) (wr.alloc o) (by omega) (At.more (by have := hbw.size; simp; omega) _ _ _ _ (hAt.below (hbw.alloc hbw.size o)))
          have hdm : ((d - 1 : Nat) : Int) = (d : Int) - 1 := by omega
          rw [hdm] at hih
          unfold cellsV at hih
          have HIH2 := Lib.hid hih
          have HBW := Lib.hid hbw
          clear hih hdm h5 hAt hbw
          go_wp2_with fail
          refine (HIH2.out _).mono ?_
          rintro e w2 ⟨rfl, hb2⟩
          have HB2 : Hid (Below wr.heap.size wr w2) := Lib.hid (((Below.refl wr.heap.size wr).alloc (Nat.le_refl _) _).trans (hb2.mono (by simp)))
          clear hb2
          cases hr : rightV (d - 1) v.l[j]
          · have HRR := Lib.hid hr
            clear hr
            go_wp2_with fail
            go_ret
            exact ⟨by rw [HR.out, HF.out, all_false hlt HRR.out]; simp, HBW.out.trans (HB2.out.mono HBW.out.size)⟩
          · have HRR := Lib.hid hr
            clear hr
            go_wp2_with fail
            go_roundw
            case rel => exact ⟨j + 1, by omega, by go_num, fun t h ht => by by_cases e : t = j; (subst e; exact HRR.out); exact HOK.out t h (by omega), HBEL.out.trans (HB2.out.mono HBEL.out.size)⟩
            case measure => simp [intOf]; omega
        · have hrow := (HBEL.out.block w.heap.size HSZ.out).trans HROW.out
          obtain ⟨e0, e1, e2, e3, e4, z0, z1, z2, z3, z4⟩ := row5 hrow
          have hwz : w.heap.size < wr.heap.size := (Array.getElem?_eq_some_iff.1 hrow).1
          clear hrow
          go_wp2_with fail
          refine (isBare_any _ _ _ _ _ _ _ _ _ _ (by omega) (by omega)).mono ?_
          rintro e w3 ⟨rfl, hb3⟩
          have HB3 : Hid (Below w.heap.size w w3) := Lib.hid ((HB0.out.trans ((HBEL.out.mono HB0.out.size).setCell (p := ⟨w.heap.size, 3, none⟩) (Nat.le_refl _) _)).trans (hb3.mono (by simp; omega)))
          clear hb3
          go_wp2_with fail
          go_ret
          exact ⟨by rw [HR.out, HF.out, all_true (fun t h => HOK.out t h (by omega))]; simp, HB3.out⟩
end Go.Proofs.YtdlighmnlcklnaaGreatDoor

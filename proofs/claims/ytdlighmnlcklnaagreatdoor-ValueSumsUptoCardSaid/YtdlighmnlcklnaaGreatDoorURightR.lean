/- The document's right. -/
import Derived.Test.YtdlighmnlcklnaaGreatDoorUKeys
import Derived.Test.YtdlighmnlcklnaaGreatDoorUBase
namespace Go.Proofs.YtdlighmnlcklnaaGreatDoor
open Go Go.RowKit

def emptyB (s : ByteArray) : Bool := s.toList.isEmpty
/-- What a value must be by itself. -/
def headOK (v : V) : Bool :=
  decide (0 ≤ v.k) && decide (v.k ≤ 6) && (v.k == 3 || zeroV v.f) && (v.k == 4 || emptyB v.s) && (decide (5 ≤ v.k) || decide (v.l.length = 0)) && (v.k != 6 || decide (v.ks.length = v.l.length)) && (v.k == 6 || decide (v.ks.length = 0)) && allGood v.s 0 && okK (sortK v.ks)
def rightV : Nat → V → Bool
  | 0, _ => false
  | d + 1, v => headOK v && v.l.all (fun x => rightV d x)
theorem rightV_pos {d : Nat} (hd : 1 ≤ d) (v : V) : rightV d v = (headOK v && v.l.all (fun x => rightV (d - 1) x)) := by
  obtain ⟨e, rfl⟩ : ∃ e, d = e + 1 := ⟨d - 1, by omega⟩
  rfl
theorem headOK_iff (v : V) : headOK v = true ↔ (0 ≤ v.k ∧ v.k ≤ 6) ∧ (v.k = 3 ∨ zeroV v.f = true) ∧ (v.k = 4 ∨ v.s.toList = []) ∧ (5 ≤ v.k ∨ v.l.length = 0) ∧ (v.k ≠ 6 ∨ v.ks.length = v.l.length) ∧ (v.k = 6 ∨ v.ks.length = 0) ∧ allGood v.s 0 = true ∧ okK (sortK v.ks) = true := by
  unfold headOK emptyB
  simp only [Bool.and_eq_true, Bool.or_eq_true, decide_eq_true_eq, beq_iff_eq, bne_iff_ne, List.isEmpty_iff, and_assoc]
theorem all_false {f : V → Bool} {l : List V} {j : Nat} (hj : j < l.length) (h : f l[j] = false) : l.all f = false := by
  rw [List.all_eq_false]
  exact ⟨l[j], List.getElem_mem hj, by simp [h]⟩
theorem all_true {f : V → Bool} {l : List V} (h : ∀ t (h : t < l.length), f l[t] = true) : l.all f = true := by
  rw [List.all_eq_true]
  intro x hx
  obtain ⟨t, ht, rfl⟩ := List.getElem_of_mem hx
  exact h t ht
set_option maxRecDepth 100000 in
set_option maxHeartbeats 8000000 in
theorem refRight_any3 (m : Nat) : ∀ (v : V) (lv kv : Value) (d : Nat) (w : World), d ≤ 10000 → At w w.heap.size m v lv kv →
    Calls Tryz.prog 12 #[.agg (cellsV v lv kv), .int .i64 d] w fun e w' => e = .returned (.bool (rightV d v)) ∧ Below w.heap.size w w' := by
  induction m with
  | zero => intro v lv kv d w _ h; exact h.elim
  | succ m ih =>
    intro v lv kv d w hd h
    obtain ⟨hsm, ha, hcp, a, c, B, o, rfl, hab, hi⟩ := h.opened
    obtain ⟨A, ad, ck, rfl, hA, hac⟩ := ha.1.dest
    have hsf := run_store_float Tryz.prog
    rw [List.length_map] at ha ⊢
    have HA := Lib.hid ha
    have HI := Lib.hid hi
    have HAB := Lib.hid hab
    have HIH := Lib.hid ih
    clear ha hac hA hcp hi hab h ih
    obtain ⟨_, _, _, hss, hls, hks, hkl⟩ := hsm
    have HKL := Lib.hid hkl
    clear hkl
    obtain ⟨k, hk⟩ : ∃ k, v.k = k := ⟨_, rfl⟩
    have HK := Lib.hid hk
    have hkv := fun W hW => refKeys_any v.ks (.slice A v.ks.length ck) W hks HKL.out hW
    have HKV := Lib.hid hkv
    unfold cellsV
    rw [hk]
    clear hk hkv
    by_cases hd1 : d < 1
    · obtain rfl : d = 0 := by omega
      go_enter Tryz.func12, Tryz.ntmps12
      go_wp2_with fail
      go_ret
      exact ⟨rfl, (Below.refl _ _).alloc (Nat.le_refl _) _⟩
    have hd2 : 1 ≤ d := by omega
    have HR := Lib.hid (rightV_pos hd2 v)
    have t0 : decide ((d : Int) < 1) = false := by simp; omega
    have t0' : decide (d < 1) = false := by simp; omega
    clear hd1
    by_cases k0 : k < 0
    · go_enter Tryz.func12, Tryz.ntmps12
      go_wp2_with fail
      go_ret
      exact ⟨by rw [HR.out]; simp [headOK, HK.out]; omega, (Below.refl _ _).alloc (Nat.le_refl _) _⟩
    by_cases k6 : 6 < k
    · go_enter Tryz.func12, Tryz.ntmps12
      go_wp2_with fail
      go_ret
      exact ⟨by rw [HR.out]; simp [headOK, HK.out]; omega, (Below.refl _ _).alloc (Nat.le_refl _) _⟩
    have hkk : k = 0 ∨ k = 1 ∨ k = 2 ∨ k = 3 ∨ k = 4 ∨ k = 5 ∨ k = 6 := by omega
    clear k0 k6
    rcases hkk with rfl | rfl | rfl | rfl | rfl | rfl | rfl
    all_goals
      go_enter Tryz.func12, Tryz.ntmps12
      go_wp2_with (first
        | (go_at_call 36; refine (refZero_any _ _).mono ?_; rintro e w' ⟨rfl, rfl⟩)
        | (go_at_call 37; refine (refValid_any _ (by omega) _).mono ?_; rintro e w' ⟨rfl, rfl⟩)
        | (go_at_call 38; refine (HKV.out _ (KeysAt.more (HA.out.below ((Below.refl w.heap.size w).alloc (Nat.le_refl _) _)) (by simp))).mono ?_; rintro e w1 ⟨rfl, hb1⟩))
      all_goals (first
        | (go_ret
           have hhead : headOK v = false := by
             cases hh : headOK v
             · rfl
             · exfalso
               rw [headOK_iff, HK.out] at hh
               obtain ⟨_, p1, p2, p3, p4, p5, p6, p7⟩ := hh
               first
                 | omega
                 | (simp_all; done)
                 | (simp_all; omega)
           first
             | exact ⟨by rw [HR.out, hhead]; rfl, (Below.refl _ _).alloc (Nat.le_refl _) _⟩
             | exact ⟨by rw [HR.out, hhead]; rfl, ((Below.refl _ _).alloc (Nat.le_refl _) _).trans (hb1.mono (by simp))⟩)
        | skip)
      all_goals
        have hhead : headOK v = true := by
          rw [headOK_iff, HK.out]
          refine ⟨⟨by omega, by omega⟩, ?_, ?_, ?_, ?_, ?_, ?_, ?_⟩
          all_goals first
            | assumption
            | exact Or.inl (by omega)
            | exact Or.inr (by assumption)
            | exact Or.inr (by omega)
            | (simp_all; done)
        have hres : rightV d v = v.l.all (fun x => rightV (d - 1) x) := by rw [HR.out, hhead]; rfl
        have HRES := Lib.hid hres
        have HB1 : Hid (Below w.heap.size w w1) := Lib.hid (((Below.refl _ _).alloc (Nat.le_refl _) _).trans (hb1.mono (by simp)))
        have hx3 : w1.cell? ⟨w.heap.size, 3, none⟩ = some (.slice a v.l.length c) := (hb1.cell (p := ⟨w.heap.size, 3, none⟩) (by simp)).trans (by go_simp)
        have hsz1 : w.heap.size < w1.heap.size := by have := hb1.size; simp at this; omega
        have HX3 := Lib.hid hx3
        clear hres hhead hb1 hx3
        try (rename v.s.toList = [] => hq; clear hq)
        try (rename zeroV v.f = true => hq; clear hq)
        try (rename allGood v.s 0 = true => hq; clear hq)
        try (rename (!okK (sortK v.ks)) = false => hq; clear hq)
        try (rename (v.ks.length : Int) = v.l.length => hq; clear hq)
        go_loopw [5] (fun i W => ∃ j : Nat, j ≤ v.l.length ∧ i = .int .i64 j ∧ (∀ t (h : t < v.l.length), t < j → rightV (d - 1) v.l[t] = true) ∧ Below w1.heap.size w1 W) (fun i _ => v.l.length - (intOf i).toNat)
        case atStart => exact ⟨0, Nat.zero_le _, rfl, fun t _ h => absurd h (by omega), Below.refl _ _⟩
        case round =>
          obtain ⟨j, hj, rfl, hok, hbel⟩ := hrel
          have HOK := Lib.hid hok
          have HBEL := Lib.hid hbel
          have hx3 : wr.cell? ⟨w.heap.size, 3, none⟩ = some (.slice a v.l.length c) := (hbel.cell (p := ⟨w.heap.size, 3, none⟩) hsz1).trans HX3.out
          clear hok hbel
          by_cases hlt : j < v.l.length
          · first
              | (exfalso; omega)
              | skip
            all_goals
              obtain ⟨lv', kv', h5, hAt⟩ := HI.out j hlt
              obtain ⟨rfl, hBw⟩ := HAB.out (by omega)
              have hbw : Below w.heap.size w wr := HB1.out.trans (HBEL.out.mono HB1.out.size)
              obtain ⟨f0, f1, f2, f3, f4⟩ := h5.keep hBw (fun p hp => hbw.cell hp)
              obtain ⟨a1, n1, k1, a2, n2, k2, rfl, rfl⟩ := hAt.slices
              have hih := HIH.out v.l[j] _ _ (d - 1) wr (by omega) (At.more hbw.size _ _ _ _ (hAt.below hbw))
              have hdm : ((d - 1 : Nat) : Int) = (d : Int) - 1 := by omega
              rw [hdm] at hih
              unfold cellsV at hih
              have HIH2 := Lib.hid hih
              have HBW := Lib.hid hbw
              clear hih hdm h5 hAt hbw
              go_wp2_with fail
              refine HIH2.out.mono ?_
              rintro e w2 ⟨rfl, hb2⟩
              have HB2 := Lib.hid hb2
              clear hb2
              cases hr : rightV (d - 1) v.l[j]
              · have HRR := Lib.hid hr
                clear hr
                go_wp2_with fail
                go_ret
                exact ⟨by rw [HRES.out, all_false hlt HRR.out]; rfl, HBW.out.trans (HB2.out.mono HBW.out.size)⟩
              · have HRR := Lib.hid hr
                clear hr
                go_wp2_with fail
                go_roundw
                case rel => exact ⟨j + 1, by omega, by go_num, fun t h ht => by by_cases e : t = j; (subst e; exact HRR.out); exact HOK.out t h (by omega), HBEL.out.trans (HB2.out.mono HBEL.out.size)⟩
                case measure => simp [intOf]; omega
          · go_wp2_with fail
            go_ret
            exact ⟨by rw [HRES.out, all_true (fun t h => HOK.out t h (by omega))]; rfl, HB1.out.trans (HBEL.out.mono HB1.out.size)⟩
end Go.Proofs.YtdlighmnlcklnaaGreatDoor

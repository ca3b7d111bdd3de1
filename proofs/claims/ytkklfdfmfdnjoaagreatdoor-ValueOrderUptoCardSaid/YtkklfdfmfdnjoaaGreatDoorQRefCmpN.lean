/- The document's Compare: where kinds differ, numbers, strings, arrays. -/
import Derived.Test.YtkklfdfmfdnjoaaGreatDoorQRefCmp
namespace Go.Proofs.YtkklfdfmfdnjoaaGreatDoor
open Go Go.RowKit

set_option maxRecDepth 100000 in
set_option maxHeartbeats 1000000 in
theorem refCompare_kinds (k1 k2 : Int) (f1 f2 : Nat) (s1 s2 : ByteArray) (a1 a2 a3 a4 : Option Addr) (n1 n2 n3 n4 c1 c2 c3 c4 : Nat) (hk : k1 ≠ k2) (w : World) :
    Calls Tryz.prog 21 #[.agg #[.int .i64 k1, .float .f64 f1, .string s1, .slice a1 n1 c1, .slice a2 n2 c2], .agg #[.int .i64 k2, .float .f64 f2, .string s2, .slice a3 n3 c3, .slice a4 n4 c4]] w fun e w' => e = .returned (.int .i64 (cmpI k1 k2)) ∧ Below w.heap.size w w' := by
  have hsf := run_store_float Tryz.prog
  obtain ⟨i0, hi0, hz0, hz1, hz2⟩ := info_parts infoVal
  obtain ⟨r, hr⟩ : ∃ r, cmpI k1 k2 = r := ⟨_, rfl⟩
  rw [hr]
  by_cases hl : k1 < k2
  · have hr' : r = -1 := by rw [← hr]; unfold cmpI; rw [if_pos hl]
    have HR := Lib.hid hr'
    have hd : decide (k1 < k2) = true := decide_eq_true hl
    clear hr hr'
    go_enter Tryz.func21, Tryz.ntmps21
    go_wp2_with fail
    refine (sign_any _ _ _).mono ?_
    rintro e w1 ⟨rfl, rfl⟩
    go_wp2_with fail
    go_ret
    exact ⟨by rw [HR.out]; rfl, ((Below.refl w.heap.size w).alloc (Nat.le_refl _) _).alloc (by simp) _⟩
  · have hr' : r = 1 := by rw [← hr]; unfold cmpI; rw [if_neg hl, if_pos (by omega)]
    have HR := Lib.hid hr'
    have hd : decide (k1 < k2) = false := decide_eq_false hl
    clear hr hr'
    go_enter Tryz.func21, Tryz.ntmps21
    go_wp2_with fail
    refine (sign_any _ _ _).mono ?_
    rintro e w1 ⟨rfl, rfl⟩
    go_wp2_with fail
    go_ret
    exact ⟨by rw [HR.out]; rfl, ((Below.refl w.heap.size w).alloc (Nat.le_refl _) _).alloc (by simp) _⟩
set_option maxRecDepth 100000 in
set_option maxHeartbeats 1000000 in
theorem refCompare_low (k : Int) (hk : k = 0 ∨ k = 1 ∨ k = 2) (f1 f2 : Nat) (s1 s2 : ByteArray) (a1 a2 a3 a4 : Option Addr) (n1 n2 n3 n4 c1 c2 c3 c4 : Nat) (w : World) :
    Calls Tryz.prog 21 #[.agg #[.int .i64 k, .float .f64 f1, .string s1, .slice a1 n1 c1, .slice a2 n2 c2], .agg #[.int .i64 k, .float .f64 f2, .string s2, .slice a3 n3 c3, .slice a4 n4 c4]] w fun e w' => e = .returned (.int .i64 0) ∧ Below w.heap.size w w' := by
  have hsf := run_store_float Tryz.prog
  obtain ⟨i0, hi0, hz0, hz1, hz2⟩ := info_parts infoVal
  rcases hk with rfl | rfl | rfl
  all_goals
    go_enter Tryz.func21, Tryz.ntmps21
    go_wp2_with fail
    go_ret
    exact ⟨rfl, ((Below.refl w.heap.size w).alloc (Nat.le_refl _) _).alloc (by simp) _⟩
set_option maxRecDepth 100000 in
set_option maxHeartbeats 2000000 in
theorem refCompare_num (f1 f2 : Nat) (s1 s2 : ByteArray) (a1 a2 a3 a4 : Option Addr) (n1 n2 n3 n4 c1 c2 c3 c4 : Nat) (w : World) :
    Calls Tryz.prog 21 #[.agg #[.int .i64 3, .float .f64 f1, .string s1, .slice a1 n1 c1, .slice a2 n2 c2], .agg #[.int .i64 3, .float .f64 f2, .string s2, .slice a3 n3 c3, .slice a4 n4 c4]] w fun e w' => e = .returned (.int .i64 (cmpB f1 f2)) ∧ Below w.heap.size w w' := by
  have hsf := run_store_float Tryz.prog
  obtain ⟨i0, hi0, hz0, hz1, hz2⟩ := info_parts infoVal
  obtain ⟨r, hr⟩ : ∃ r, cmpB f1 f2 = r := ⟨_, rfl⟩
  rw [hr]
  have hn1 := eq_self f1
  have hn2 := eq_self f2
  by_cases h1 : 9218868437227405312 < szB f1
  · rw [decide_eq_true h1] at hn1
    have hr' : r = -1 := by rw [← hr]; unfold cmpB; rw [if_pos h1]
    have HR := Lib.hid hr'
    clear hr hr' h1 hn2
    go_enter Tryz.func21, Tryz.ntmps21
    go_wp2_with fail
    go_ret
    exact ⟨by rw [HR.out]; rfl, ((Below.refl w.heap.size w).alloc (Nat.le_refl _) _).alloc (by simp) _⟩
  · rw [decide_eq_false h1] at hn1
    by_cases h2 : 9218868437227405312 < szB f2
    · rw [decide_eq_true h2] at hn2
      have ho := ordF_nan f1 f2 (.inr h2)
      have hl : (FloatKind.f64.format.order f1 f2 == some .lt) = false := by rw [ho]; rfl
      have hg : (FloatKind.f64.format.order f1 f2 == some .gt) = false := by rw [ho]; rfl
      have hr' : r = 1 := by rw [← hr]; unfold cmpB; rw [if_neg h1, if_pos h2]
      have HR := Lib.hid hr'
      clear hr hr' h1 h2 ho
      go_enter Tryz.func21, Tryz.ntmps21
      go_wp2_with fail
      refine (sign_any _ _ _).mono ?_
      rintro e w1 ⟨rfl, rfl⟩
      go_wp2_with fail
      go_ret
      exact ⟨by rw [HR.out]; rfl, ((Below.refl w.heap.size w).alloc (Nat.le_refl _) _).alloc (by simp) _⟩
    · rw [decide_eq_false h2] at hn2
      have hb' : szB f2 ≤ 9218868437227405312 := Nat.le_of_not_lt h2
      have ha' : szB f1 ≤ 9218868437227405312 := Nat.le_of_not_lt h1
      have hl : (FloatKind.f64.format.order f1 f2 == some .lt) = decide (sv f1 < sv f2) := by rw [lt_cmp _ _ hb', decide_eq_decide]; exact ⟨fun h => h.2, fun h => ⟨ha', h⟩⟩
      have hg : (FloatKind.f64.format.order f1 f2 == some .gt) = decide (sv f2 < sv f1) := by rw [gt_cmp _ _ hb', decide_eq_decide]; exact ⟨fun h => h.2, fun h => ⟨ha', h⟩⟩
      have hr2 : (if sv f1 < sv f2 then (-1 : Int) else if sv f2 < sv f1 then 1 else 0) = r := by rw [← hr]; unfold cmpB; rw [if_neg h1, if_neg h2]
      have htri : (sv f1 < sv f2) ∨ (sv f1 = sv f2) ∨ (sv f2 < sv f1) := by omega
      rcases htri with q | q | q
      · rw [decide_eq_true q] at hl
        rw [decide_eq_false (by omega)] at hg
        rw [if_pos q] at hr2
        have HR := Lib.hid hr2
        clear hr hr2 h1 h2 ha' hb' q
        go_enter Tryz.func21, Tryz.ntmps21
        go_wp2_with fail
        refine (sign_any _ _ _).mono ?_
        rintro e w1 ⟨rfl, rfl⟩
        go_wp2_with fail
        go_ret
        exact ⟨by rw [← HR.out]; rfl, ((Below.refl w.heap.size w).alloc (Nat.le_refl _) _).alloc (by simp) _⟩
      · rw [decide_eq_false (by omega)] at hl
        rw [decide_eq_false (by omega)] at hg
        rw [if_neg (by omega), if_neg (by omega)] at hr2
        have HR := Lib.hid hr2
        clear hr hr2 h1 h2 ha' hb' q
        go_enter Tryz.func21, Tryz.ntmps21
        go_wp2_with fail
        refine (sign_any _ _ _).mono ?_
        rintro e w1 ⟨rfl, rfl⟩
        go_wp2_with fail
        go_ret
        exact ⟨by rw [← HR.out]; rfl, ((Below.refl w.heap.size w).alloc (Nat.le_refl _) _).alloc (by simp) _⟩
      · rw [decide_eq_false (by omega)] at hl
        rw [decide_eq_true q] at hg
        rw [if_neg (by omega), if_pos q] at hr2
        have HR := Lib.hid hr2
        clear hr hr2 h1 h2 ha' hb' q
        go_enter Tryz.func21, Tryz.ntmps21
        go_wp2_with fail
        refine (sign_any _ _ _).mono ?_
        rintro e w1 ⟨rfl, rfl⟩
        go_wp2_with fail
        go_ret
        exact ⟨by rw [← HR.out]; rfl, ((Below.refl w.heap.size w).alloc (Nat.le_refl _) _).alloc (by simp) _⟩
set_option maxRecDepth 100000 in
set_option maxHeartbeats 2000000 in
theorem refCompare_str (f1 f2 : Nat) (s1 s2 : ByteArray) (a1 a2 a3 a4 : Option Addr) (n1 n2 n3 n4 c1 c2 c3 c4 : Nat) (w : World) :
    Calls Tryz.prog 21 #[.agg #[.int .i64 4, .float .f64 f1, .string s1, .slice a1 n1 c1, .slice a2 n2 c2], .agg #[.int .i64 4, .float .f64 f2, .string s2, .slice a3 n3 c3, .slice a4 n4 c4]] w fun e w' => e = .returned (.int .i64 (cmpS s1 s2)) ∧ Below w.heap.size w w' := by
  have hsf := run_store_float Tryz.prog
  obtain ⟨i0, hi0, hz0, hz1, hz2⟩ := info_parts infoVal
  have hl := bytesLess_is s1.toList s2.toList
  have hg := bytesLess_is s2.toList s1.toList
  rw [Lib.toList_data, Lib.toList_data] at hl hg
  have hr := cmpS_is s1 s2
  generalize cmpS s1 s2 = r at hr ⊢
  by_cases h1 : s1.data.toList < s2.data.toList
  · rw [if_pos h1] at hr
    have h2 : ¬ s2.data.toList < s1.data.toList := fun h => List.lt_irrefl _ (List.lt_trans h1 h)
    rw [decide_eq_true h1] at hl
    rw [decide_eq_false h2] at hg
    rw [← Lib.toList_data, ← Lib.toList_data] at hl hg
    have HR := Lib.hid hr
    clear hr h1 h2
    go_enter Tryz.func21, Tryz.ntmps21
    go_wp2_with fail
    refine (sign_any _ _ _).mono ?_
    rintro e w1 ⟨rfl, rfl⟩
    go_wp2_with fail
    go_ret
    exact ⟨by rw [HR.out]; rfl, ((Below.refl w.heap.size w).alloc (Nat.le_refl _) _).alloc (by simp) _⟩
  · rw [if_neg h1] at hr
    rw [decide_eq_false h1] at hl
    by_cases h2 : s2.data.toList < s1.data.toList
    · rw [if_pos h2] at hr
      rw [decide_eq_true h2] at hg
      rw [← Lib.toList_data, ← Lib.toList_data] at hl hg
      have hne : ¬ s1.toList = s2.toList := fun e => by rw [Lib.toList_data, Lib.toList_data] at e; rw [e] at h2; exact List.lt_irrefl _ h2
      have HR := Lib.hid hr
      clear hr h1 h2
      go_enter Tryz.func21, Tryz.ntmps21
      go_wp2_with fail
      refine (sign_any _ _ _).mono ?_
      rintro e w1 ⟨rfl, rfl⟩
      go_wp2_with fail
      go_ret
      exact ⟨by rw [HR.out]; rfl, ((Below.refl w.heap.size w).alloc (Nat.le_refl _) _).alloc (by simp) _⟩
    · rw [if_neg h2] at hr
      have hee : s1 = s2 := toList_inj (List.le_antisymm (List.not_lt.1 h2) (List.not_lt.1 h1))
      subst hee
      rw [← Lib.toList_data] at hl
      have HR := Lib.hid hr
      clear hr h1 h2 hg
      go_enter Tryz.func21, Tryz.ntmps21
      go_wp2_with fail
      refine (sign_any _ _ _).mono ?_
      rintro e w1 ⟨rfl, rfl⟩
      go_wp2_with fail
      go_ret
      exact ⟨by rw [HR.out]; rfl, ((Below.refl w.heap.size w).alloc (Nat.le_refl _) _).alloc (by simp) _⟩
set_option maxRecDepth 100000 in
set_option maxHeartbeats 2000000 in
theorem refCompare_arr (m : Nat) (ih : RefC m) (x y : List V) (d1 d2 : Nat) (hr1 : ∀ i (h : i < x.length), rightV d1 x[i] = true) (hr2 : ∀ i (h : i < y.length), rightV d2 y[i] = true) (a1 a2 : Option Addr) (c1 c2 : Nat) (f1 f2 : Nat) (s1 s2 : ByteArray) (a3 a4 : Option Addr) (n3 n4 c3 c4 : Nat) (w : World)
    (hx : RowAt w w.heap.size m a1 x) (hy : RowAt w w.heap.size m a2 y) (hxl : x.length ≤ 1048576) (hyl : y.length ≤ 1048576) :
    Calls Tryz.prog 21 #[.agg #[.int .i64 5, .float .f64 f1, .string s1, .slice a1 x.length c1, .slice a3 n3 c3], .agg #[.int .i64 5, .float .f64 f2, .string s2, .slice a2 y.length c2, .slice a4 n4 c4]] w fun e w' => e = .returned (.int .i64 (cmpRow (cmpV m) x y)) ∧ Below w.heap.size w w' := by
  have hsf := run_store_float Tryz.prog
  obtain ⟨i0, hi0, hz0, hz1, hz2⟩ := info_parts infoVal
  have hli := fun W (hb : Below w.heap.size w W) => refLists_any m ih x y d1 d2 hr1 hr2 a1 a2 c1 c2 hxl hyl W ((hx.below hb).more hb.size) ((hy.below hb).more hb.size)
  generalize cmpRow (cmpV m) x y = r at hli ⊢
  have HLI := Lib.hid hli
  clear hli ih hr1 hr2 hx hy
  go_enter Tryz.func21, Tryz.ntmps21
  go_wp2_with fail
  refine (HLI.out _ (((Below.refl w.heap.size w).alloc (Nat.le_refl _) _).alloc (by simp) _)).mono ?_
  rintro e w1 ⟨rfl, hb1⟩
  have HB1 : Hid (Below w.heap.size w w1) := Lib.hid ((((Below.refl w.heap.size w).alloc (Nat.le_refl _) _).alloc (by simp) _).trans (hb1.mono (by simp; omega)))
  clear hb1
  go_wp2_with fail
  go_ret
  exact ⟨rfl, HB1.out⟩
end Go.Proofs.YtkklfdfmfdnjoaaGreatDoor

/- The heads of layer 3: the operators. -/
import Derived.Test.YtdlighmnlcklnaaGreatDoorUHeadsA
import Derived.Test.YtdlighmnlcklnaaGreatDoorUText
import Derived.Test.YtdlighmnlcklnaaGreatDoorURunes
namespace Go.Proofs.YtdlighmnlcklnaaGreatDoor
open Go Go.RowKit

set_option maxRecDepth 100000 in
set_option maxHeartbeats 1000000 in
theorem both_any (k : Int) (k1 k2 : Int) (f1 f2 : Nat) (s1 s2 : ByteArray) (a1 a2 a3 a4 : Option Addr) (n1 n2 n3 n4 c1 c2 c3 c4 : Nat) (w : World) :
    Calls Tryz.prog 82 #[.int .i64 k, .agg #[.int .i64 k1, .float .f64 f1, .string s1, .slice a1 n1 c1, .slice a2 n2 c2], .agg #[.int .i64 k2, .float .f64 f2, .string s2, .slice a3 n3 c3, .slice a4 n4 c4]] w fun e w' => e = .returned (.bool (k1 == k && k2 == k)) ∧ Below w.heap.size w w' := by
  have hsf := run_store_float Tryz.prog
  cases h1 : (k1 == k)
  · go_enter Tryz.func82, Tryz.ntmps82
    go_wp2_with fail
    go_ret
    exact ⟨rfl, ((Below.refl w.heap.size w).alloc (Nat.le_refl _) _).alloc (by simp) _⟩
  · go_enter Tryz.func82, Tryz.ntmps82
    go_wp2_with fail
    go_ret
    exact ⟨rfl, ((Below.refl w.heap.size w).alloc (Nat.le_refl _) _).alloc (by simp) _⟩
set_option maxRecDepth 100000 in
set_option maxHeartbeats 1000000 in
theorem numberOf_any (f : Nat) (w : World) : Calls Tryz.prog 83 #[.float .f64 f] w fun e w' => e = .returned (.tuple #[.agg #[.int .i64 3, .float .f64 f, .string ⟨#[]⟩, .slice none 0 0, .slice none 0 0], .agg okA]) ∧ Below w.heap.size w w' := by
  have hsf := run_store_float Tryz.prog
  go_enter Tryz.func83, Tryz.ntmps83
  go_wp2_with fail
  obtain ⟨q1, q2⟩ := two_new w (.cells #[.int .i64 3, .float .f64 f, .string ⟨#[]⟩, .slice none 0 0, .slice none 0 0] 27) (.cells okA 31)
  refine bodyPost_ret_by (results_two_rows rfl _ _ w.heap.size (w.heap.size + 1) 27 31 _ okA (0, 0) (0, 0) _ _ rfl rfl q1 q2 Tryz.underlying27 rfl sizeVal Tryz.underlying31 rfl infoErr) rfl ?_
  exact ⟨rfl, ((Below.refl w.heap.size w).alloc (Nat.le_refl _) _).alloc (by simp) _⟩
set_option maxRecDepth 100000 in
set_option maxHeartbeats 4000000 in
theorem byZero_any (ta tb : ByteArray) (k1 k2 : Int) (f1 f2 : Nat) (s1 s2 : ByteArray) (a1 a2 a3 a4 : Option Addr) (n1 n2 n3 n4 c1 c2 c3 c4 : Nat) (w : World)
    (hta : ∀ W, Below w.heap.size w W → Calls Tryz.prog 117 #[.agg #[.int .i64 k1, .float .f64 f1, .string s1, .slice a1 n1 c1, .slice a2 n2 c2]] W fun e w' => e = .returned (.string ta) ∧ Below W.heap.size W w')
    (htb : ∀ W, Below w.heap.size w W → Calls Tryz.prog 117 #[.agg #[.int .i64 k2, .float .f64 f2, .string s2, .slice a3 n3 c3, .slice a4 n4 c4]] W fun e w' => e = .returned (.string tb) ∧ Below W.heap.size W w')
    (la : ta.size ≤ 1000) (lb : tb.size ≤ 1000) :
    Calls Tryz.prog 92 #[.agg #[.int .i64 k1, .float .f64 f1, .string s1, .slice a1 n1 c1, .slice a2 n2 c2], .agg #[.int .i64 k2, .float .f64 f2, .string s2, .slice a3 n3 c3, .slice a4 n4 c4]] w fun e w' => e = .returned (.tuple #[.agg zeroA, .agg (errA (ta ++ ⟨#[32, 97, 110, 100, 32]⟩ ++ tb ++ ⟨#[32]⟩ ++ ⟨#[99, 97, 110, 110, 111, 116, 32, 98, 101, 32, 100, 105, 118, 105, 100, 101, 100, 32, 98, 101, 99, 97, 117, 115, 101, 32, 116, 104, 101, 32, 100, 105, 118, 105, 115, 111, 114, 32, 105, 115, 32, 122, 101, 114, 111]⟩))]) ∧ Below w.heap.size w w' := by
  have hsf := run_store_float Tryz.prog
  have HTA := Lib.hid hta
  have HTB := Lib.hid htb
  have hrf := fun W (hW : Below w.heap.size w W) => refused_any ta tb ⟨#[99, 97, 110, 110, 111, 116, 32, 98, 101, 32, 100, 105, 118, 105, 100, 101, 100, 32, 98, 101, 99, 97, 117, 115, 101, 32, 116, 104, 101, 32, 100, 105, 118, 105, 115, 111, 114, 32, 105, 115, 32, 122, 101, 114, 111]⟩ #[.int .i64 k1, .float .f64 f1, .string s1, .slice a1 n1 c1, .slice a2 n2 c2] #[.int .i64 k2, .float .f64 f2, .string s2, .slice a3 n3 c3, .slice a4 n4 c4] k1 k2 f1 f2 s1 s2 a1 a2 a3 a4 n1 n2 n3 n4 c1 c2 c3 c4 W rfl rfl (fun V hV => HTA.out V (hW.trans (hV.mono hW.size))) (fun V hV => HTB.out V (hW.trans (hV.mono hW.size))) la lb (by decide)
  obtain ⟨S, hS⟩ : ∃ S, ta ++ ⟨#[32, 97, 110, 100, 32]⟩ ++ tb ++ ⟨#[32]⟩ ++ ⟨#[99, 97, 110, 110, 111, 116, 32, 98, 101, 32, 100, 105, 118, 105, 100, 101, 100, 32, 98, 101, 99, 97, 117, 115, 101, 32, 116, 104, 101, 32, 100, 105, 118, 105, 115, 111, 114, 32, 105, 115, 32, 122, 101, 114, 111]⟩ = S := ⟨_, rfl⟩
  rw [hS] at hrf ⊢
  have HRF := Lib.hid hrf
  clear hrf hta htb hS
  go_enter Tryz.func92, Tryz.ntmps92
  go_wp2_with fail
  have hr := R4.new w #[.int .i64 k1, .float .f64 f1, .string s1, .slice a1 n1 c1, .slice a2 n2 c2] #[.int .i64 k2, .float .f64 f2, .string s2, .slice a3 n3 c3, .slice a4 n4 c4] zeroA okA
  have hb := four_below w (.cells #[.int .i64 k1, .float .f64 f1, .string s1, .slice a1 n1 c1, .slice a2 n2 c2] 27) (.cells #[.int .i64 k2, .float .f64 f2, .string s2, .slice a3 n3 c3, .slice a4 n4 c4] 27) (.cells zeroA 27) (.cells okA 31)
  have he : ((((w.alloc (.cells #[.int .i64 k1, .float .f64 f1, .string s1, .slice a1 n1 c1, .slice a2 n2 c2] 27)).alloc (.cells #[.int .i64 k2, .float .f64 f2, .string s2, .slice a3 n3 c3, .slice a4 n4 c4] 27)).alloc (.cells zeroA 27)).alloc (.cells okA 31)) = ((((w.alloc (.cells #[.int .i64 k1, .float .f64 f1, .string s1, .slice a1 n1 c1, .slice a2 n2 c2] 27)).alloc (.cells #[.int .i64 k2, .float .f64 f2, .string s2, .slice a3 n3 c3, .slice a4 n4 c4] 27)).alloc (.cells #[.int .i64 0, .float .f64 0, .string ⟨#[]⟩, .slice none 0 0, .slice none 0 0] 27)).alloc (.cells #[.bool false, .int .i64 0, .float .f64 0, .string ⟨#[]⟩, .slice none 0 0, .slice none 0 0] 31)) := rfl
  rw [he] at hr hb
  clear he
  generalize ((((w.alloc (.cells #[.int .i64 k1, .float .f64 f1, .string s1, .slice a1 n1 c1, .slice a2 n2 c2] 27)).alloc (.cells #[.int .i64 k2, .float .f64 f2, .string s2, .slice a3 n3 c3, .slice a4 n4 c4] 27)).alloc (.cells #[.int .i64 0, .float .f64 0, .string ⟨#[]⟩, .slice none 0 0, .slice none 0 0] 27)).alloc (.cells #[.bool false, .int .i64 0, .float .f64 0, .string ⟨#[]⟩, .slice none 0 0, .slice none 0 0] 31)) = W0 at hr hb ⊢
  obtain ⟨x0, x1, x2, x3, x4, _⟩ := row5' hr.r0
  obtain ⟨y0, y1, y2, y3, y4, _⟩ := row5' hr.r1
  have HR := Lib.hid hr
  have HB := Lib.hid hb
  clear hr hb
  refine (HRF.out _ HB.out).mono ?_
  rintro e w2 ⟨rfl, hb2⟩
  have R2 := Lib.hid (HR.out.below hb2)
  have B2 := Lib.hid (HB.out.trans (hb2.mono HB.out.size))
  clear hb2 x0 x1 x2 x3 x4 y0 y1 y2 y3 y4
  obtain ⟨x0, x1, x2, x3, x4, _⟩ := row5' R2.out.r0
  obtain ⟨y0, y1, y2, y3, y4, _⟩ := row5' R2.out.r1
  obtain ⟨⟨u0, u1, u2, u3, u4⟩, ⟨v0, v1, v2, v3, v4, v5⟩, g1, g2⟩ := R2.out.outs
  unfold zeroA errA
  go_wp2_with fail
  obtain ⟨q1, q2, q3⟩ := R2.out.ends B2.out (.int .i64 0) (.float .f64 0) (.string ⟨#[]⟩) (.slice none 0 0) (.slice none 0 0) (.bool true) (.int .i64 4) (.float .f64 0) (.string S) (.slice none 0 0) (.slice none 0 0)
  refine bodyPost_ret_by (results_two_rows rfl _ _ (w.heap.size + 2) (w.heap.size + 3) 27 31 _ _ (0, 0) (0, 0) _ _ rfl rfl q1 q2 Tryz.underlying27 rfl sizeVal Tryz.underlying31 rfl infoErr) rfl ?_
  exact ⟨rfl, q3⟩
set_option maxRecDepth 100000 in
set_option maxHeartbeats 1000000 in
theorem both_false (k : Int) (k1 k2 : Int) (f1 f2 : Nat) (s1 s2 : ByteArray) (a1 a2 a3 a4 : Option Addr) (n1 n2 n3 n4 c1 c2 c3 c4 : Nat) (w : World) (h : k1 ≠ k2) :
    Calls Tryz.prog 82 #[.int .i64 k, .agg #[.int .i64 k1, .float .f64 f1, .string s1, .slice a1 n1 c1, .slice a2 n2 c2], .agg #[.int .i64 k2, .float .f64 f2, .string s2, .slice a3 n3 c3, .slice a4 n4 c4]] w fun e w' => e = .returned (.bool false) ∧ Below w.heap.size w w' := by
  have e1 : (k1 == k && k2 == k) = false := by
    cases h1 : (k1 == k)
    · rfl
    · have : k1 = k := by simpa using h1
      simp; omega
  have := both_any k k1 k2 f1 f2 s1 s2 a1 a2 a3 a4 n1 n2 n3 n4 c1 c2 c3 c4 w
  rw [e1] at this
  exact this
set_option maxRecDepth 100000 in
set_option maxHeartbeats 4000000 in
theorem add_mixed (ta tb : ByteArray) (k1 k2 : Int) (f1 f2 : Nat) (s1 s2 : ByteArray) (a1 a2 a3 a4 : Option Addr) (n1 n2 n3 n4 c1 c2 c3 c4 : Nat) (w : World)
    (hta : ∀ W, Below w.heap.size w W → Calls Tryz.prog 117 #[.agg #[.int .i64 k1, .float .f64 f1, .string s1, .slice a1 n1 c1, .slice a2 n2 c2]] W fun e w' => e = .returned (.string ta) ∧ Below W.heap.size W w')
    (htb : ∀ W, Below w.heap.size w W → Calls Tryz.prog 117 #[.agg #[.int .i64 k2, .float .f64 f2, .string s2, .slice a3 n3 c3, .slice a4 n4 c4]] W fun e w' => e = .returned (.string tb) ∧ Below W.heap.size W w')
    (la : ta.size ≤ 1000) (lb : tb.size ≤ 1000) (h1 : k1 ≠ 0) (h2 : k2 ≠ 0) (h12 : k1 ≠ k2) :
    Calls Tryz.prog 50 #[.agg #[.int .i64 k1, .float .f64 f1, .string s1, .slice a1 n1 c1, .slice a2 n2 c2], .agg #[.int .i64 k2, .float .f64 f2, .string s2, .slice a3 n3 c3, .slice a4 n4 c4]] w fun e w' => e = .returned (.tuple #[.agg zeroA, .agg (errA (ta ++ ⟨#[32, 97, 110, 100, 32]⟩ ++ tb ++ ⟨#[32]⟩ ++ ⟨#[99, 97, 110, 110, 111, 116, 32, 98, 101, 32, 97, 100, 100, 101, 100]⟩))]) ∧ Below w.heap.size w w' := by
  have hsf := run_store_float Tryz.prog
  have HTA := Lib.hid hta
  have HTB := Lib.hid htb
  have hrf := fun W (hW : Below w.heap.size w W) => refused_any ta tb ⟨#[99, 97, 110, 110, 111, 116, 32, 98, 101, 32, 97, 100, 100, 101, 100]⟩ #[.int .i64 k1, .float .f64 f1, .string s1, .slice a1 n1 c1, .slice a2 n2 c2] #[.int .i64 k2, .float .f64 f2, .string s2, .slice a3 n3 c3, .slice a4 n4 c4] k1 k2 f1 f2 s1 s2 a1 a2 a3 a4 n1 n2 n3 n4 c1 c2 c3 c4 W rfl rfl (fun V hV => HTA.out V (hW.trans (hV.mono hW.size))) (fun V hV => HTB.out V (hW.trans (hV.mono hW.size))) la lb (by decide)
  obtain ⟨S, hS⟩ : ∃ S, ta ++ ⟨#[32, 97, 110, 100, 32]⟩ ++ tb ++ ⟨#[32]⟩ ++ ⟨#[99, 97, 110, 110, 111, 116, 32, 98, 101, 32, 97, 100, 100, 101, 100]⟩ = S := ⟨_, rfl⟩
  rw [hS] at hrf ⊢
  have HRF := Lib.hid hrf
  clear hrf hta htb hS
  have HBO := Lib.hid (fun (k : Int) W => both_false k k1 k2 f1 f2 s1 s2 a1 a2 a3 a4 n1 n2 n3 n4 c1 c2 c3 c4 W h12)
  have d1 : (k1 == 0) = false := by simpa using h1
  have d2 : (k2 == 0) = false := by simpa using h2
  clear h1 h2 h12
  go_enter Tryz.func50, Tryz.ntmps50
  go_wp2_with fail
  have hr := R4.new w #[.int .i64 k1, .float .f64 f1, .string s1, .slice a1 n1 c1, .slice a2 n2 c2] #[.int .i64 k2, .float .f64 f2, .string s2, .slice a3 n3 c3, .slice a4 n4 c4] zeroA okA
  have hb := four_below w (.cells #[.int .i64 k1, .float .f64 f1, .string s1, .slice a1 n1 c1, .slice a2 n2 c2] 27) (.cells #[.int .i64 k2, .float .f64 f2, .string s2, .slice a3 n3 c3, .slice a4 n4 c4] 27) (.cells zeroA 27) (.cells okA 31)
  have he : ((((w.alloc (.cells #[.int .i64 k1, .float .f64 f1, .string s1, .slice a1 n1 c1, .slice a2 n2 c2] 27)).alloc (.cells #[.int .i64 k2, .float .f64 f2, .string s2, .slice a3 n3 c3, .slice a4 n4 c4] 27)).alloc (.cells zeroA 27)).alloc (.cells okA 31)) = ((((w.alloc (.cells #[.int .i64 k1, .float .f64 f1, .string s1, .slice a1 n1 c1, .slice a2 n2 c2] 27)).alloc (.cells #[.int .i64 k2, .float .f64 f2, .string s2, .slice a3 n3 c3, .slice a4 n4 c4] 27)).alloc (.cells #[.int .i64 0, .float .f64 0, .string ⟨#[]⟩, .slice none 0 0, .slice none 0 0] 27)).alloc (.cells #[.bool false, .int .i64 0, .float .f64 0, .string ⟨#[]⟩, .slice none 0 0, .slice none 0 0] 31)) := rfl
  rw [he] at hr hb
  clear he
  generalize ((((w.alloc (.cells #[.int .i64 k1, .float .f64 f1, .string s1, .slice a1 n1 c1, .slice a2 n2 c2] 27)).alloc (.cells #[.int .i64 k2, .float .f64 f2, .string s2, .slice a3 n3 c3, .slice a4 n4 c4] 27)).alloc (.cells #[.int .i64 0, .float .f64 0, .string ⟨#[]⟩, .slice none 0 0, .slice none 0 0] 27)).alloc (.cells #[.bool false, .int .i64 0, .float .f64 0, .string ⟨#[]⟩, .slice none 0 0, .slice none 0 0] 31)) = W0 at hr hb ⊢
  obtain ⟨x0, x1, x2, x3, x4, _⟩ := row5' hr.r0
  obtain ⟨y0, y1, y2, y3, y4, _⟩ := row5' hr.r1
  have HR := Lib.hid hr
  have HB := Lib.hid hb
  clear hr hb
  refine (HBO.out 3 _).mono ?_
  rintro e w2 ⟨rfl, hb2⟩
  have R2 := Lib.hid (HR.out.below hb2)
  have B2 := Lib.hid (HB.out.trans (hb2.mono HB.out.size))
  clear hb2 x0 x1 x2 x3 x4 y0 y1 y2 y3 y4
  obtain ⟨x0, x1, x2, x3, x4, _⟩ := row5' R2.out.r0
  obtain ⟨y0, y1, y2, y3, y4, _⟩ := row5' R2.out.r1
  go_wp2_with fail
  refine (HBO.out 4 _).mono ?_
  rintro e w3 ⟨rfl, hb3⟩
  have R3 := Lib.hid (R2.out.below hb3)
  have B3 := Lib.hid (B2.out.trans (hb3.mono B2.out.size))
  clear hb3 x0 x1 x2 x3 x4 y0 y1 y2 y3 y4
  obtain ⟨x0, x1, x2, x3, x4, _⟩ := row5' R3.out.r0
  obtain ⟨y0, y1, y2, y3, y4, _⟩ := row5' R3.out.r1
  go_wp2_with fail
  refine (HBO.out 5 _).mono ?_
  rintro e w4 ⟨rfl, hb4⟩
  have R4 := Lib.hid (R3.out.below hb4)
  have B4 := Lib.hid (B3.out.trans (hb4.mono B3.out.size))
  clear hb4 x0 x1 x2 x3 x4 y0 y1 y2 y3 y4
  obtain ⟨x0, x1, x2, x3, x4, _⟩ := row5' R4.out.r0
  obtain ⟨y0, y1, y2, y3, y4, _⟩ := row5' R4.out.r1
  go_wp2_with fail
  refine (HBO.out 6 _).mono ?_
  rintro e w5 ⟨rfl, hb5⟩
  have R5 := Lib.hid (R4.out.below hb5)
  have B5 := Lib.hid (B4.out.trans (hb5.mono B4.out.size))
  clear hb5 x0 x1 x2 x3 x4 y0 y1 y2 y3 y4
  obtain ⟨x0, x1, x2, x3, x4, _⟩ := row5' R5.out.r0
  obtain ⟨y0, y1, y2, y3, y4, _⟩ := row5' R5.out.r1
  go_wp2_with fail
  refine (HRF.out _ B5.out).mono ?_
  rintro e w6 ⟨rfl, hb6⟩
  have R6 := Lib.hid (R5.out.below hb6)
  have B6 := Lib.hid (B5.out.trans (hb6.mono B5.out.size))
  clear hb6 x0 x1 x2 x3 x4 y0 y1 y2 y3 y4
  obtain ⟨x0, x1, x2, x3, x4, _⟩ := row5' R6.out.r0
  obtain ⟨y0, y1, y2, y3, y4, _⟩ := row5' R6.out.r1
  obtain ⟨⟨u0, u1, u2, u3, u4⟩, ⟨v0, v1, v2, v3, v4, v5⟩, g1, g2⟩ := R6.out.outs
  unfold zeroA errA
  go_wp2_with fail
  obtain ⟨q1, q2, q3⟩ := R6.out.ends B6.out (.int .i64 0) (.float .f64 0) (.string ⟨#[]⟩) (.slice none 0 0) (.slice none 0 0) (.bool true) (.int .i64 4) (.float .f64 0) (.string S) (.slice none 0 0) (.slice none 0 0)
  refine bodyPost_ret_by (results_two_rows rfl _ _ (w.heap.size + 2) (w.heap.size + 3) 27 31 _ _ (0, 0) (0, 0) _ _ rfl rfl q1 q2 Tryz.underlying27 rfl sizeVal Tryz.underlying31 rfl infoErr) rfl ?_
  exact ⟨rfl, q3⟩
set_option maxRecDepth 100000 in
set_option maxHeartbeats 4000000 in
theorem divide_zero (ta tb : ByteArray) (f1 : Nat) (s1 s2 : ByteArray) (a1 a2 a3 a4 : Option Addr) (n1 n2 n3 n4 c1 c2 c3 c4 : Nat) (w : World)
    (hta : ∀ W, Below w.heap.size w W → Calls Tryz.prog 117 #[.agg #[.int .i64 3, .float .f64 f1, .string s1, .slice a1 n1 c1, .slice a2 n2 c2]] W fun e w' => e = .returned (.string ta) ∧ Below W.heap.size W w')
    (htb : ∀ W, Below w.heap.size w W → Calls Tryz.prog 117 #[.agg #[.int .i64 3, .float .f64 0, .string s2, .slice a3 n3 c3, .slice a4 n4 c4]] W fun e w' => e = .returned (.string tb) ∧ Below W.heap.size W w')
    (la : ta.size ≤ 1000) (lb : tb.size ≤ 1000) :
    Calls Tryz.prog 53 #[.agg #[.int .i64 3, .float .f64 f1, .string s1, .slice a1 n1 c1, .slice a2 n2 c2], .agg #[.int .i64 3, .float .f64 0, .string s2, .slice a3 n3 c3, .slice a4 n4 c4]] w fun e w' => e = .returned (.tuple #[.agg zeroA, .agg (errA (ta ++ ⟨#[32, 97, 110, 100, 32]⟩ ++ tb ++ ⟨#[32]⟩ ++ ⟨#[99, 97, 110, 110, 111, 116, 32, 98, 101, 32, 100, 105, 118, 105, 100, 101, 100, 32, 98, 101, 99, 97, 117, 115, 101, 32, 116, 104, 101, 32, 100, 105, 118, 105, 115, 111, 114, 32, 105, 115, 32, 122, 101, 114, 111]⟩))]) ∧ Below w.heap.size w w' := by
  have hsf := run_store_float Tryz.prog
  have HTA := Lib.hid hta
  have HTB := Lib.hid htb
  have hrf := fun W (hW : Below w.heap.size w W) => byZero_any ta tb 3 3 f1 0 s1 s2 a1 a2 a3 a4 n1 n2 n3 n4 c1 c2 c3 c4 W (fun V hV => HTA.out V (hW.trans (hV.mono hW.size))) (fun V hV => HTB.out V (hW.trans (hV.mono hW.size))) la lb
  obtain ⟨S, hS⟩ : ∃ S, ta ++ ⟨#[32, 97, 110, 100, 32]⟩ ++ tb ++ ⟨#[32]⟩ ++ ⟨#[99, 97, 110, 110, 111, 116, 32, 98, 101, 32, 100, 105, 118, 105, 100, 101, 100, 32, 98, 101, 99, 97, 117, 115, 101, 32, 116, 104, 101, 32, 100, 105, 118, 105, 115, 111, 114, 32, 105, 115, 32, 122, 101, 114, 111]⟩ = S := ⟨_, rfl⟩
  rw [hS] at hrf ⊢
  have HRF := Lib.hid hrf
  have HBO := Lib.hid (fun W => both_any 3 3 3 f1 0 s1 s2 a1 a2 a3 a4 n1 n2 n3 n4 c1 c2 c3 c4 W)
  clear hrf hta htb hS
  go_enter Tryz.func53, Tryz.ntmps53
  go_wp2_with fail
  have hr := R4.new w #[.int .i64 3, .float .f64 f1, .string s1, .slice a1 n1 c1, .slice a2 n2 c2] #[.int .i64 3, .float .f64 0, .string s2, .slice a3 n3 c3, .slice a4 n4 c4] zeroA okA
  have hb := four_below w (.cells #[.int .i64 3, .float .f64 f1, .string s1, .slice a1 n1 c1, .slice a2 n2 c2] 27) (.cells #[.int .i64 3, .float .f64 0, .string s2, .slice a3 n3 c3, .slice a4 n4 c4] 27) (.cells zeroA 27) (.cells okA 31)
  have he : ((((w.alloc (.cells #[.int .i64 3, .float .f64 f1, .string s1, .slice a1 n1 c1, .slice a2 n2 c2] 27)).alloc (.cells #[.int .i64 3, .float .f64 0, .string s2, .slice a3 n3 c3, .slice a4 n4 c4] 27)).alloc (.cells zeroA 27)).alloc (.cells okA 31)) = ((((w.alloc (.cells #[.int .i64 3, .float .f64 f1, .string s1, .slice a1 n1 c1, .slice a2 n2 c2] 27)).alloc (.cells #[.int .i64 3, .float .f64 0, .string s2, .slice a3 n3 c3, .slice a4 n4 c4] 27)).alloc (.cells #[.int .i64 0, .float .f64 0, .string ⟨#[]⟩, .slice none 0 0, .slice none 0 0] 27)).alloc (.cells #[.bool false, .int .i64 0, .float .f64 0, .string ⟨#[]⟩, .slice none 0 0, .slice none 0 0] 31)) := rfl
  rw [he] at hr hb
  clear he
  generalize ((((w.alloc (.cells #[.int .i64 3, .float .f64 f1, .string s1, .slice a1 n1 c1, .slice a2 n2 c2] 27)).alloc (.cells #[.int .i64 3, .float .f64 0, .string s2, .slice a3 n3 c3, .slice a4 n4 c4] 27)).alloc (.cells #[.int .i64 0, .float .f64 0, .string ⟨#[]⟩, .slice none 0 0, .slice none 0 0] 27)).alloc (.cells #[.bool false, .int .i64 0, .float .f64 0, .string ⟨#[]⟩, .slice none 0 0, .slice none 0 0] 31)) = W0 at hr hb ⊢
  obtain ⟨x0, x1, x2, x3, x4, _⟩ := row5' hr.r0
  obtain ⟨y0, y1, y2, y3, y4, _⟩ := row5' hr.r1
  have HR := Lib.hid hr
  have HB := Lib.hid hb
  clear hr hb
  refine (HBO.out _).mono ?_
  rintro e w2 ⟨rfl, hb2⟩
  have R2 := Lib.hid (HR.out.below hb2)
  have B2 := Lib.hid (HB.out.trans (hb2.mono HB.out.size))
  clear hb2 x0 x1 x2 x3 x4 y0 y1 y2 y3 y4
  obtain ⟨x0, x1, x2, x3, x4, _⟩ := row5' R2.out.r0
  obtain ⟨y0, y1, y2, y3, y4, _⟩ := row5' R2.out.r1
  go_wp2_with fail
  refine (HRF.out _ B2.out).mono ?_
  rintro e w3 ⟨rfl, hb3⟩
  have R3 := Lib.hid (R2.out.below hb3)
  have B3 := Lib.hid (B2.out.trans (hb3.mono B2.out.size))
  clear hb3 x0 x1 x2 x3 x4 y0 y1 y2 y3 y4
  obtain ⟨x0, x1, x2, x3, x4, _⟩ := row5' R3.out.r0
  obtain ⟨y0, y1, y2, y3, y4, _⟩ := row5' R3.out.r1
  obtain ⟨⟨u0, u1, u2, u3, u4⟩, ⟨v0, v1, v2, v3, v4, v5⟩, g1, g2⟩ := R3.out.outs
  unfold zeroA errA
  go_wp2_with fail
  obtain ⟨q1, q2, q3⟩ := R3.out.ends B3.out (.int .i64 0) (.float .f64 0) (.string ⟨#[]⟩) (.slice none 0 0) (.slice none 0 0) (.bool true) (.int .i64 4) (.float .f64 0) (.string S) (.slice none 0 0) (.slice none 0 0)
  refine bodyPost_ret_by (results_two_rows rfl _ _ (w.heap.size + 2) (w.heap.size + 3) 27 31 _ _ (0, 0) (0, 0) _ _ rfl rfl q1 q2 Tryz.underlying27 rfl sizeVal Tryz.underlying31 rfl infoErr) rfl ?_
  exact ⟨rfl, q3⟩
end Go.Proofs.YtdlighmnlcklnaaGreatDoor
namespace Go.Proofs.YtdlighmnlcklnaaGreatDoor
open Go Go.RowKit

theorem ceil_ext (w : World) : (callFunc 157 #[.float .f64 4609434218613702656]).run Tryz.prog w = .ok (.value (.float .f64 4611686018427387904)) w := by
  rw [run_callFunc_extern Tryz.func157 (by kernel_rfl) (by kernel_rfl) (by kernel_rfl) (e := Extern.MathFloor.toIntegral "math.archCeil" .up) (by kernel_rfl)]
  kernel_rfl
theorem ceil_15 (w : World) : Calls Tryz.prog 125 #[.float .f64 4609434218613702656] w fun e w' => e = .returned (.float .f64 4611686018427387904) ∧ w = w' := by
  have h := ceil_ext
  go_enter Tryz.func125, Tryz.ntmps125
  go_wp2_with fail
  go_ret
  exact ⟨rfl, rfl⟩
theorem int_2 : intB 4611686018427387904 = 2 := by kernel_rfl
theorem int_m5 : intB 13840687554816376832 = -5 := by kernel_rfl
theorem int_0 : intB 0 = 0 := by kernel_rfl
theorem nan_15 : decide (9218868437227405312 < szB 4609434218613702656) = false := by kernel_rfl
theorem nan_2 : decide (9218868437227405312 < szB 4611686018427387904) = false := by kernel_rfl
theorem nan_m5 : decide (9218868437227405312 < szB 13840687554816376832) = false := by kernel_rfl
set_option maxRecDepth 100000 in
set_option maxHeartbeats 1000000 in
theorem whole_any (f : Nat) (hf : f < 18446744073709551616) (n : Int) (hn : intB f = n) (h1 : -9223372036854775807 ≤ n) (h2 : n ≤ 9223372036854775807) (w : World) : Calls Tryz.prog 94 #[.float .f64 f] w fun e w' => e = .returned (.int .i64 n) ∧ w = w' := by
  have hi := fun w => Int_any f hf w
  rw [hn] at hi
  have HI := Lib.hid hi
  clear hi hn
  go_enter Tryz.func94, Tryz.ntmps94
  go_wp2_with (go_at_call 124; refine (HI.out _).mono ?_; rintro e w' ⟨rfl, rfl⟩)
  all_goals go_ret
  all_goals exact ⟨by simp; try omega, rfl⟩
theorem rep_ab : repS ⟨#[97, 98]⟩ 2 = (⟨#[97, 98, 97, 98]⟩, 0) := by kernel_rfl
theorem outs2 {n : Nat} {W : World} (h2 : W.heap[n]? = some (.cells #[.int .i64 0, .float .f64 0, .string ⟨#[]⟩, .slice none 0 0, .slice none 0 0] 27 (0, 0))) (h3 : W.heap[n + 1]? = some (.cells #[.bool false, .int .i64 0, .float .f64 0, .string ⟨#[]⟩, .slice none 0 0, .slice none 0 0] 31 (0, 0))) :
    (W.cell? ⟨n, 0, none⟩ = some (.int .i64 0) ∧ W.cell? ⟨n, 1, none⟩ = some (.float .f64 0) ∧ W.cell? ⟨n, 2, none⟩ = some (.string ⟨#[]⟩) ∧ W.cell? ⟨n, 3, none⟩ = some (.slice none 0 0) ∧ W.cell? ⟨n, 4, none⟩ = some (.slice none 0 0)) ∧
    (W.cell? ⟨n + 1, 0, none⟩ = some (.bool false) ∧ W.cell? ⟨n + 1, 1, none⟩ = some (.int .i64 0) ∧ W.cell? ⟨n + 1, 2, none⟩ = some (.float .f64 0) ∧ W.cell? ⟨n + 1, 3, none⟩ = some (.string ⟨#[]⟩) ∧ W.cell? ⟨n + 1, 4, none⟩ = some (.slice none 0 0) ∧ W.cell? ⟨n + 1, 5, none⟩ = some (.slice none 0 0)) ∧
    (∀ q, W.frozen? ⟨n, q, none⟩ = false) ∧ (∀ q, W.frozen? ⟨n + 1, q, none⟩ = false) := by
  refine ⟨?_, ?_, fun q => ?_, fun q => ?_⟩
  · simp [World.cell?, h2]
  · simp [World.cell?, h3]
  · simp [World.frozen?, h2]
  · simp [World.frozen?, h3]
set_option maxRecDepth 100000 in
set_option maxHeartbeats 4000000 in
theorem repeated_ab (w : World) : Calls Tryz.prog 90 #[.string ⟨#[97, 98]⟩, .float .f64 4609434218613702656] w fun e w' => e = .returned (.tuple #[.agg #[.int .i64 4, .float .f64 0, .string ⟨#[97, 98, 97, 98]⟩, .slice none 0 0, .slice none 0 0], .agg okA]) ∧ Below w.heap.size w w' := by
  have hsf := run_store_float Tryz.prog
  have l1 : ∀ w, (binOp .leq 23 (.float .f64 4609434218613702656) (.float .f64 0)).run Tryz.prog w = .ok (.bool false) w := fun _ => by kernel_rfl
  have hr := fun w => Repeat_any ⟨#[97, 98]⟩ 2 (by decide) (by omega) w
  rw [rep_ab] at hr
  have HRP := Lib.hid hr
  have HN := Lib.hid nan_15
  have HI := Lib.hid int_2
  clear hr
  go_enter Tryz.func90, Tryz.ntmps90
  go_wp2_with fail
  refine (IsNaN_any _ _).mono ?_
  rintro e w0 ⟨he, rfl⟩
  rw [HN.out] at he
  subst he
  go_wp2_with fail
  refine (ceil_15 _).mono ?_
  rintro e w0 ⟨rfl, rfl⟩
  go_wp2_with fail
  refine (Int_any 4611686018427387904 (by omega) _).mono ?_
  rintro e w0 ⟨he, rfl⟩
  rw [HI.out] at he
  subst he
  go_wp2_with fail
  obtain ⟨q1, q2⟩ := two_new w (.cells #[.int .i64 0, .float .f64 0, .string ⟨#[]⟩, .slice none 0 0, .slice none 0 0] 27) (.cells #[.bool false, .int .i64 0, .float .f64 0, .string ⟨#[]⟩, .slice none 0 0, .slice none 0 0] 31)
  have hb := ((Below.refl w.heap.size w).alloc (Nat.le_refl _) (.cells #[.int .i64 0, .float .f64 0, .string ⟨#[]⟩, .slice none 0 0, .slice none 0 0] 27)).alloc (by simp) (.cells #[.bool false, .int .i64 0, .float .f64 0, .string ⟨#[]⟩, .slice none 0 0, .slice none 0 0] 31)
  generalize (w.alloc (.cells #[.int .i64 0, .float .f64 0, .string ⟨#[]⟩, .slice none 0 0, .slice none 0 0] 27)).alloc (.cells #[.bool false, .int .i64 0, .float .f64 0, .string ⟨#[]⟩, .slice none 0 0, .slice none 0 0] 31) = W0 at q1 q2 hb ⊢
  refine (HRP.out _).mono ?_
  rintro e w1 ⟨rfl, hb1⟩
  have hz1 := (Array.getElem?_eq_some_iff.1 q2).1
  have q1 := (hb1.block _ (by omega)).trans q1
  have q2 := (hb1.block _ hz1).trans q2
  have hb := hb.trans (hb1.mono hb.size)
  clear hb1 hz1
  obtain ⟨⟨u0, u1, u2, u3, u4⟩, ⟨v0, v1, v2, v3, v4, v5⟩, g1, g2⟩ := outs2 q1 q2
  have Q1 := Lib.hid q1
  have Q2 := Lib.hid q2
  have HB := Lib.hid hb
  clear q1 q2 hb
  go_wp2_with fail
  have e1 := (set6_other (w := set5 w1 w.heap.size (.int .i64 4) (.float .f64 0) (.string ⟨#[97, 98, 97, 98]⟩) (.slice none 0 0) (.slice none 0 0)) (R := w.heap.size + 1) (k := w.heap.size) (by omega) (.bool false) (.int .i64 0) (.float .f64 0) (.string ⟨#[]⟩) (.slice none 0 0) (.slice none 0 0)).trans (set5_row Q1.out (.int .i64 4) (.float .f64 0) (.string ⟨#[97, 98, 97, 98]⟩) (.slice none 0 0) (.slice none 0 0))
  have e2 := set6_row ((set5_other (R := w.heap.size) (k := w.heap.size + 1) (by omega) (.int .i64 4) (.float .f64 0) (.string ⟨#[97, 98, 97, 98]⟩) (.slice none 0 0) (.slice none 0 0)).trans Q2.out) (.bool false) (.int .i64 0) (.float .f64 0) (.string ⟨#[]⟩) (.slice none 0 0) (.slice none 0 0)
  refine bodyPost_ret_by (results_two_rows rfl _ _ w.heap.size (w.heap.size + 1) 27 31 _ _ (0, 0) (0, 0) _ _ rfl rfl e1 e2 Tryz.underlying27 rfl sizeVal Tryz.underlying31 rfl infoErr) rfl ?_
  exact ⟨rfl, set6_below (set5_below0 HB.out (Nat.le_refl _) ..) (by omega) ..⟩
set_option maxRecDepth 100000 in
set_option maxHeartbeats 4000000 in
theorem multiply_ab (w : World) : Calls Tryz.prog 52 #[.agg #[.int .i64 4, .float .f64 0, .string ⟨#[97, 98]⟩, .slice none 0 0, .slice none 0 0], .agg #[.int .i64 3, .float .f64 4609434218613702656, .string ⟨#[]⟩, .slice none 0 0, .slice none 0 0]] w fun e w' => e = .returned (.tuple #[.agg #[.int .i64 4, .float .f64 0, .string ⟨#[97, 98, 97, 98]⟩, .slice none 0 0, .slice none 0 0], .agg okA]) ∧ Below w.heap.size w w' := by
  have hsf := run_store_float Tryz.prog
  have HBO := Lib.hid (fun W => both_any 3 4 3 0 4609434218613702656 ⟨#[97, 98]⟩ ⟨#[]⟩ none none none none 0 0 0 0 0 0 0 0 W)
  go_enter Tryz.func52, Tryz.ntmps52
  go_wp2_with fail
  have hr := R4.new w #[.int .i64 4, .float .f64 0, .string ⟨#[97, 98]⟩, .slice none 0 0, .slice none 0 0] #[.int .i64 3, .float .f64 4609434218613702656, .string ⟨#[]⟩, .slice none 0 0, .slice none 0 0] zeroA okA
  have hb := four_below w (.cells #[.int .i64 4, .float .f64 0, .string ⟨#[97, 98]⟩, .slice none 0 0, .slice none 0 0] 27) (.cells #[.int .i64 3, .float .f64 4609434218613702656, .string ⟨#[]⟩, .slice none 0 0, .slice none 0 0] 27) (.cells zeroA 27) (.cells okA 31)
  have he : ((((w.alloc (.cells #[.int .i64 4, .float .f64 0, .string ⟨#[97, 98]⟩, .slice none 0 0, .slice none 0 0] 27)).alloc (.cells #[.int .i64 3, .float .f64 4609434218613702656, .string ⟨#[]⟩, .slice none 0 0, .slice none 0 0] 27)).alloc (.cells zeroA 27)).alloc (.cells okA 31)) = ((((w.alloc (.cells #[.int .i64 4, .float .f64 0, .string ⟨#[97, 98]⟩, .slice none 0 0, .slice none 0 0] 27)).alloc (.cells #[.int .i64 3, .float .f64 4609434218613702656, .string ⟨#[]⟩, .slice none 0 0, .slice none 0 0] 27)).alloc (.cells #[.int .i64 0, .float .f64 0, .string ⟨#[]⟩, .slice none 0 0, .slice none 0 0] 27)).alloc (.cells #[.bool false, .int .i64 0, .float .f64 0, .string ⟨#[]⟩, .slice none 0 0, .slice none 0 0] 31)) := rfl
  rw [he] at hr hb
  clear he
  generalize ((((w.alloc (.cells #[.int .i64 4, .float .f64 0, .string ⟨#[97, 98]⟩, .slice none 0 0, .slice none 0 0] 27)).alloc (.cells #[.int .i64 3, .float .f64 4609434218613702656, .string ⟨#[]⟩, .slice none 0 0, .slice none 0 0] 27)).alloc (.cells #[.int .i64 0, .float .f64 0, .string ⟨#[]⟩, .slice none 0 0, .slice none 0 0] 27)).alloc (.cells #[.bool false, .int .i64 0, .float .f64 0, .string ⟨#[]⟩, .slice none 0 0, .slice none 0 0] 31)) = W0 at hr hb ⊢
  obtain ⟨x0, x1, x2, x3, x4, _⟩ := row5' hr.r0
  obtain ⟨y0, y1, y2, y3, y4, _⟩ := row5' hr.r1
  have HR := Lib.hid hr
  have HB := Lib.hid hb
  clear hr hb
  refine (HBO.out _).mono ?_
  rintro e w2 ⟨rfl, hb2⟩
  have R2 := Lib.hid (HR.out.below hb2)
  have B2 := Lib.hid (HB.out.trans (hb2.mono HB.out.size))
  clear hb2 x0 x1 x2 x3 x4 y0 y1 y2 y3 y4
  obtain ⟨x0, x1, x2, x3, x4, _⟩ := row5' R2.out.r0
  obtain ⟨y0, y1, y2, y3, y4, _⟩ := row5' R2.out.r1
  go_wp2_with fail
  refine (repeated_ab _).mono ?_
  rintro e w3 ⟨rfl, hb3⟩
  have R3 := Lib.hid (R2.out.below hb3)
  have B3 := Lib.hid (B2.out.trans (hb3.mono B2.out.size))
  clear hb3 x0 x1 x2 x3 x4 y0 y1 y2 y3 y4
  obtain ⟨x0, x1, x2, x3, x4, _⟩ := row5' R3.out.r0
  obtain ⟨y0, y1, y2, y3, y4, _⟩ := row5' R3.out.r1
  obtain ⟨⟨u0, u1, u2, u3, u4⟩, ⟨v0, v1, v2, v3, v4, v5⟩, g1, g2⟩ := R3.out.outs
  unfold okA
  go_wp2_with fail
  obtain ⟨q1, q2, q3⟩ := R3.out.ends B3.out (.int .i64 4) (.float .f64 0) (.string ⟨#[97, 98, 97, 98]⟩) (.slice none 0 0) (.slice none 0 0) (.bool false) (.int .i64 0) (.float .f64 0) (.string ⟨#[]⟩) (.slice none 0 0) (.slice none 0 0)
  refine bodyPost_ret_by (results_two_rows rfl _ _ (w.heap.size + 2) (w.heap.size + 3) 27 31 _ _ (0, 0) (0, 0) _ _ rfl rfl q1 q2 Tryz.underlying27 rfl sizeVal Tryz.underlying31 rfl infoErr) rfl ?_
  exact ⟨rfl, q3⟩
set_option maxRecDepth 100000 in
set_option maxHeartbeats 4000000 in
theorem remainder_m5 (w : World) : Calls Tryz.prog 54 #[.agg #[.int .i64 3, .float .f64 13840687554816376832, .string ⟨#[]⟩, .slice none 0 0, .slice none 0 0], .agg #[.int .i64 3, .float .f64 4611686018427387904, .string ⟨#[]⟩, .slice none 0 0, .slice none 0 0]] w fun e w' => e = .returned (.tuple #[.agg #[.int .i64 3, .float .f64 13830554455654793216, .string ⟨#[]⟩, .slice none 0 0, .slice none 0 0], .agg okA]) ∧ Below w.heap.size w w' := by
  have hsf := run_store_float Tryz.prog
  have HBO := Lib.hid (fun W => both_any 3 3 3 13840687554816376832 4611686018427387904 ⟨#[]⟩ ⟨#[]⟩ none none none none 0 0 0 0 0 0 0 0 W)
  have hcv : ∀ w, (convert 3 23 (.int .i64 (-1))).run Tryz.prog w = .ok (.float .f64 13830554455654793216) w := fun _ => by kernel_rfl
  have HN5 := Lib.hid nan_m5
  have HN2 := Lib.hid nan_2
  go_enter Tryz.func54, Tryz.ntmps54
  go_wp2_with fail
  have hr := R4.new w #[.int .i64 3, .float .f64 13840687554816376832, .string ⟨#[]⟩, .slice none 0 0, .slice none 0 0] #[.int .i64 3, .float .f64 4611686018427387904, .string ⟨#[]⟩, .slice none 0 0, .slice none 0 0] zeroA okA
  have hb := four_below w (.cells #[.int .i64 3, .float .f64 13840687554816376832, .string ⟨#[]⟩, .slice none 0 0, .slice none 0 0] 27) (.cells #[.int .i64 3, .float .f64 4611686018427387904, .string ⟨#[]⟩, .slice none 0 0, .slice none 0 0] 27) (.cells zeroA 27) (.cells okA 31)
  have he : ((((w.alloc (.cells #[.int .i64 3, .float .f64 13840687554816376832, .string ⟨#[]⟩, .slice none 0 0, .slice none 0 0] 27)).alloc (.cells #[.int .i64 3, .float .f64 4611686018427387904, .string ⟨#[]⟩, .slice none 0 0, .slice none 0 0] 27)).alloc (.cells zeroA 27)).alloc (.cells okA 31)) = ((((w.alloc (.cells #[.int .i64 3, .float .f64 13840687554816376832, .string ⟨#[]⟩, .slice none 0 0, .slice none 0 0] 27)).alloc (.cells #[.int .i64 3, .float .f64 4611686018427387904, .string ⟨#[]⟩, .slice none 0 0, .slice none 0 0] 27)).alloc (.cells #[.int .i64 0, .float .f64 0, .string ⟨#[]⟩, .slice none 0 0, .slice none 0 0] 27)).alloc (.cells #[.bool false, .int .i64 0, .float .f64 0, .string ⟨#[]⟩, .slice none 0 0, .slice none 0 0] 31)) := rfl
  rw [he] at hr hb
  clear he
  generalize ((((w.alloc (.cells #[.int .i64 3, .float .f64 13840687554816376832, .string ⟨#[]⟩, .slice none 0 0, .slice none 0 0] 27)).alloc (.cells #[.int .i64 3, .float .f64 4611686018427387904, .string ⟨#[]⟩, .slice none 0 0, .slice none 0 0] 27)).alloc (.cells #[.int .i64 0, .float .f64 0, .string ⟨#[]⟩, .slice none 0 0, .slice none 0 0] 27)).alloc (.cells #[.bool false, .int .i64 0, .float .f64 0, .string ⟨#[]⟩, .slice none 0 0, .slice none 0 0] 31)) = W0 at hr hb ⊢
  obtain ⟨x0, x1, x2, x3, x4, _⟩ := row5' hr.r0
  obtain ⟨y0, y1, y2, y3, y4, _⟩ := row5' hr.r1
  have HR := Lib.hid hr
  have HB := Lib.hid hb
  clear hr hb
  refine (HBO.out _).mono ?_
  rintro e w2 ⟨rfl, hb2⟩
  have R2 := Lib.hid (HR.out.below hb2)
  have B2 := Lib.hid (HB.out.trans (hb2.mono HB.out.size))
  clear hb2 x0 x1 x2 x3 x4 y0 y1 y2 y3 y4
  obtain ⟨x0, x1, x2, x3, x4, _⟩ := row5' R2.out.r0
  obtain ⟨y0, y1, y2, y3, y4, _⟩ := row5' R2.out.r1
  go_wp2_with fail
  refine ((IsNaN_any _ _)).mono ?_
  rintro e w3 ⟨he, rfl⟩
  rw [HN5.out] at he
  subst he
  go_wp2_with fail
  refine (IsNaN_any _ _).mono ?_
  rintro e w4 ⟨he, rfl⟩
  rw [HN2.out] at he
  subst he
  go_wp2_with fail
  refine (whole_any 4611686018427387904 (by omega) 2 int_2 (by omega) (by omega) _).mono ?_
  rintro e w5 ⟨rfl, rfl⟩
  go_wp2_with fail
  refine (whole_any 13840687554816376832 (by omega) (-5) int_m5 (by omega) (by omega) _).mono ?_
  rintro e w6 ⟨rfl, rfl⟩
  go_wp2_with fail
  refine (numberOf_any _ _).mono ?_
  rintro e w7 ⟨rfl, hb7⟩
  have R7 := Lib.hid (R2.out.below hb7)
  have B7 := Lib.hid (B2.out.trans (hb7.mono B2.out.size))
  clear hb7 x0 x1 x2 x3 x4 y0 y1 y2 y3 y4
  obtain ⟨x0, x1, x2, x3, x4, _⟩ := row5' R7.out.r0
  obtain ⟨y0, y1, y2, y3, y4, _⟩ := row5' R7.out.r1
  obtain ⟨⟨u0, u1, u2, u3, u4⟩, ⟨v0, v1, v2, v3, v4, v5⟩, g1, g2⟩ := R7.out.outs
  unfold okA
  go_wp2_with fail
  obtain ⟨q1, q2, q3⟩ := R7.out.ends B7.out (.int .i64 3) (.float .f64 13830554455654793216) (.string ⟨#[]⟩) (.slice none 0 0) (.slice none 0 0) (.bool false) (.int .i64 0) (.float .f64 0) (.string ⟨#[]⟩) (.slice none 0 0) (.slice none 0 0)
  refine bodyPost_ret_by (results_two_rows rfl _ _ (w.heap.size + 2) (w.heap.size + 3) 27 31 _ _ (0, 0) (0, 0) _ _ rfl rfl q1 q2 Tryz.underlying27 rfl sizeVal Tryz.underlying31 rfl infoErr) rfl ?_
  exact ⟨rfl, q3⟩
end Go.Proofs.YtdlighmnlcklnaaGreatDoor
namespace Go.Proofs.YtdlighmnlcklnaaGreatDoor
open Go Go.RowKit

set_option maxRecDepth 100000 in
set_option maxHeartbeats 4000000 in
theorem operate_add (k k' : Int) (f : Nat) (s s' : ByteArray) (b : Bool) (k1 k2 : Int) (f1 f2 : Nat) (s1 s2 : ByteArray) (a1 a2 a3 a4 : Option Addr) (n1 n2 n3 n4 c1 c2 c3 c4 : Nat) (w : World)
    (hc : ∀ W, Below w.heap.size w W → Calls Tryz.prog 50 #[.agg #[.int .i64 k1, .float .f64 f1, .string s1, .slice a1 n1 c1, .slice a2 n2 c2], .agg #[.int .i64 k2, .float .f64 f2, .string s2, .slice a3 n3 c3, .slice a4 n4 c4]] W fun e w' => e = .returned (.tuple #[.agg #[.int .i64 k, .float .f64 f, .string s, .slice none 0 0, .slice none 0 0], .agg #[.bool b, .int .i64 k', .float .f64 0, .string s', .slice none 0 0, .slice none 0 0]]) ∧ Below W.heap.size W w') :
    Calls Tryz.prog 25 #[.string ⟨#[43]⟩, .agg #[.int .i64 k1, .float .f64 f1, .string s1, .slice a1 n1 c1, .slice a2 n2 c2], .agg #[.int .i64 k2, .float .f64 f2, .string s2, .slice a3 n3 c3, .slice a4 n4 c4]] w fun e w' => e = .returned (.tuple #[.agg #[.int .i64 k, .float .f64 f, .string s, .slice none 0 0, .slice none 0 0], .agg #[.bool b, .int .i64 k', .float .f64 0, .string s', .slice none 0 0, .slice none 0 0]]) ∧ Below w.heap.size w w' := by
  have hsf := run_store_float Tryz.prog
  have HC := Lib.hid hc
  have n43 : ((⟨#[43]⟩ : ByteArray).toList == (⟨#[43]⟩ : ByteArray).toList) = true := by rw [Lib.toList_data]; rfl
  clear hc
  go_enter Tryz.func25, Tryz.ntmps25
  go_wp2_with fail
  have hr := R4.new w #[.int .i64 k1, .float .f64 f1, .string s1, .slice a1 n1 c1, .slice a2 n2 c2] #[.int .i64 k2, .float .f64 f2, .string s2, .slice a3 n3 c3, .slice a4 n4 c4] zeroA okA
  have hb := four_below w (.cells #[.int .i64 k1, .float .f64 f1, .string s1, .slice a1 n1 c1, .slice a2 n2 c2] 27) (.cells #[.int .i64 k2, .float .f64 f2, .string s2, .slice a3 n3 c3, .slice a4 n4 c4] 27) (.cells zeroA 27) (.cells okA 31)
  have he : ((((w.alloc (.cells #[.int .i64 k1, .float .f64 f1, .string s1, .slice a1 n1 c1, .slice a2 n2 c2] 27)).alloc (.cells #[.int .i64 k2, .float .f64 f2, .string s2, .slice a3 n3 c3, .slice a4 n4 c4] 27)).alloc (.cells zeroA 27)).alloc (.cells okA 31)) = ((((w.alloc (.cells #[.int .i64 k1, .float .f64 f1, .string s1, .slice a1 n1 c1, .slice a2 n2 c2] 27)).alloc (.cells #[.int .i64 k2, .float .f64 f2, .string s2, .slice a3 n3 c3, .slice a4 n4 c4] 27)).alloc (.cells #[.int .i64 0, .float .f64 0, .string ⟨#[]⟩, .slice none 0 0, .slice none 0 0] 27)).alloc (.cells #[.bool false, .int .i64 0, .float .f64 0, .string ⟨#[]⟩, .slice none 0 0, .slice none 0 0] 31)) := rfl
  rw [he] at hr hb
  clear he
  generalize ((((w.alloc (.cells #[.int .i64 k1, .float .f64 f1, .string s1, .slice a1 n1 c1, .slice a2 n2 c2] 27)).alloc (.cells #[.int .i64 k2, .float .f64 f2, .string s2, .slice a3 n3 c3, .slice a4 n4 c4] 27)).alloc (.cells #[.int .i64 0, .float .f64 0, .string ⟨#[]⟩, .slice none 0 0, .slice none 0 0] 27)).alloc (.cells #[.bool false, .int .i64 0, .float .f64 0, .string ⟨#[]⟩, .slice none 0 0, .slice none 0 0] 31)) = W0 at hr hb ⊢
  obtain ⟨x0, x1, x2, x3, x4, _⟩ := row5' hr.r0
  obtain ⟨y0, y1, y2, y3, y4, _⟩ := row5' hr.r1
  have HR := Lib.hid hr
  have HB := Lib.hid hb
  clear hr hb
  refine (HC.out _ HB.out).mono ?_
  rintro e w2 ⟨rfl, hb2⟩
  have R2 := Lib.hid (HR.out.below hb2)
  have B2 := Lib.hid (HB.out.trans (hb2.mono HB.out.size))
  clear hb2 x0 x1 x2 x3 x4 y0 y1 y2 y3 y4
  obtain ⟨x0, x1, x2, x3, x4, _⟩ := row5' R2.out.r0
  obtain ⟨y0, y1, y2, y3, y4, _⟩ := row5' R2.out.r1
  obtain ⟨⟨u0, u1, u2, u3, u4⟩, ⟨v0, v1, v2, v3, v4, v5⟩, g1, g2⟩ := R2.out.outs
  go_wp2_with fail
  obtain ⟨q1, q2, q3⟩ := R2.out.ends B2.out (.int .i64 k) (.float .f64 f) (.string s) (.slice none 0 0) (.slice none 0 0) (.bool b) (.int .i64 k') (.float .f64 0) (.string s') (.slice none 0 0) (.slice none 0 0)
  refine bodyPost_ret_by (results_two_rows rfl _ _ (w.heap.size + 2) (w.heap.size + 3) 27 31 _ _ (0, 0) (0, 0) _ _ rfl rfl q1 q2 Tryz.underlying27 rfl sizeVal Tryz.underlying31 rfl infoErr) rfl ?_
  exact ⟨rfl, q3⟩
set_option maxRecDepth 100000 in
set_option maxHeartbeats 4000000 in
theorem operate_multiply (k k' : Int) (f : Nat) (s s' : ByteArray) (b : Bool) (k1 k2 : Int) (f1 f2 : Nat) (s1 s2 : ByteArray) (a1 a2 a3 a4 : Option Addr) (n1 n2 n3 n4 c1 c2 c3 c4 : Nat) (w : World)
    (hc : ∀ W, Below w.heap.size w W → Calls Tryz.prog 52 #[.agg #[.int .i64 k1, .float .f64 f1, .string s1, .slice a1 n1 c1, .slice a2 n2 c2], .agg #[.int .i64 k2, .float .f64 f2, .string s2, .slice a3 n3 c3, .slice a4 n4 c4]] W fun e w' => e = .returned (.tuple #[.agg #[.int .i64 k, .float .f64 f, .string s, .slice none 0 0, .slice none 0 0], .agg #[.bool b, .int .i64 k', .float .f64 0, .string s', .slice none 0 0, .slice none 0 0]]) ∧ Below W.heap.size W w') :
    Calls Tryz.prog 25 #[.string ⟨#[42]⟩, .agg #[.int .i64 k1, .float .f64 f1, .string s1, .slice a1 n1 c1, .slice a2 n2 c2], .agg #[.int .i64 k2, .float .f64 f2, .string s2, .slice a3 n3 c3, .slice a4 n4 c4]] w fun e w' => e = .returned (.tuple #[.agg #[.int .i64 k, .float .f64 f, .string s, .slice none 0 0, .slice none 0 0], .agg #[.bool b, .int .i64 k', .float .f64 0, .string s', .slice none 0 0, .slice none 0 0]]) ∧ Below w.heap.size w w' := by
  have hsf := run_store_float Tryz.prog
  have HC := Lib.hid hc
  have n43 : ((⟨#[42]⟩ : ByteArray).toList == (⟨#[43]⟩ : ByteArray).toList) = false := by rw [Lib.toList_data, Lib.toList_data]; rfl
  have n45 : ((⟨#[42]⟩ : ByteArray).toList == (⟨#[45]⟩ : ByteArray).toList) = false := by rw [Lib.toList_data, Lib.toList_data]; rfl
  have n42 : ((⟨#[42]⟩ : ByteArray).toList == (⟨#[42]⟩ : ByteArray).toList) = true := by rw [Lib.toList_data]; rfl
  clear hc
  go_enter Tryz.func25, Tryz.ntmps25
  go_wp2_with fail
  have hr := R4.new w #[.int .i64 k1, .float .f64 f1, .string s1, .slice a1 n1 c1, .slice a2 n2 c2] #[.int .i64 k2, .float .f64 f2, .string s2, .slice a3 n3 c3, .slice a4 n4 c4] zeroA okA
  have hb := four_below w (.cells #[.int .i64 k1, .float .f64 f1, .string s1, .slice a1 n1 c1, .slice a2 n2 c2] 27) (.cells #[.int .i64 k2, .float .f64 f2, .string s2, .slice a3 n3 c3, .slice a4 n4 c4] 27) (.cells zeroA 27) (.cells okA 31)
  have he : ((((w.alloc (.cells #[.int .i64 k1, .float .f64 f1, .string s1, .slice a1 n1 c1, .slice a2 n2 c2] 27)).alloc (.cells #[.int .i64 k2, .float .f64 f2, .string s2, .slice a3 n3 c3, .slice a4 n4 c4] 27)).alloc (.cells zeroA 27)).alloc (.cells okA 31)) = ((((w.alloc (.cells #[.int .i64 k1, .float .f64 f1, .string s1, .slice a1 n1 c1, .slice a2 n2 c2] 27)).alloc (.cells #[.int .i64 k2, .float .f64 f2, .string s2, .slice a3 n3 c3, .slice a4 n4 c4] 27)).alloc (.cells #[.int .i64 0, .float .f64 0, .string ⟨#[]⟩, .slice none 0 0, .slice none 0 0] 27)).alloc (.cells #[.bool false, .int .i64 0, .float .f64 0, .string ⟨#[]⟩, .slice none 0 0, .slice none 0 0] 31)) := rfl
  rw [he] at hr hb
  clear he
  generalize ((((w.alloc (.cells #[.int .i64 k1, .float .f64 f1, .string s1, .slice a1 n1 c1, .slice a2 n2 c2] 27)).alloc (.cells #[.int .i64 k2, .float .f64 f2, .string s2, .slice a3 n3 c3, .slice a4 n4 c4] 27)).alloc (.cells #[.int .i64 0, .float .f64 0, .string ⟨#[]⟩, .slice none 0 0, .slice none 0 0] 27)).alloc (.cells #[.bool false, .int .i64 0, .float .f64 0, .string ⟨#[]⟩, .slice none 0 0, .slice none 0 0] 31)) = W0 at hr hb ⊢
  obtain ⟨x0, x1, x2, x3, x4, _⟩ := row5' hr.r0
  obtain ⟨y0, y1, y2, y3, y4, _⟩ := row5' hr.r1
  have HR := Lib.hid hr
  have HB := Lib.hid hb
  clear hr hb
  refine (HC.out _ HB.out).mono ?_
  rintro e w2 ⟨rfl, hb2⟩
  have R2 := Lib.hid (HR.out.below hb2)
  have B2 := Lib.hid (HB.out.trans (hb2.mono HB.out.size))
  clear hb2 x0 x1 x2 x3 x4 y0 y1 y2 y3 y4
  obtain ⟨x0, x1, x2, x3, x4, _⟩ := row5' R2.out.r0
  obtain ⟨y0, y1, y2, y3, y4, _⟩ := row5' R2.out.r1
  obtain ⟨⟨u0, u1, u2, u3, u4⟩, ⟨v0, v1, v2, v3, v4, v5⟩, g1, g2⟩ := R2.out.outs
  go_wp2_with fail
  obtain ⟨q1, q2, q3⟩ := R2.out.ends B2.out (.int .i64 k) (.float .f64 f) (.string s) (.slice none 0 0) (.slice none 0 0) (.bool b) (.int .i64 k') (.float .f64 0) (.string s') (.slice none 0 0) (.slice none 0 0)
  refine bodyPost_ret_by (results_two_rows rfl _ _ (w.heap.size + 2) (w.heap.size + 3) 27 31 _ _ (0, 0) (0, 0) _ _ rfl rfl q1 q2 Tryz.underlying27 rfl sizeVal Tryz.underlying31 rfl infoErr) rfl ?_
  exact ⟨rfl, q3⟩
set_option maxRecDepth 100000 in
set_option maxHeartbeats 4000000 in
theorem operate_divide (k k' : Int) (f : Nat) (s s' : ByteArray) (b : Bool) (k1 k2 : Int) (f1 f2 : Nat) (s1 s2 : ByteArray) (a1 a2 a3 a4 : Option Addr) (n1 n2 n3 n4 c1 c2 c3 c4 : Nat) (w : World)
    (hc : ∀ W, Below w.heap.size w W → Calls Tryz.prog 53 #[.agg #[.int .i64 k1, .float .f64 f1, .string s1, .slice a1 n1 c1, .slice a2 n2 c2], .agg #[.int .i64 k2, .float .f64 f2, .string s2, .slice a3 n3 c3, .slice a4 n4 c4]] W fun e w' => e = .returned (.tuple #[.agg #[.int .i64 k, .float .f64 f, .string s, .slice none 0 0, .slice none 0 0], .agg #[.bool b, .int .i64 k', .float .f64 0, .string s', .slice none 0 0, .slice none 0 0]]) ∧ Below W.heap.size W w') :
    Calls Tryz.prog 25 #[.string ⟨#[47]⟩, .agg #[.int .i64 k1, .float .f64 f1, .string s1, .slice a1 n1 c1, .slice a2 n2 c2], .agg #[.int .i64 k2, .float .f64 f2, .string s2, .slice a3 n3 c3, .slice a4 n4 c4]] w fun e w' => e = .returned (.tuple #[.agg #[.int .i64 k, .float .f64 f, .string s, .slice none 0 0, .slice none 0 0], .agg #[.bool b, .int .i64 k', .float .f64 0, .string s', .slice none 0 0, .slice none 0 0]]) ∧ Below w.heap.size w w' := by
  have hsf := run_store_float Tryz.prog
  have HC := Lib.hid hc
  have n43 : ((⟨#[47]⟩ : ByteArray).toList == (⟨#[43]⟩ : ByteArray).toList) = false := by rw [Lib.toList_data, Lib.toList_data]; rfl
  have n45 : ((⟨#[47]⟩ : ByteArray).toList == (⟨#[45]⟩ : ByteArray).toList) = false := by rw [Lib.toList_data, Lib.toList_data]; rfl
  have n42 : ((⟨#[47]⟩ : ByteArray).toList == (⟨#[42]⟩ : ByteArray).toList) = false := by rw [Lib.toList_data, Lib.toList_data]; rfl
  have n47 : ((⟨#[47]⟩ : ByteArray).toList == (⟨#[47]⟩ : ByteArray).toList) = true := by rw [Lib.toList_data]; rfl
  clear hc
  go_enter Tryz.func25, Tryz.ntmps25
  go_wp2_with fail
  have hr := R4.new w #[.int .i64 k1, .float .f64 f1, .string s1, .slice a1 n1 c1, .slice a2 n2 c2] #[.int .i64 k2, .float .f64 f2, .string s2, .slice a3 n3 c3, .slice a4 n4 c4] zeroA okA
  have hb := four_below w (.cells #[.int .i64 k1, .float .f64 f1, .string s1, .slice a1 n1 c1, .slice a2 n2 c2] 27) (.cells #[.int .i64 k2, .float .f64 f2, .string s2, .slice a3 n3 c3, .slice a4 n4 c4] 27) (.cells zeroA 27) (.cells okA 31)
  have he : ((((w.alloc (.cells #[.int .i64 k1, .float .f64 f1, .string s1, .slice a1 n1 c1, .slice a2 n2 c2] 27)).alloc (.cells #[.int .i64 k2, .float .f64 f2, .string s2, .slice a3 n3 c3, .slice a4 n4 c4] 27)).alloc (.cells zeroA 27)).alloc (.cells okA 31)) = ((((w.alloc (.cells #[.int .i64 k1, .float .f64 f1, .string s1, .slice a1 n1 c1, .slice a2 n2 c2] 27)).alloc (.cells #[.int .i64 k2, .float .f64 f2, .string s2, .slice a3 n3 c3, .slice a4 n4 c4] 27)).alloc (.cells #[.int .i64 0, .float .f64 0, .string ⟨#[]⟩, .slice none 0 0, .slice none 0 0] 27)).alloc (.cells #[.bool false, .int .i64 0, .float .f64 0, .string ⟨#[]⟩, .slice none 0 0, .slice none 0 0] 31)) := rfl
  rw [he] at hr hb
  clear he
  generalize ((((w.alloc (.cells #[.int .i64 k1, .float .f64 f1, .string s1, .slice a1 n1 c1, .slice a2 n2 c2] 27)).alloc (.cells #[.int .i64 k2, .float .f64 f2, .string s2, .slice a3 n3 c3, .slice a4 n4 c4] 27)).alloc (.cells #[.int .i64 0, .float .f64 0, .string ⟨#[]⟩, .slice none 0 0, .slice none 0 0] 27)).alloc (.cells #[.bool false, .int .i64 0, .float .f64 0, .string ⟨#[]⟩, .slice none 0 0, .slice none 0 0] 31)) = W0 at hr hb ⊢
  obtain ⟨x0, x1, x2, x3, x4, _⟩ := row5' hr.r0
  obtain ⟨y0, y1, y2, y3, y4, _⟩ := row5' hr.r1
  have HR := Lib.hid hr
  have HB := Lib.hid hb
  clear hr hb
  refine (HC.out _ HB.out).mono ?_
  rintro e w2 ⟨rfl, hb2⟩
  have R2 := Lib.hid (HR.out.below hb2)
  have B2 := Lib.hid (HB.out.trans (hb2.mono HB.out.size))
  clear hb2 x0 x1 x2 x3 x4 y0 y1 y2 y3 y4
  obtain ⟨x0, x1, x2, x3, x4, _⟩ := row5' R2.out.r0
  obtain ⟨y0, y1, y2, y3, y4, _⟩ := row5' R2.out.r1
  obtain ⟨⟨u0, u1, u2, u3, u4⟩, ⟨v0, v1, v2, v3, v4, v5⟩, g1, g2⟩ := R2.out.outs
  go_wp2_with fail
  obtain ⟨q1, q2, q3⟩ := R2.out.ends B2.out (.int .i64 k) (.float .f64 f) (.string s) (.slice none 0 0) (.slice none 0 0) (.bool b) (.int .i64 k') (.float .f64 0) (.string s') (.slice none 0 0) (.slice none 0 0)
  refine bodyPost_ret_by (results_two_rows rfl _ _ (w.heap.size + 2) (w.heap.size + 3) 27 31 _ _ (0, 0) (0, 0) _ _ rfl rfl q1 q2 Tryz.underlying27 rfl sizeVal Tryz.underlying31 rfl infoErr) rfl ?_
  exact ⟨rfl, q3⟩
set_option maxRecDepth 100000 in
set_option maxHeartbeats 4000000 in
theorem operate_remainder (k k' : Int) (f : Nat) (s s' : ByteArray) (b : Bool) (k1 k2 : Int) (f1 f2 : Nat) (s1 s2 : ByteArray) (a1 a2 a3 a4 : Option Addr) (n1 n2 n3 n4 c1 c2 c3 c4 : Nat) (w : World)
    (hc : ∀ W, Below w.heap.size w W → Calls Tryz.prog 54 #[.agg #[.int .i64 k1, .float .f64 f1, .string s1, .slice a1 n1 c1, .slice a2 n2 c2], .agg #[.int .i64 k2, .float .f64 f2, .string s2, .slice a3 n3 c3, .slice a4 n4 c4]] W fun e w' => e = .returned (.tuple #[.agg #[.int .i64 k, .float .f64 f, .string s, .slice none 0 0, .slice none 0 0], .agg #[.bool b, .int .i64 k', .float .f64 0, .string s', .slice none 0 0, .slice none 0 0]]) ∧ Below W.heap.size W w') :
    Calls Tryz.prog 25 #[.string ⟨#[37]⟩, .agg #[.int .i64 k1, .float .f64 f1, .string s1, .slice a1 n1 c1, .slice a2 n2 c2], .agg #[.int .i64 k2, .float .f64 f2, .string s2, .slice a3 n3 c3, .slice a4 n4 c4]] w fun e w' => e = .returned (.tuple #[.agg #[.int .i64 k, .float .f64 f, .string s, .slice none 0 0, .slice none 0 0], .agg #[.bool b, .int .i64 k', .float .f64 0, .string s', .slice none 0 0, .slice none 0 0]]) ∧ Below w.heap.size w w' := by
  have hsf := run_store_float Tryz.prog
  have HC := Lib.hid hc
  have n43 : ((⟨#[37]⟩ : ByteArray).toList == (⟨#[43]⟩ : ByteArray).toList) = false := by rw [Lib.toList_data, Lib.toList_data]; rfl
  have n45 : ((⟨#[37]⟩ : ByteArray).toList == (⟨#[45]⟩ : ByteArray).toList) = false := by rw [Lib.toList_data, Lib.toList_data]; rfl
  have n42 : ((⟨#[37]⟩ : ByteArray).toList == (⟨#[42]⟩ : ByteArray).toList) = false := by rw [Lib.toList_data, Lib.toList_data]; rfl
  have n47 : ((⟨#[37]⟩ : ByteArray).toList == (⟨#[47]⟩ : ByteArray).toList) = false := by rw [Lib.toList_data, Lib.toList_data]; rfl
  have n37 : ((⟨#[37]⟩ : ByteArray).toList == (⟨#[37]⟩ : ByteArray).toList) = true := by rw [Lib.toList_data]; rfl
  clear hc
  go_enter Tryz.func25, Tryz.ntmps25
  go_wp2_with fail
  have hr := R4.new w #[.int .i64 k1, .float .f64 f1, .string s1, .slice a1 n1 c1, .slice a2 n2 c2] #[.int .i64 k2, .float .f64 f2, .string s2, .slice a3 n3 c3, .slice a4 n4 c4] zeroA okA
  have hb := four_below w (.cells #[.int .i64 k1, .float .f64 f1, .string s1, .slice a1 n1 c1, .slice a2 n2 c2] 27) (.cells #[.int .i64 k2, .float .f64 f2, .string s2, .slice a3 n3 c3, .slice a4 n4 c4] 27) (.cells zeroA 27) (.cells okA 31)
  have he : ((((w.alloc (.cells #[.int .i64 k1, .float .f64 f1, .string s1, .slice a1 n1 c1, .slice a2 n2 c2] 27)).alloc (.cells #[.int .i64 k2, .float .f64 f2, .string s2, .slice a3 n3 c3, .slice a4 n4 c4] 27)).alloc (.cells zeroA 27)).alloc (.cells okA 31)) = ((((w.alloc (.cells #[.int .i64 k1, .float .f64 f1, .string s1, .slice a1 n1 c1, .slice a2 n2 c2] 27)).alloc (.cells #[.int .i64 k2, .float .f64 f2, .string s2, .slice a3 n3 c3, .slice a4 n4 c4] 27)).alloc (.cells #[.int .i64 0, .float .f64 0, .string ⟨#[]⟩, .slice none 0 0, .slice none 0 0] 27)).alloc (.cells #[.bool false, .int .i64 0, .float .f64 0, .string ⟨#[]⟩, .slice none 0 0, .slice none 0 0] 31)) := rfl
  rw [he] at hr hb
  clear he
  generalize ((((w.alloc (.cells #[.int .i64 k1, .float .f64 f1, .string s1, .slice a1 n1 c1, .slice a2 n2 c2] 27)).alloc (.cells #[.int .i64 k2, .float .f64 f2, .string s2, .slice a3 n3 c3, .slice a4 n4 c4] 27)).alloc (.cells #[.int .i64 0, .float .f64 0, .string ⟨#[]⟩, .slice none 0 0, .slice none 0 0] 27)).alloc (.cells #[.bool false, .int .i64 0, .float .f64 0, .string ⟨#[]⟩, .slice none 0 0, .slice none 0 0] 31)) = W0 at hr hb ⊢
  obtain ⟨x0, x1, x2, x3, x4, _⟩ := row5' hr.r0
  obtain ⟨y0, y1, y2, y3, y4, _⟩ := row5' hr.r1
  have HR := Lib.hid hr
  have HB := Lib.hid hb
  clear hr hb
  refine (HC.out _ HB.out).mono ?_
  rintro e w2 ⟨rfl, hb2⟩
  have R2 := Lib.hid (HR.out.below hb2)
  have B2 := Lib.hid (HB.out.trans (hb2.mono HB.out.size))
  clear hb2 x0 x1 x2 x3 x4 y0 y1 y2 y3 y4
  obtain ⟨x0, x1, x2, x3, x4, _⟩ := row5' R2.out.r0
  obtain ⟨y0, y1, y2, y3, y4, _⟩ := row5' R2.out.r1
  obtain ⟨⟨u0, u1, u2, u3, u4⟩, ⟨v0, v1, v2, v3, v4, v5⟩, g1, g2⟩ := R2.out.outs
  go_wp2_with fail
  obtain ⟨q1, q2, q3⟩ := R2.out.ends B2.out (.int .i64 k) (.float .f64 f) (.string s) (.slice none 0 0) (.slice none 0 0) (.bool b) (.int .i64 k') (.float .f64 0) (.string s') (.slice none 0 0) (.slice none 0 0)
  refine bodyPost_ret_by (results_two_rows rfl _ _ (w.heap.size + 2) (w.heap.size + 3) 27 31 _ _ (0, 0) (0, 0) _ _ rfl rfl q1 q2 Tryz.underlying27 rfl sizeVal Tryz.underlying31 rfl infoErr) rfl ?_
  exact ⟨rfl, q3⟩
end Go.Proofs.YtdlighmnlcklnaaGreatDoor
namespace Go.Proofs.YtdlighmnlcklnaaGreatDoor
open Go Go.RowKit

theorem row6' {w : World} {b : Nat} {u0 u1 u2 u3 u4 u5 : Value} {t : TypeId} (hb : w.heap[b]? = some (.cells #[u0, u1, u2, u3, u4, u5] t (0, 0))) :
    w.cell? ⟨b, 0, none⟩ = some u0 ∧ w.cell? ⟨b, 1, none⟩ = some u1 ∧ w.cell? ⟨b, 2, none⟩ = some u2 ∧ w.cell? ⟨b, 3, none⟩ = some u3 ∧ w.cell? ⟨b, 4, none⟩ = some u4 ∧ w.cell? ⟨b, 5, none⟩ = some u5 := by
  simp [World.cell?, hb]
theorem R4.drewR {n : Nat} {A B C D : Array Value} {W : World} (h : R4 n A B C D W) : R4 n A B C D W.drew := h.below (Below.refl _ _).drew
set_option maxRecDepth 100000 in
set_option maxHeartbeats 4000000 in
theorem Operate_leaf (op : ByteArray) (k k' : Int) (f : Nat) (s s' : ByteArray) (b : Bool) (hk : -9223372036854775808 ≤ k ∧ k ≤ 9223372036854775807) (hf : f < 18446744073709551616) (hs : s.size ≤ 1000) (k1 k2 : Int) (f1 f2 : Nat) (s1 s2 : ByteArray) (a1 a2 a3 a4 : Option Addr) (n1 n2 n3 n4 c1 c2 c3 c4 : Nat) (w : World)
    (hc : ∀ W, Below w.heap.size w W → Calls Tryz.prog 25 #[.string op, .agg #[.int .i64 k1, .float .f64 f1, .string s1, .slice a1 n1 c1, .slice a2 n2 c2], .agg #[.int .i64 k2, .float .f64 f2, .string s2, .slice a3 n3 c3, .slice a4 n4 c4]] W fun e w' => e = .returned (.tuple #[.agg #[.int .i64 k, .float .f64 f, .string s, .slice none 0 0, .slice none 0 0], .agg #[.bool b, .int .i64 k', .float .f64 0, .string s', .slice none 0 0, .slice none 0 0]]) ∧ Below W.heap.size W w') :
    Calls Tryz.prog 7 #[.string op, .agg #[.int .i64 k1, .float .f64 f1, .string s1, .slice a1 n1 c1, .slice a2 n2 c2], .agg #[.int .i64 k2, .float .f64 f2, .string s2, .slice a3 n3 c3, .slice a4 n4 c4]] w fun e w' => ∃ p1 q1 r1 p2 q2 r2, e = .returned (.tuple #[.agg #[.int .i64 k, .float .f64 f, .string s, .slice p1 q1 r1, .slice p2 q2 r2], .agg #[.bool b, .int .i64 k', .float .f64 0, .string s', .slice none 0 0, .slice none 0 0]]) ∧ Below w.heap.size w w' := by
  have hsf := run_store_float Tryz.prog
  have hcp : ∀ W, Calls Tryz.prog 26 #[.agg #[.int .i64 k, .float .f64 f, .string s, .slice none 0 0, .slice none 0 0]] W fun e w' => ∃ p1 q1 r1 p2 q2 r2, e = .returned (.agg #[.int .i64 k, .float .f64 f, .string s, .slice p1 q1 r1, .slice p2 q2 r2]) ∧ Below W.heap.size W w' := fun W =>
    (copyOf_any 1 (leafV k f s) nilS nilS W (leaf_at W _ 0 k f s hk hf (by omega))).mono fun e w' h => by
      obtain ⟨lv, kv, rfl, hat, hb⟩ := h
      obtain ⟨p1, q1, r1, p2, q2, r2, rfl, rfl⟩ := AtP.slices hat
      exact ⟨p1, q1, r1, p2, q2, r2, rfl, hb⟩
  have HC := Lib.hid hc
  have HCP := Lib.hid hcp
  clear hc hcp
  go_enter Tryz.func7, Tryz.ntmps7
  go_wp2_with fail
  have hr := R4.new w #[.int .i64 k1, .float .f64 f1, .string s1, .slice a1 n1 c1, .slice a2 n2 c2] #[.int .i64 k2, .float .f64 f2, .string s2, .slice a3 n3 c3, .slice a4 n4 c4] zeroA okA
  have hb := four_below w (.cells #[.int .i64 k1, .float .f64 f1, .string s1, .slice a1 n1 c1, .slice a2 n2 c2] 27) (.cells #[.int .i64 k2, .float .f64 f2, .string s2, .slice a3 n3 c3, .slice a4 n4 c4] 27) (.cells zeroA 27) (.cells okA 31)
  have he : ((((w.alloc (.cells #[.int .i64 k1, .float .f64 f1, .string s1, .slice a1 n1 c1, .slice a2 n2 c2] 27)).alloc (.cells #[.int .i64 k2, .float .f64 f2, .string s2, .slice a3 n3 c3, .slice a4 n4 c4] 27)).alloc (.cells zeroA 27)).alloc (.cells okA 31)) = ((((w.alloc (.cells #[.int .i64 k1, .float .f64 f1, .string s1, .slice a1 n1 c1, .slice a2 n2 c2] 27)).alloc (.cells #[.int .i64 k2, .float .f64 f2, .string s2, .slice a3 n3 c3, .slice a4 n4 c4] 27)).alloc (.cells #[.int .i64 0, .float .f64 0, .string ⟨#[]⟩, .slice none 0 0, .slice none 0 0] 27)).alloc (.cells #[.bool false, .int .i64 0, .float .f64 0, .string ⟨#[]⟩, .slice none 0 0, .slice none 0 0] 31)) := rfl
  rw [he] at hr hb
  clear he
  generalize ((((w.alloc (.cells #[.int .i64 k1, .float .f64 f1, .string s1, .slice a1 n1 c1, .slice a2 n2 c2] 27)).alloc (.cells #[.int .i64 k2, .float .f64 f2, .string s2, .slice a3 n3 c3, .slice a4 n4 c4] 27)).alloc (.cells #[.int .i64 0, .float .f64 0, .string ⟨#[]⟩, .slice none 0 0, .slice none 0 0] 27)).alloc (.cells #[.bool false, .int .i64 0, .float .f64 0, .string ⟨#[]⟩, .slice none 0 0, .slice none 0 0] 31)) = W0 at hr hb ⊢
  obtain ⟨x0, x1, x2, x3, x4, _⟩ := row5' hr.r0
  obtain ⟨y0, y1, y2, y3, y4, _⟩ := row5' hr.r1
  have HR := Lib.hid hr
  have HB := Lib.hid hb
  clear hr hb
  refine (HC.out _ HB.out).mono ?_
  rintro e w2 ⟨rfl, hb2⟩
  have R2 := Lib.hid (HR.out.below hb2)
  have B2 := Lib.hid (HB.out.trans (hb2.mono HB.out.size))
  clear hb2 x0 x1 x2 x3 x4 y0 y1 y2 y3 y4
  obtain ⟨x0, x1, x2, x3, x4, _⟩ := row5' R2.out.r0
  obtain ⟨y0, y1, y2, y3, y4, _⟩ := row5' R2.out.r1
  go_wp2_with fail
  obtain ⟨q1, q2⟩ := two_new w2 (.cells #[.int .i64 k, .float .f64 f, .string s, .slice none 0 0, .slice none 0 0] 27) (.cells #[.bool b, .int .i64 k', .float .f64 0, .string s', .slice none 0 0, .slice none 0 0] 31)
  have hb2 := (B2.out.alloc B2.out.size (.cells #[.int .i64 k, .float .f64 f, .string s, .slice none 0 0, .slice none 0 0] 27)).alloc (by have := B2.out.size; simp; omega) (.cells #[.bool b, .int .i64 k', .float .f64 0, .string s', .slice none 0 0, .slice none 0 0] 31)
  have hr2 := R2.out.below (((Below.refl w2.heap.size w2).alloc (Nat.le_refl _) (.cells #[.int .i64 k, .float .f64 f, .string s, .slice none 0 0, .slice none 0 0] 27)).alloc (by simp) (.cells #[.bool b, .int .i64 k', .float .f64 0, .string s', .slice none 0 0, .slice none 0 0] 31))
  have hz : w2.heap.size + 2 = ((w2.alloc (.cells #[.int .i64 k, .float .f64 f, .string s, .slice none 0 0, .slice none 0 0] 27)).alloc (.cells #[.bool b, .int .i64 k', .float .f64 0, .string s', .slice none 0 0, .slice none 0 0] 31)).heap.size := by simp
  have hlt := R2.out.lt
  generalize (w2.alloc (.cells #[.int .i64 k, .float .f64 f, .string s, .slice none 0 0, .slice none 0 0] 27)).alloc (.cells #[.bool b, .int .i64 k', .float .f64 0, .string s', .slice none 0 0, .slice none 0 0] 31) = W1 at q1 q2 hb2 hr2 hz ⊢
  clear x0 x1 x2 x3 x4 y0 y1 y2 y3 y4
  obtain ⟨x0, x1, x2, x3, x4, _⟩ := row5' q1
  obtain ⟨y0, y1, y2, y3, y4, y5⟩ := row6' q2
  have ne1 : ¬ (w2.heap.size + 1 = w.heap.size + 2) := by omega
  have ne2 : ¬ (w2.heap.size + 1 = w.heap.size + 3) := by omega
  have Q2 := Lib.hid q2
  have R3 := Lib.hid hr2.drewR
  have B3 := Lib.hid hb2.drew
  have HZ := Lib.hid hz
  clear q1 q2 hb2 hr2 hz R2 B2 HR HB
  go_region_with (go_at_call 26; (with_reducible refine (HCP.out _).mono ?_); rintro e w3 ⟨p1, m1, r1, p2, m2, r2, rfl, hb3⟩; have R4F := Lib.hid (R3.out.below hb3); have B4 := Lib.hid (B3.out.trans (hb3.mono B3.out.size)); obtain ⟨z0, z1, z2, z3, z4, z5⟩ := row6' ((hb3.block _ (show w2.heap.size + 1 < W1.heap.size by have := HZ.out; omega)).trans Q2.out); clear hb3; obtain ⟨⟨u0, u1, u2, u3, u4⟩, ⟨v0, v1, v2, v3, v4, v5⟩, g1, g2⟩ := R4F.out.outs)
  all_goals
    go_wp2_with fail
    first
      | (obtain ⟨q1, q2, q3⟩ := R4F.out.ends B4.out (.int .i64 k) (.float .f64 f) (.string s) (.slice p1 m1 r1) (.slice p2 m2 r2) (.bool b) (.int .i64 k') (.float .f64 0) (.string s') (.slice none 0 0) (.slice none 0 0)
         refine bodyPost_ret_by (results_two_rows rfl _ _ (w.heap.size + 2) (w.heap.size + 3) 27 31 _ _ (0, 0) (0, 0) _ _ rfl rfl q1 q2 Tryz.underlying27 rfl sizeVal Tryz.underlying31 rfl infoErr) rfl ?_
         exact ⟨_, _, _, _, _, _, rfl, q3⟩)
      | (obtain ⟨q1, q2, q3⟩ := R4F.out.ends2 B4.out (.int .i64 k) (.float .f64 f) (.string s) (.slice p1 m1 r1) (.slice p2 m2 r2) (.bool b) (.int .i64 k') (.float .f64 0) (.string s') (.slice none 0 0) (.slice none 0 0)
         refine bodyPost_ret_by (results_two_rows rfl _ _ (w.heap.size + 2) (w.heap.size + 3) 27 31 _ _ (0, 0) (0, 0) _ _ rfl rfl q1 q2 Tryz.underlying27 rfl sizeVal Tryz.underlying31 rfl infoErr) rfl ?_
         exact ⟨_, _, _, _, _, _, rfl, q3⟩)
end Go.Proofs.YtdlighmnlcklnaaGreatDoor
namespace Go.Proofs.YtdlighmnlcklnaaGreatDoor
open Go Go.RowKit

theorem text_obj : textV 2 (objV ⟨#[97]⟩ 4607182418800017408) = [123, 34, 97, 34, 58, 49, 125] := by kernel_rfl
theorem text_2 : textV 1 (numV 4611686018427387904) = [50] := by kernel_rfl
theorem text_1 : textV 1 (numV 4607182418800017408) = [49] := by kernel_rfl
theorem text_0 : textV 1 (numV 0) = [48] := by kernel_rfl
theorem right_objA : rightV 2 (objV ⟨#[97]⟩ 4607182418800017408) = true := by kernel_rfl
theorem right_objA4 : rightV 10000 (objV ⟨#[97]⟩ 4607182418800017408) = true := by kernel_rfl
theorem right_2 : rightV 1 (numV 4611686018427387904) = true := by kernel_rfl
theorem right_1 : rightV 1 (numV 4607182418800017408) = true := by kernel_rfl
theorem right_0 : rightV 1 (numV 0) = true := by kernel_rfl
theorem right_7 : rightV 10000 (leafV 7 0 ⟨#[]⟩) = false := by kernel_rfl
theorem tell_obj : tellB 2 (objV ⟨#[97]⟩ 4607182418800017408) = ⟨#[111, 98, 106, 101, 99, 116, 32, 40, 123, 34, 97, 34, 58, 49, 125, 41]⟩ := by unfold tellB; rw [text_obj]; kernel_rfl
theorem tell_2 : tellB 1 (numV 4611686018427387904) = ⟨#[110, 117, 109, 98, 101, 114, 32, 40, 50, 41]⟩ := by unfold tellB; rw [text_2]; kernel_rfl
theorem tell_1 : tellB 1 (numV 4607182418800017408) = ⟨#[110, 117, 109, 98, 101, 114, 32, 40, 49, 41]⟩ := by unfold tellB; rw [text_1]; kernel_rfl
theorem tell_0 : tellB 1 (numV 0) = ⟨#[110, 117, 109, 98, 101, 114, 32, 40, 48, 41]⟩ := by unfold tellB; rw [text_0]; kernel_rfl
end Go.Proofs.YtdlighmnlcklnaaGreatDoor
namespace Go.Proofs.YtdlighmnlcklnaaGreatDoor
open Go Go.RowKit

theorem say_plus : ⟨#[111, 98, 106, 101, 99, 116, 32, 40, 123, 34, 97, 34, 58, 49, 125, 41]⟩ ++ ⟨#[32, 97, 110, 100, 32]⟩ ++ ⟨#[110, 117, 109, 98, 101, 114, 32, 40, 50, 41]⟩ ++ ⟨#[32]⟩ ++ ⟨#[99, 97, 110, 110, 111, 116, 32, 98, 101, 32, 97, 100, 100, 101, 100]⟩ = (⟨#[111, 98, 106, 101, 99, 116, 32, 40, 123, 34, 97, 34, 58, 49, 125, 41, 32, 97, 110, 100, 32, 110, 117, 109, 98, 101, 114, 32, 40, 50, 41, 32, 99, 97, 110, 110, 111, 116, 32, 98, 101, 32, 97, 100, 100, 101, 100]⟩ : ByteArray) := by kernel_rfl
theorem say_zero : ⟨#[110, 117, 109, 98, 101, 114, 32, 40, 49, 41]⟩ ++ ⟨#[32, 97, 110, 100, 32]⟩ ++ ⟨#[110, 117, 109, 98, 101, 114, 32, 40, 48, 41]⟩ ++ ⟨#[32]⟩ ++ ⟨#[99, 97, 110, 110, 111, 116, 32, 98, 101, 32, 100, 105, 118, 105, 100, 101, 100, 32, 98, 101, 99, 97, 117, 115, 101, 32, 116, 104, 101, 32, 100, 105, 118, 105, 115, 111, 114, 32, 105, 115, 32, 122, 101, 114, 111]⟩ = (⟨#[110, 117, 109, 98, 101, 114, 32, 40, 49, 41, 32, 97, 110, 100, 32, 110, 117, 109, 98, 101, 114, 32, 40, 48, 41, 32, 99, 97, 110, 110, 111, 116, 32, 98, 101, 32, 100, 105, 118, 105, 100, 101, 100, 32, 98, 101, 99, 97, 117, 115, 101, 32, 116, 104, 101, 32, 100, 105, 118, 105, 115, 111, 114, 32, 105, 115, 32, 122, 101, 114, 111]⟩ : ByteArray) := by kernel_rfl
theorem told_obj (g1 g2 : Nat) (w : World) (hN : NumW w) (h : At w w.heap.size 2 (objV ⟨#[97]⟩ 4607182418800017408) (.slice (some ⟨g1, 0, none⟩) 1 1) (.slice (some ⟨g2, 0, none⟩) 1 1)) :
    Calls Tryz.prog 117 #[.agg #[.int .i64 6, .float .f64 0, .string ⟨#[]⟩, .slice (some ⟨g1, 0, none⟩) 1 1, .slice (some ⟨g2, 0, none⟩) 1 1]] w fun e w' => e = .returned (.string ⟨#[111, 98, 106, 101, 99, 116, 32, 40, 123, 34, 97, 34, 58, 49, 125, 41]⟩) ∧ Below w.heap.size w w' := by
  have := told_any 2 (objV ⟨#[97]⟩ 4607182418800017408) 2 _ _ w hN h right_objA (by rw [text_obj]; decide) (by decide) (by decide)
  rw [tell_obj] at this
  exact this
theorem told_2 (w : World) (hN : NumW w) : Calls Tryz.prog 117 #[.agg #[.int .i64 3, .float .f64 4611686018427387904, .string ⟨#[]⟩, .slice none 0 0, .slice none 0 0]] w fun e w' => e = .returned (.string ⟨#[110, 117, 109, 98, 101, 114, 32, 40, 50, 41]⟩) ∧ Below w.heap.size w w' := by
  have := told_any 1 (numV 4611686018427387904) 1 nilS nilS w hN (leaf_at w _ 0 3 4611686018427387904 ⟨#[]⟩ (by omega) (by omega) (by decide)) right_2 (by rw [text_2]; decide) (by decide) (by decide)
  rw [tell_2] at this
  exact this
theorem told_1 (w : World) (hN : NumW w) : Calls Tryz.prog 117 #[.agg #[.int .i64 3, .float .f64 4607182418800017408, .string ⟨#[]⟩, .slice none 0 0, .slice none 0 0]] w fun e w' => e = .returned (.string ⟨#[110, 117, 109, 98, 101, 114, 32, 40, 49, 41]⟩) ∧ Below w.heap.size w w' := by
  have := told_any 1 (numV 4607182418800017408) 1 nilS nilS w hN (leaf_at w _ 0 3 4607182418800017408 ⟨#[]⟩ (by omega) (by omega) (by decide)) right_1 (by rw [text_1]; decide) (by decide) (by decide)
  rw [tell_1] at this
  exact this
theorem told_0 (w : World) (hN : NumW w) : Calls Tryz.prog 117 #[.agg #[.int .i64 3, .float .f64 0, .string ⟨#[]⟩, .slice none 0 0, .slice none 0 0]] w fun e w' => e = .returned (.string ⟨#[110, 117, 109, 98, 101, 114, 32, 40, 48, 41]⟩) ∧ Below w.heap.size w w' := by
  have := told_any 1 (numV 0) 1 nilS nilS w hN (leaf_at w _ 0 3 0 ⟨#[]⟩ (by omega) (by omega) (by decide)) right_0 (by rw [text_0]; decide) (by decide) (by decide)
  rw [tell_0] at this
  exact this
set_option maxRecDepth 100000 in
theorem head_plus (g1 g2 : Nat) (w : World) (hN : NumW w) (h : At w w.heap.size 2 (objV ⟨#[97]⟩ 4607182418800017408) (.slice (some ⟨g1, 0, none⟩) 1 1) (.slice (some ⟨g2, 0, none⟩) 1 1)) :
    Calls Tryz.prog 7 #[.string ⟨#[43]⟩, .agg #[.int .i64 6, .float .f64 0, .string ⟨#[]⟩, .slice (some ⟨g1, 0, none⟩) 1 1, .slice (some ⟨g2, 0, none⟩) 1 1], .agg #[.int .i64 3, .float .f64 4611686018427387904, .string ⟨#[]⟩, .slice none 0 0, .slice none 0 0]] w fun e w' => ∃ p1 q1 r1 p2 q2 r2, e = .returned (.tuple #[.agg #[.int .i64 0, .float .f64 0, .string ⟨#[]⟩, .slice p1 q1 r1, .slice p2 q2 r2], .agg (errA ⟨#[111, 98, 106, 101, 99, 116, 32, 40, 123, 34, 97, 34, 58, 49, 125, 41, 32, 97, 110, 100, 32, 110, 117, 109, 98, 101, 114, 32, 40, 50, 41, 32, 99, 97, 110, 110, 111, 116, 32, 98, 101, 32, 97, 100, 100, 101, 100]⟩)]) ∧ Below w.heap.size w w' := by
  refine Operate_leaf ⟨#[43]⟩ 0 4 0 ⟨#[]⟩ ⟨#[111, 98, 106, 101, 99, 116, 32, 40, 123, 34, 97, 34, 58, 49, 125, 41, 32, 97, 110, 100, 32, 110, 117, 109, 98, 101, 114, 32, 40, 50, 41, 32, 99, 97, 110, 110, 111, 116, 32, 98, 101, 32, 97, 100, 100, 101, 100]⟩ true (by omega) (by omega) (by decide) 6 3 0 4611686018427387904 ⟨#[]⟩ ⟨#[]⟩ (some ⟨g1, 0, none⟩) (some ⟨g2, 0, none⟩) none none 1 1 0 0 1 1 0 0 w fun W hW => ?_
  refine operate_add 0 4 0 ⟨#[]⟩ ⟨#[111, 98, 106, 101, 99, 116, 32, 40, 123, 34, 97, 34, 58, 49, 125, 41, 32, 97, 110, 100, 32, 110, 117, 109, 98, 101, 114, 32, 40, 50, 41, 32, 99, 97, 110, 110, 111, 116, 32, 98, 101, 32, 97, 100, 100, 101, 100]⟩ true 6 3 0 4611686018427387904 ⟨#[]⟩ ⟨#[]⟩ (some ⟨g1, 0, none⟩) (some ⟨g2, 0, none⟩) none none 1 1 0 0 1 1 0 0 W fun V hV => ?_
  have hVW := hW.trans (hV.mono hW.size)
  have := add_mixed ⟨#[111, 98, 106, 101, 99, 116, 32, 40, 123, 34, 97, 34, 58, 49, 125, 41]⟩ ⟨#[110, 117, 109, 98, 101, 114, 32, 40, 50, 41]⟩ 6 3 0 4611686018427387904 ⟨#[]⟩ ⟨#[]⟩ (some ⟨g1, 0, none⟩) (some ⟨g2, 0, none⟩) none none 1 1 0 0 1 1 0 0 V (fun U hU => told_obj g1 g2 U (hN.below (hVW.trans (hU.mono hVW.size))) (At.more (hVW.trans (hU.mono hVW.size)).size _ _ _ _ (h.below (hVW.trans (hU.mono hVW.size))))) (fun U hU => told_2 U (hN.below (hVW.trans (hU.mono hVW.size)))) (by decide) (by decide) (by decide) (by decide) (by decide)
  rw [say_plus] at this
  exact this
set_option maxRecDepth 100000 in
theorem head_zero (w : World) (hN : NumW w) :
    Calls Tryz.prog 7 #[.string ⟨#[47]⟩, .agg #[.int .i64 3, .float .f64 4607182418800017408, .string ⟨#[]⟩, .slice none 0 0, .slice none 0 0], .agg #[.int .i64 3, .float .f64 0, .string ⟨#[]⟩, .slice none 0 0, .slice none 0 0]] w fun e w' => ∃ p1 q1 r1 p2 q2 r2, e = .returned (.tuple #[.agg #[.int .i64 0, .float .f64 0, .string ⟨#[]⟩, .slice p1 q1 r1, .slice p2 q2 r2], .agg (errA ⟨#[110, 117, 109, 98, 101, 114, 32, 40, 49, 41, 32, 97, 110, 100, 32, 110, 117, 109, 98, 101, 114, 32, 40, 48, 41, 32, 99, 97, 110, 110, 111, 116, 32, 98, 101, 32, 100, 105, 118, 105, 100, 101, 100, 32, 98, 101, 99, 97, 117, 115, 101, 32, 116, 104, 101, 32, 100, 105, 118, 105, 115, 111, 114, 32, 105, 115, 32, 122, 101, 114, 111]⟩)]) ∧ Below w.heap.size w w' := by
  refine Operate_leaf ⟨#[47]⟩ 0 4 0 ⟨#[]⟩ ⟨#[110, 117, 109, 98, 101, 114, 32, 40, 49, 41, 32, 97, 110, 100, 32, 110, 117, 109, 98, 101, 114, 32, 40, 48, 41, 32, 99, 97, 110, 110, 111, 116, 32, 98, 101, 32, 100, 105, 118, 105, 100, 101, 100, 32, 98, 101, 99, 97, 117, 115, 101, 32, 116, 104, 101, 32, 100, 105, 118, 105, 115, 111, 114, 32, 105, 115, 32, 122, 101, 114, 111]⟩ true (by omega) (by omega) (by decide) 3 3 4607182418800017408 0 ⟨#[]⟩ ⟨#[]⟩ none none none none 0 0 0 0 0 0 0 0 w fun W hW => ?_
  refine operate_divide 0 4 0 ⟨#[]⟩ ⟨#[110, 117, 109, 98, 101, 114, 32, 40, 49, 41, 32, 97, 110, 100, 32, 110, 117, 109, 98, 101, 114, 32, 40, 48, 41, 32, 99, 97, 110, 110, 111, 116, 32, 98, 101, 32, 100, 105, 118, 105, 100, 101, 100, 32, 98, 101, 99, 97, 117, 115, 101, 32, 116, 104, 101, 32, 100, 105, 118, 105, 115, 111, 114, 32, 105, 115, 32, 122, 101, 114, 111]⟩ true 3 3 4607182418800017408 0 ⟨#[]⟩ ⟨#[]⟩ none none none none 0 0 0 0 0 0 0 0 W fun V hV => ?_
  have hVW := hW.trans (hV.mono hW.size)
  have := divide_zero ⟨#[110, 117, 109, 98, 101, 114, 32, 40, 49, 41]⟩ ⟨#[110, 117, 109, 98, 101, 114, 32, 40, 48, 41]⟩ 4607182418800017408 ⟨#[]⟩ ⟨#[]⟩ none none none none 0 0 0 0 0 0 0 0 V (fun U hU => told_1 U (hN.below (hVW.trans (hU.mono hVW.size)))) (fun U hU => told_0 U (hN.below (hVW.trans (hU.mono hVW.size)))) (by decide) (by decide)
  rw [say_zero] at this
  exact this
set_option maxRecDepth 100000 in
theorem head_times (w : World) :
    Calls Tryz.prog 7 #[.string ⟨#[42]⟩, .agg #[.int .i64 4, .float .f64 0, .string ⟨#[97, 98]⟩, .slice none 0 0, .slice none 0 0], .agg #[.int .i64 3, .float .f64 4609434218613702656, .string ⟨#[]⟩, .slice none 0 0, .slice none 0 0]] w fun e w' => ∃ p1 q1 r1 p2 q2 r2, e = .returned (.tuple #[.agg #[.int .i64 4, .float .f64 0, .string ⟨#[97, 98, 97, 98]⟩, .slice p1 q1 r1, .slice p2 q2 r2], .agg okA]) ∧ Below w.heap.size w w' := by
  refine Operate_leaf ⟨#[42]⟩ 4 0 0 ⟨#[97, 98, 97, 98]⟩ ⟨#[]⟩ false (by omega) (by omega) (by decide) 4 3 0 4609434218613702656 ⟨#[97, 98]⟩ ⟨#[]⟩ none none none none 0 0 0 0 0 0 0 0 w fun W hW => ?_
  refine operate_multiply 4 0 0 ⟨#[97, 98, 97, 98]⟩ ⟨#[]⟩ false 4 3 0 4609434218613702656 ⟨#[97, 98]⟩ ⟨#[]⟩ none none none none 0 0 0 0 0 0 0 0 W fun V hV => ?_
  exact multiply_ab V
set_option maxRecDepth 100000 in
theorem head_rest (w : World) :
    Calls Tryz.prog 7 #[.string ⟨#[37]⟩, .agg #[.int .i64 3, .float .f64 13840687554816376832, .string ⟨#[]⟩, .slice none 0 0, .slice none 0 0], .agg #[.int .i64 3, .float .f64 4611686018427387904, .string ⟨#[]⟩, .slice none 0 0, .slice none 0 0]] w fun e w' => ∃ p1 q1 r1 p2 q2 r2, e = .returned (.tuple #[.agg #[.int .i64 3, .float .f64 13830554455654793216, .string ⟨#[]⟩, .slice p1 q1 r1, .slice p2 q2 r2], .agg okA]) ∧ Below w.heap.size w w' := by
  refine Operate_leaf ⟨#[37]⟩ 3 0 13830554455654793216 ⟨#[]⟩ ⟨#[]⟩ false (by omega) (by omega) (by decide) 3 3 13840687554816376832 4611686018427387904 ⟨#[]⟩ ⟨#[]⟩ none none none none 0 0 0 0 0 0 0 0 w fun W hW => ?_
  refine operate_remainder 3 0 13830554455654793216 ⟨#[]⟩ ⟨#[]⟩ false 3 3 13840687554816376832 4611686018427387904 ⟨#[]⟩ ⟨#[]⟩ none none none none 0 0 0 0 0 0 0 0 W fun V hV => ?_
  exact remainder_m5 V
end Go.Proofs.YtdlighmnlcklnaaGreatDoor

/- formatted, name by name. -/
import Derived.Test.YtpobdmkidopnnaaGreatDoorGAU
import Derived.Test.YtpobdmkidopnnaaGreatDoorGAK
import Derived.Lib.MapLaws
namespace Go.Proofs.YtpobdmkidopnnaaGreatDoor
open Go Go.RowKit Go.Shelf

set_option maxRecDepth 100000 in
set_option maxHeartbeats 4000000 in
theorem fm_base64 (S R : ByteArray) (A : Array Value) (k : Int) (f : Nat) (vs : ByteArray) (a1 a2 : Option Addr) (n1 c1 n2 c2 : Nat) (hA : A = #[.int .i64 k, .float .f64 f, .string vs, .slice a1 n1 c1, .slice a2 n2 c2]) (w : World)
    (hS : ∀ W, Below w.heap.size w W → Calls Tryz.prog 16 #[.agg A] W fun e w' => e = .returned (.string S) ∧ Below W.heap.size W w')
    (hE : ∀ W, Calls Tryz.prog 80 #[.string S] W fun e w' => e = .returned (.string R) ∧ Below W.heap.size W w') :
    Calls Tryz.prog 40 #[.string ⟨#[98, 97, 115, 101, 54, 52]⟩, .agg A] w fun e w' => e = .returned (.tuple #[.string R, .agg okA]) ∧ Below w.heap.size w w' := by
  have HS := Lib.hid hS
  have HE := Lib.hid hE
  have hsf := run_store_float Tryz.prog
  obtain ⟨r0, r1⟩ := two_new w (.cells A 27) (.cells okA 32)
  have rb := ((Below.refl w.heap.size w).alloc (Nat.le_refl _) (.cells A 27)).alloc (by simp) (.cells okA 32)
  subst hA
  unfold okA at r0 r1 rb
  have H0 := Lib.hid r0
  have H1 := Lib.hid r1
  have HB := Lib.hid rb
  clear r0 r1 rb hS hE
  go_enter Tryz.func40, Tryz.ntmps40
  go_upto_region 1 with fail
  generalize (w.alloc (.cells #[.int .i64 k, .float .f64 f, .string vs, .slice a1 n1 c1, .slice a2 n2 c2] 27)).alloc (.cells #[.bool false, .int .i64 0, .float .f64 0, .string ⟨#[]⟩, .slice none 0 0, .slice none 0 0] 32) = W at H0 H1 HB ⊢
  obtain ⟨d0, d1, d2, d3, d4, _⟩ := row5' H0.out
  go_wp2_with fail
  refine (HS.out _ HB.out).mono ?_
  rintro e w1 ⟨rfl, hb⟩
  have K1 := Lib.hid ((hb.block _ (Array.getElem?_eq_some_iff.1 H1.out).1).trans H1.out)
  have HB1 := Lib.hid (HB.out.trans (hb.mono HB.out.size))
  clear hb H1 HB d0 d1 d2 d3 d4 H0
  go_wp2_with fail
  refine (HE.out _).mono ?_
  rintro e w2 ⟨rfl, hb⟩
  have K2 := Lib.hid ((hb.block _ (Array.getElem?_eq_some_iff.1 K1.out).1).trans K1.out)
  have HB2 := Lib.hid (HB1.out.trans (hb.mono HB1.out.size))
  clear hb K1 HB1
  obtain ⟨e0, e1, e2, e3, e4, e5⟩ := row6F K2.out
  obtain ⟨u0, u1, u2, u3, u4, u5⟩ := ice6F K2.out
  go_wp2_with fail
  refine bodyPost_ret_by (results_tmp_row rfl _ _ (w.heap.size + 1) 32 _ (0, 0) _ (.string R) rfl rfl (set6_row K2.out ..) Tryz.underlying32 rfl infoErr) rfl ?_
  exact ⟨rfl, set6_below HB2.out (by omega) ..⟩
set_option maxRecDepth 100000 in
set_option maxHeartbeats 4000000 in
theorem fm_html (S R : ByteArray) (A : Array Value) (k : Int) (f : Nat) (vs : ByteArray) (a1 a2 : Option Addr) (n1 c1 n2 c2 : Nat) (hA : A = #[.int .i64 k, .float .f64 f, .string vs, .slice a1 n1 c1, .slice a2 n2 c2]) (w : World)
    (hS : ∀ W, Below w.heap.size w W → Calls Tryz.prog 16 #[.agg A] W fun e w' => e = .returned (.string S) ∧ Below W.heap.size W w')
    (hE : ∀ W, Calls Tryz.prog 84 #[.string S] W fun e w' => e = .returned (.string R) ∧ Below W.heap.size W w') :
    Calls Tryz.prog 40 #[.string ⟨#[104, 116, 109, 108]⟩, .agg A] w fun e w' => e = .returned (.tuple #[.string R, .agg okA]) ∧ Below w.heap.size w w' := by
  have HS := Lib.hid hS
  have HE := Lib.hid hE
  have hsf := run_store_float Tryz.prog
  obtain ⟨r0, r1⟩ := two_new w (.cells A 27) (.cells okA 32)
  have rb := ((Below.refl w.heap.size w).alloc (Nat.le_refl _) (.cells A 27)).alloc (by simp) (.cells okA 32)
  subst hA
  unfold okA at r0 r1 rb
  have H0 := Lib.hid r0
  have H1 := Lib.hid r1
  have HB := Lib.hid rb
  clear r0 r1 rb hS hE
  go_enter Tryz.func40, Tryz.ntmps40
  go_upto_region 1 with fail
  generalize (w.alloc (.cells #[.int .i64 k, .float .f64 f, .string vs, .slice a1 n1 c1, .slice a2 n2 c2] 27)).alloc (.cells #[.bool false, .int .i64 0, .float .f64 0, .string ⟨#[]⟩, .slice none 0 0, .slice none 0 0] 32) = W at H0 H1 HB ⊢
  obtain ⟨d0, d1, d2, d3, d4, _⟩ := row5' H0.out
  go_wp2_with fail
  refine (HS.out _ HB.out).mono ?_
  rintro e w1 ⟨rfl, hb⟩
  have K1 := Lib.hid ((hb.block _ (Array.getElem?_eq_some_iff.1 H1.out).1).trans H1.out)
  have HB1 := Lib.hid (HB.out.trans (hb.mono HB.out.size))
  clear hb H1 HB d0 d1 d2 d3 d4 H0
  go_wp2_with fail
  refine (HE.out _).mono ?_
  rintro e w2 ⟨rfl, hb⟩
  have K2 := Lib.hid ((hb.block _ (Array.getElem?_eq_some_iff.1 K1.out).1).trans K1.out)
  have HB2 := Lib.hid (HB1.out.trans (hb.mono HB1.out.size))
  clear hb K1 HB1
  obtain ⟨e0, e1, e2, e3, e4, e5⟩ := row6F K2.out
  obtain ⟨u0, u1, u2, u3, u4, u5⟩ := ice6F K2.out
  go_wp2_with fail
  refine bodyPost_ret_by (results_tmp_row rfl _ _ (w.heap.size + 1) 32 _ (0, 0) _ (.string R) rfl rfl (set6_row K2.out ..) Tryz.underlying32 rfl infoErr) rfl ?_
  exact ⟨rfl, set6_below HB2.out (by omega) ..⟩
set_option maxRecDepth 100000 in
set_option maxHeartbeats 4000000 in
theorem fm_uri (S R : ByteArray) (A : Array Value) (k : Int) (f : Nat) (vs : ByteArray) (a1 a2 : Option Addr) (n1 c1 n2 c2 : Nat) (hA : A = #[.int .i64 k, .float .f64 f, .string vs, .slice a1 n1 c1, .slice a2 n2 c2]) (w : World)
    (hS : ∀ W, Below w.heap.size w W → Calls Tryz.prog 16 #[.agg A] W fun e w' => e = .returned (.string S) ∧ Below W.heap.size W w')
    (hE : ∀ W, Calls Tryz.prog 87 #[.string S] W fun e w' => e = .returned (.string R) ∧ Below W.heap.size W w') :
    Calls Tryz.prog 40 #[.string ⟨#[117, 114, 105]⟩, .agg A] w fun e w' => e = .returned (.tuple #[.string R, .agg okA]) ∧ Below w.heap.size w w' := by
  have HS := Lib.hid hS
  have HE := Lib.hid hE
  have hsf := run_store_float Tryz.prog
  obtain ⟨r0, r1⟩ := two_new w (.cells A 27) (.cells okA 32)
  have rb := ((Below.refl w.heap.size w).alloc (Nat.le_refl _) (.cells A 27)).alloc (by simp) (.cells okA 32)
  subst hA
  unfold okA at r0 r1 rb
  have H0 := Lib.hid r0
  have H1 := Lib.hid r1
  have HB := Lib.hid rb
  clear r0 r1 rb hS hE
  go_enter Tryz.func40, Tryz.ntmps40
  go_upto_region 1 with fail
  generalize (w.alloc (.cells #[.int .i64 k, .float .f64 f, .string vs, .slice a1 n1 c1, .slice a2 n2 c2] 27)).alloc (.cells #[.bool false, .int .i64 0, .float .f64 0, .string ⟨#[]⟩, .slice none 0 0, .slice none 0 0] 32) = W at H0 H1 HB ⊢
  obtain ⟨d0, d1, d2, d3, d4, _⟩ := row5' H0.out
  go_wp2_with fail
  refine (HS.out _ HB.out).mono ?_
  rintro e w1 ⟨rfl, hb⟩
  have K1 := Lib.hid ((hb.block _ (Array.getElem?_eq_some_iff.1 H1.out).1).trans H1.out)
  have HB1 := Lib.hid (HB.out.trans (hb.mono HB.out.size))
  clear hb H1 HB d0 d1 d2 d3 d4 H0
  go_wp2_with fail
  refine (HE.out _).mono ?_
  rintro e w2 ⟨rfl, hb⟩
  have K2 := Lib.hid ((hb.block _ (Array.getElem?_eq_some_iff.1 K1.out).1).trans K1.out)
  have HB2 := Lib.hid (HB1.out.trans (hb.mono HB1.out.size))
  clear hb K1 HB1
  obtain ⟨e0, e1, e2, e3, e4, e5⟩ := row6F K2.out
  obtain ⟨u0, u1, u2, u3, u4, u5⟩ := ice6F K2.out
  go_wp2_with fail
  refine bodyPost_ret_by (results_tmp_row rfl _ _ (w.heap.size + 1) 32 _ (0, 0) _ (.string R) rfl rfl (set6_row K2.out ..) Tryz.underlying32 rfl infoErr) rfl ?_
  exact ⟨rfl, set6_below HB2.out (by omega) ..⟩
set_option maxRecDepth 100000 in
set_option maxHeartbeats 4000000 in
theorem fm_text (S : ByteArray) (A : Array Value) (k : Int) (f : Nat) (vs : ByteArray) (a1 a2 : Option Addr) (n1 c1 n2 c2 : Nat) (hA : A = #[.int .i64 k, .float .f64 f, .string vs, .slice a1 n1 c1, .slice a2 n2 c2]) (w : World)
    (hS : ∀ W, Below w.heap.size w W → Calls Tryz.prog 16 #[.agg A] W fun e w' => e = .returned (.string S) ∧ Below W.heap.size W w') :
    Calls Tryz.prog 40 #[.string ⟨#[116, 101, 120, 116]⟩, .agg A] w fun e w' => e = .returned (.tuple #[.string S, .agg okA]) ∧ Below w.heap.size w w' := by
  have HS := Lib.hid hS
  have hsf := run_store_float Tryz.prog
  obtain ⟨r0, r1⟩ := two_new w (.cells A 27) (.cells okA 32)
  have rb := ((Below.refl w.heap.size w).alloc (Nat.le_refl _) (.cells A 27)).alloc (by simp) (.cells okA 32)
  subst hA
  unfold okA at r0 r1 rb
  have H0 := Lib.hid r0
  have H1 := Lib.hid r1
  have HB := Lib.hid rb
  clear r0 r1 rb hS
  go_enter Tryz.func40, Tryz.ntmps40
  go_upto_region 1 with fail
  generalize (w.alloc (.cells #[.int .i64 k, .float .f64 f, .string vs, .slice a1 n1 c1, .slice a2 n2 c2] 27)).alloc (.cells #[.bool false, .int .i64 0, .float .f64 0, .string ⟨#[]⟩, .slice none 0 0, .slice none 0 0] 32) = W at H0 H1 HB ⊢
  obtain ⟨d0, d1, d2, d3, d4, _⟩ := row5' H0.out
  go_wp2_with fail
  refine (HS.out _ HB.out).mono ?_
  rintro e w1 ⟨rfl, hb⟩
  have K1 := Lib.hid ((hb.block _ (Array.getElem?_eq_some_iff.1 H1.out).1).trans H1.out)
  have HB1 := Lib.hid (HB.out.trans (hb.mono HB.out.size))
  clear hb H1 HB d0 d1 d2 d3 d4 H0
  obtain ⟨e0, e1, e2, e3, e4, e5⟩ := row6F K1.out
  obtain ⟨u0, u1, u2, u3, u4, u5⟩ := ice6F K1.out
  go_wp2_with fail
  refine bodyPost_ret_by (results_tmp_row rfl _ _ (w.heap.size + 1) 32 _ (0, 0) _ (.string S) rfl rfl (set6_row K1.out ..) Tryz.underlying32 rfl infoErr) rfl ?_
  exact ⟨rfl, set6_below HB1.out (by omega) ..⟩
set_option maxRecDepth 100000 in
set_option maxHeartbeats 4000000 in
theorem fm_json (S : ByteArray) (A : Array Value) (k : Int) (f : Nat) (vs : ByteArray) (a1 a2 : Option Addr) (n1 c1 n2 c2 : Nat) (hA : A = #[.int .i64 k, .float .f64 f, .string vs, .slice a1 n1 c1, .slice a2 n2 c2]) (w : World)
    (hS : ∀ W, Below w.heap.size w W → Calls Tryz.prog 55 #[.agg A] W fun e w' => e = .returned (.string S) ∧ Below W.heap.size W w') :
    Calls Tryz.prog 40 #[.string ⟨#[106, 115, 111, 110]⟩, .agg A] w fun e w' => e = .returned (.tuple #[.string S, .agg okA]) ∧ Below w.heap.size w w' := by
  have HS := Lib.hid hS
  have hsf := run_store_float Tryz.prog
  obtain ⟨r0, r1⟩ := two_new w (.cells A 27) (.cells okA 32)
  have rb := ((Below.refl w.heap.size w).alloc (Nat.le_refl _) (.cells A 27)).alloc (by simp) (.cells okA 32)
  subst hA
  unfold okA at r0 r1 rb
  have H0 := Lib.hid r0
  have H1 := Lib.hid r1
  have HB := Lib.hid rb
  clear r0 r1 rb hS
  go_enter Tryz.func40, Tryz.ntmps40
  go_upto_region 1 with fail
  generalize (w.alloc (.cells #[.int .i64 k, .float .f64 f, .string vs, .slice a1 n1 c1, .slice a2 n2 c2] 27)).alloc (.cells #[.bool false, .int .i64 0, .float .f64 0, .string ⟨#[]⟩, .slice none 0 0, .slice none 0 0] 32) = W at H0 H1 HB ⊢
  obtain ⟨d0, d1, d2, d3, d4, _⟩ := row5' H0.out
  go_wp2_with fail
  refine (HS.out _ HB.out).mono ?_
  rintro e w1 ⟨rfl, hb⟩
  have K1 := Lib.hid ((hb.block _ (Array.getElem?_eq_some_iff.1 H1.out).1).trans H1.out)
  have HB1 := Lib.hid (HB.out.trans (hb.mono HB.out.size))
  clear hb H1 HB d0 d1 d2 d3 d4 H0
  obtain ⟨e0, e1, e2, e3, e4, e5⟩ := row6F K1.out
  obtain ⟨u0, u1, u2, u3, u4, u5⟩ := ice6F K1.out
  go_wp2_with fail
  refine bodyPost_ret_by (results_tmp_row rfl _ _ (w.heap.size + 1) 32 _ (0, 0) _ (.string S) rfl rfl (set6_row K1.out ..) Tryz.underlying32 rfl infoErr) rfl ?_
  exact ⟨rfl, set6_below HB1.out (by omega) ..⟩
set_option maxRecDepth 100000 in
set_option maxHeartbeats 4000000 in
theorem fm_base64d_ok (R : ByteArray) (A : Array Value) (k : Int) (f : Nat) (vs : ByteArray) (a1 a2 : Option Addr) (n1 c1 n2 c2 : Nat) (hA : A = #[.int .i64 k, .float .f64 f, .string vs, .slice a1 n1 c1, .slice a2 n2 c2]) (w : World)
    (hS : ∀ W, Below w.heap.size w W → Calls Tryz.prog 81 #[.agg A] W fun e w' => e = .returned (.tuple #[.string R, .agg okA]) ∧ Below W.heap.size W w') :
    Calls Tryz.prog 40 #[.string ⟨#[98, 97, 115, 101, 54, 52, 100]⟩, .agg A] w fun e w' => e = .returned (.tuple #[.string R, .agg okA]) ∧ Below w.heap.size w w' := by
  have HS := Lib.hid hS
  have hsf := run_store_float Tryz.prog
  obtain ⟨r0, r1⟩ := two_new w (.cells A 27) (.cells okA 32)
  have rb := ((Below.refl w.heap.size w).alloc (Nat.le_refl _) (.cells A 27)).alloc (by simp) (.cells okA 32)
  subst hA
  unfold okA at r0 r1 rb
  have H0 := Lib.hid r0
  have H1 := Lib.hid r1
  have HB := Lib.hid rb
  unfold okA at HS
  clear r0 r1 rb hS
  go_enter Tryz.func40, Tryz.ntmps40
  go_upto_region 1 with fail
  generalize (w.alloc (.cells #[.int .i64 k, .float .f64 f, .string vs, .slice a1 n1 c1, .slice a2 n2 c2] 27)).alloc (.cells #[.bool false, .int .i64 0, .float .f64 0, .string ⟨#[]⟩, .slice none 0 0, .slice none 0 0] 32) = W at H0 H1 HB ⊢
  obtain ⟨d0, d1, d2, d3, d4, _⟩ := row5' H0.out
  go_wp2_with fail
  refine (HS.out _ HB.out).mono ?_
  rintro e w1 ⟨rfl, hb⟩
  have K1 := Lib.hid ((hb.block _ (Array.getElem?_eq_some_iff.1 H1.out).1).trans H1.out)
  have HB1 := Lib.hid (HB.out.trans (hb.mono HB.out.size))
  clear hb H1 HB d0 d1 d2 d3 d4 H0
  obtain ⟨e0, e1, e2, e3, e4, e5⟩ := row6F K1.out
  obtain ⟨u0, u1, u2, u3, u4, u5⟩ := ice6F K1.out
  go_wp2_with fail
  refine bodyPost_ret_by (results_tmp_row rfl _ _ (w.heap.size + 1) 32 _ (0, 0) _ (.string R) rfl rfl (set6_row K1.out ..) Tryz.underlying32 rfl infoErr) rfl ?_
  exact ⟨rfl, set6_below HB1.out (by omega) ..⟩
set_option maxRecDepth 100000 in
set_option maxHeartbeats 4000000 in
theorem fm_csv_ok (R : ByteArray) (A : Array Value) (k : Int) (f : Nat) (vs : ByteArray) (a1 a2 : Option Addr) (n1 c1 n2 c2 : Nat) (hA : A = #[.int .i64 k, .float .f64 f, .string vs, .slice a1 n1 c1, .slice a2 n2 c2]) (w : World)
    (hS : ∀ W, Below w.heap.size w W → Calls Tryz.prog 82 #[.string ⟨#[99, 115, 118]⟩, .agg A, .string ⟨#[44]⟩, .func (.func 83) #[] #[]] W fun e w' => e = .returned (.tuple #[.string R, .agg okA]) ∧ Below W.heap.size W w') :
    Calls Tryz.prog 40 #[.string ⟨#[99, 115, 118]⟩, .agg A] w fun e w' => e = .returned (.tuple #[.string R, .agg okA]) ∧ Below w.heap.size w w' := by
  have HS := Lib.hid hS
  have hsf := run_store_float Tryz.prog
  obtain ⟨r0, r1⟩ := two_new w (.cells A 27) (.cells okA 32)
  have rb := ((Below.refl w.heap.size w).alloc (Nat.le_refl _) (.cells A 27)).alloc (by simp) (.cells okA 32)
  subst hA
  unfold okA at r0 r1 rb
  have H0 := Lib.hid r0
  have H1 := Lib.hid r1
  have HB := Lib.hid rb
  unfold okA at HS
  clear r0 r1 rb hS
  go_enter Tryz.func40, Tryz.ntmps40
  go_upto_region 1 with fail
  generalize (w.alloc (.cells #[.int .i64 k, .float .f64 f, .string vs, .slice a1 n1 c1, .slice a2 n2 c2] 27)).alloc (.cells #[.bool false, .int .i64 0, .float .f64 0, .string ⟨#[]⟩, .slice none 0 0, .slice none 0 0] 32) = W at H0 H1 HB ⊢
  obtain ⟨d0, d1, d2, d3, d4, _⟩ := row5' H0.out
  go_wp2_with fail
  refine (HS.out _ HB.out).mono ?_
  rintro e w1 ⟨rfl, hb⟩
  have K1 := Lib.hid ((hb.block _ (Array.getElem?_eq_some_iff.1 H1.out).1).trans H1.out)
  have HB1 := Lib.hid (HB.out.trans (hb.mono HB.out.size))
  clear hb H1 HB d0 d1 d2 d3 d4 H0
  obtain ⟨e0, e1, e2, e3, e4, e5⟩ := row6F K1.out
  obtain ⟨u0, u1, u2, u3, u4, u5⟩ := ice6F K1.out
  go_wp2_with fail
  refine bodyPost_ret_by (results_tmp_row rfl _ _ (w.heap.size + 1) 32 _ (0, 0) _ (.string R) rfl rfl (set6_row K1.out ..) Tryz.underlying32 rfl infoErr) rfl ?_
  exact ⟨rfl, set6_below HB1.out (by omega) ..⟩
set_option maxRecDepth 100000 in
set_option maxHeartbeats 4000000 in
theorem fm_tsv_ok (R : ByteArray) (A : Array Value) (k : Int) (f : Nat) (vs : ByteArray) (a1 a2 : Option Addr) (n1 c1 n2 c2 : Nat) (hA : A = #[.int .i64 k, .float .f64 f, .string vs, .slice a1 n1 c1, .slice a2 n2 c2]) (w : World)
    (hS : ∀ W, Below w.heap.size w W → Calls Tryz.prog 82 #[.string ⟨#[116, 115, 118]⟩, .agg A, .string ⟨#[9]⟩, .func (.func 86) #[] #[]] W fun e w' => e = .returned (.tuple #[.string R, .agg okA]) ∧ Below W.heap.size W w') :
    Calls Tryz.prog 40 #[.string ⟨#[116, 115, 118]⟩, .agg A] w fun e w' => e = .returned (.tuple #[.string R, .agg okA]) ∧ Below w.heap.size w w' := by
  have HS := Lib.hid hS
  have hsf := run_store_float Tryz.prog
  obtain ⟨r0, r1⟩ := two_new w (.cells A 27) (.cells okA 32)
  have rb := ((Below.refl w.heap.size w).alloc (Nat.le_refl _) (.cells A 27)).alloc (by simp) (.cells okA 32)
  subst hA
  unfold okA at r0 r1 rb
  have H0 := Lib.hid r0
  have H1 := Lib.hid r1
  have HB := Lib.hid rb
  unfold okA at HS
  clear r0 r1 rb hS
  go_enter Tryz.func40, Tryz.ntmps40
  go_upto_region 1 with fail
  generalize (w.alloc (.cells #[.int .i64 k, .float .f64 f, .string vs, .slice a1 n1 c1, .slice a2 n2 c2] 27)).alloc (.cells #[.bool false, .int .i64 0, .float .f64 0, .string ⟨#[]⟩, .slice none 0 0, .slice none 0 0] 32) = W at H0 H1 HB ⊢
  obtain ⟨d0, d1, d2, d3, d4, _⟩ := row5' H0.out
  go_wp2_with fail
  refine (HS.out _ HB.out).mono ?_
  rintro e w1 ⟨rfl, hb⟩
  have K1 := Lib.hid ((hb.block _ (Array.getElem?_eq_some_iff.1 H1.out).1).trans H1.out)
  have HB1 := Lib.hid (HB.out.trans (hb.mono HB.out.size))
  clear hb H1 HB d0 d1 d2 d3 d4 H0
  obtain ⟨e0, e1, e2, e3, e4, e5⟩ := row6F K1.out
  obtain ⟨u0, u1, u2, u3, u4, u5⟩ := ice6F K1.out
  go_wp2_with fail
  refine bodyPost_ret_by (results_tmp_row rfl _ _ (w.heap.size + 1) 32 _ (0, 0) _ (.string R) rfl rfl (set6_row K1.out ..) Tryz.underlying32 rfl infoErr) rfl ?_
  exact ⟨rfl, set6_below HB1.out (by omega) ..⟩
set_option maxRecDepth 100000 in
set_option maxHeartbeats 4000000 in
theorem fm_sh_ok (R : ByteArray) (A : Array Value) (k : Int) (f : Nat) (vs : ByteArray) (a1 a2 : Option Addr) (n1 c1 n2 c2 : Nat) (hA : A = #[.int .i64 k, .float .f64 f, .string vs, .slice a1 n1 c1, .slice a2 n2 c2]) (w : World)
    (hS : ∀ W, Below w.heap.size w W → Calls Tryz.prog 85 #[.agg A] W fun e w' => e = .returned (.tuple #[.string R, .agg okA]) ∧ Below W.heap.size W w') :
    Calls Tryz.prog 40 #[.string ⟨#[115, 104]⟩, .agg A] w fun e w' => e = .returned (.tuple #[.string R, .agg okA]) ∧ Below w.heap.size w w' := by
  have HS := Lib.hid hS
  have hsf := run_store_float Tryz.prog
  obtain ⟨r0, r1⟩ := two_new w (.cells A 27) (.cells okA 32)
  have rb := ((Below.refl w.heap.size w).alloc (Nat.le_refl _) (.cells A 27)).alloc (by simp) (.cells okA 32)
  subst hA
  unfold okA at r0 r1 rb
  have H0 := Lib.hid r0
  have H1 := Lib.hid r1
  have HB := Lib.hid rb
  unfold okA at HS
  clear r0 r1 rb hS
  go_enter Tryz.func40, Tryz.ntmps40
  go_upto_region 1 with fail
  generalize (w.alloc (.cells #[.int .i64 k, .float .f64 f, .string vs, .slice a1 n1 c1, .slice a2 n2 c2] 27)).alloc (.cells #[.bool false, .int .i64 0, .float .f64 0, .string ⟨#[]⟩, .slice none 0 0, .slice none 0 0] 32) = W at H0 H1 HB ⊢
  obtain ⟨d0, d1, d2, d3, d4, _⟩ := row5' H0.out
  go_wp2_with fail
  refine (HS.out _ HB.out).mono ?_
  rintro e w1 ⟨rfl, hb⟩
  have K1 := Lib.hid ((hb.block _ (Array.getElem?_eq_some_iff.1 H1.out).1).trans H1.out)
  have HB1 := Lib.hid (HB.out.trans (hb.mono HB.out.size))
  clear hb H1 HB d0 d1 d2 d3 d4 H0
  obtain ⟨e0, e1, e2, e3, e4, e5⟩ := row6F K1.out
  obtain ⟨u0, u1, u2, u3, u4, u5⟩ := ice6F K1.out
  go_wp2_with fail
  refine bodyPost_ret_by (results_tmp_row rfl _ _ (w.heap.size + 1) 32 _ (0, 0) _ (.string R) rfl rfl (set6_row K1.out ..) Tryz.underlying32 rfl infoErr) rfl ?_
  exact ⟨rfl, set6_below HB1.out (by omega) ..⟩
set_option maxRecDepth 100000 in
set_option maxHeartbeats 4000000 in
theorem fm_base64d_err (t : ByteArray) (A : Array Value) (k : Int) (f : Nat) (vs : ByteArray) (a1 a2 : Option Addr) (n1 c1 n2 c2 : Nat) (hA : A = #[.int .i64 k, .float .f64 f, .string vs, .slice a1 n1 c1, .slice a2 n2 c2]) (w : World)
    (hS : ∀ W, Below w.heap.size w W → Calls Tryz.prog 81 #[.agg A] W fun e w' => e = .returned (.tuple #[.string ⟨#[]⟩, .agg (errA t)]) ∧ Below W.heap.size W w') :
    Calls Tryz.prog 40 #[.string ⟨#[98, 97, 115, 101, 54, 52, 100]⟩, .agg A] w fun e w' => e = .returned (.tuple #[.string ⟨#[]⟩, .agg (errA t)]) ∧ Below w.heap.size w w' := by
  have HS := Lib.hid hS
  have hsf := run_store_float Tryz.prog
  obtain ⟨r0, r1⟩ := two_new w (.cells A 27) (.cells okA 32)
  have rb := ((Below.refl w.heap.size w).alloc (Nat.le_refl _) (.cells A 27)).alloc (by simp) (.cells okA 32)
  subst hA
  unfold okA at r0 r1 rb
  have H0 := Lib.hid r0
  have H1 := Lib.hid r1
  have HB := Lib.hid rb
  unfold errA at HS
  clear r0 r1 rb hS
  go_enter Tryz.func40, Tryz.ntmps40
  go_upto_region 1 with fail
  generalize (w.alloc (.cells #[.int .i64 k, .float .f64 f, .string vs, .slice a1 n1 c1, .slice a2 n2 c2] 27)).alloc (.cells #[.bool false, .int .i64 0, .float .f64 0, .string ⟨#[]⟩, .slice none 0 0, .slice none 0 0] 32) = W at H0 H1 HB ⊢
  obtain ⟨d0, d1, d2, d3, d4, _⟩ := row5' H0.out
  go_wp2_with fail
  refine (HS.out _ HB.out).mono ?_
  rintro e w1 ⟨rfl, hb⟩
  have K1 := Lib.hid ((hb.block _ (Array.getElem?_eq_some_iff.1 H1.out).1).trans H1.out)
  have HB1 := Lib.hid (HB.out.trans (hb.mono HB.out.size))
  clear hb H1 HB d0 d1 d2 d3 d4 H0
  obtain ⟨e0, e1, e2, e3, e4, e5⟩ := row6F K1.out
  obtain ⟨u0, u1, u2, u3, u4, u5⟩ := ice6F K1.out
  go_wp2_with fail
  refine bodyPost_ret_by (results_tmp_row rfl _ _ (w.heap.size + 1) 32 _ (0, 0) _ (.string ⟨#[]⟩) rfl rfl (set6_row K1.out ..) Tryz.underlying32 rfl infoErr) rfl ?_
  exact ⟨rfl, set6_below HB1.out (by omega) ..⟩
set_option maxRecDepth 100000 in
set_option maxHeartbeats 4000000 in
theorem fm_csv_err (t : ByteArray) (A : Array Value) (k : Int) (f : Nat) (vs : ByteArray) (a1 a2 : Option Addr) (n1 c1 n2 c2 : Nat) (hA : A = #[.int .i64 k, .float .f64 f, .string vs, .slice a1 n1 c1, .slice a2 n2 c2]) (w : World)
    (hS : ∀ W, Below w.heap.size w W → Calls Tryz.prog 82 #[.string ⟨#[99, 115, 118]⟩, .agg A, .string ⟨#[44]⟩, .func (.func 83) #[] #[]] W fun e w' => e = .returned (.tuple #[.string ⟨#[]⟩, .agg (errA t)]) ∧ Below W.heap.size W w') :
    Calls Tryz.prog 40 #[.string ⟨#[99, 115, 118]⟩, .agg A] w fun e w' => e = .returned (.tuple #[.string ⟨#[]⟩, .agg (errA t)]) ∧ Below w.heap.size w w' := by
  have HS := Lib.hid hS
  have hsf := run_store_float Tryz.prog
  obtain ⟨r0, r1⟩ := two_new w (.cells A 27) (.cells okA 32)
  have rb := ((Below.refl w.heap.size w).alloc (Nat.le_refl _) (.cells A 27)).alloc (by simp) (.cells okA 32)
  subst hA
  unfold okA at r0 r1 rb
  have H0 := Lib.hid r0
  have H1 := Lib.hid r1
  have HB := Lib.hid rb
  unfold errA at HS
  clear r0 r1 rb hS
  go_enter Tryz.func40, Tryz.ntmps40
  go_upto_region 1 with fail
  generalize (w.alloc (.cells #[.int .i64 k, .float .f64 f, .string vs, .slice a1 n1 c1, .slice a2 n2 c2] 27)).alloc (.cells #[.bool false, .int .i64 0, .float .f64 0, .string ⟨#[]⟩, .slice none 0 0, .slice none 0 0] 32) = W at H0 H1 HB ⊢
  obtain ⟨d0, d1, d2, d3, d4, _⟩ := row5' H0.out
  go_wp2_with fail
  refine (HS.out _ HB.out).mono ?_
  rintro e w1 ⟨rfl, hb⟩
  have K1 := Lib.hid ((hb.block _ (Array.getElem?_eq_some_iff.1 H1.out).1).trans H1.out)
  have HB1 := Lib.hid (HB.out.trans (hb.mono HB.out.size))
  clear hb H1 HB d0 d1 d2 d3 d4 H0
  obtain ⟨e0, e1, e2, e3, e4, e5⟩ := row6F K1.out
  obtain ⟨u0, u1, u2, u3, u4, u5⟩ := ice6F K1.out
  go_wp2_with fail
  refine bodyPost_ret_by (results_tmp_row rfl _ _ (w.heap.size + 1) 32 _ (0, 0) _ (.string ⟨#[]⟩) rfl rfl (set6_row K1.out ..) Tryz.underlying32 rfl infoErr) rfl ?_
  exact ⟨rfl, set6_below HB1.out (by omega) ..⟩
set_option maxRecDepth 100000 in
set_option maxHeartbeats 4000000 in
theorem fm_tsv_err (t : ByteArray) (A : Array Value) (k : Int) (f : Nat) (vs : ByteArray) (a1 a2 : Option Addr) (n1 c1 n2 c2 : Nat) (hA : A = #[.int .i64 k, .float .f64 f, .string vs, .slice a1 n1 c1, .slice a2 n2 c2]) (w : World)
    (hS : ∀ W, Below w.heap.size w W → Calls Tryz.prog 82 #[.string ⟨#[116, 115, 118]⟩, .agg A, .string ⟨#[9]⟩, .func (.func 86) #[] #[]] W fun e w' => e = .returned (.tuple #[.string ⟨#[]⟩, .agg (errA t)]) ∧ Below W.heap.size W w') :
    Calls Tryz.prog 40 #[.string ⟨#[116, 115, 118]⟩, .agg A] w fun e w' => e = .returned (.tuple #[.string ⟨#[]⟩, .agg (errA t)]) ∧ Below w.heap.size w w' := by
  have HS := Lib.hid hS
  have hsf := run_store_float Tryz.prog
  obtain ⟨r0, r1⟩ := two_new w (.cells A 27) (.cells okA 32)
  have rb := ((Below.refl w.heap.size w).alloc (Nat.le_refl _) (.cells A 27)).alloc (by simp) (.cells okA 32)
  subst hA
  unfold okA at r0 r1 rb
  have H0 := Lib.hid r0
  have H1 := Lib.hid r1
  have HB := Lib.hid rb
  unfold errA at HS
  clear r0 r1 rb hS
  go_enter Tryz.func40, Tryz.ntmps40
  go_upto_region 1 with fail
  generalize (w.alloc (.cells #[.int .i64 k, .float .f64 f, .string vs, .slice a1 n1 c1, .slice a2 n2 c2] 27)).alloc (.cells #[.bool false, .int .i64 0, .float .f64 0, .string ⟨#[]⟩, .slice none 0 0, .slice none 0 0] 32) = W at H0 H1 HB ⊢
  obtain ⟨d0, d1, d2, d3, d4, _⟩ := row5' H0.out
  go_wp2_with fail
  refine (HS.out _ HB.out).mono ?_
  rintro e w1 ⟨rfl, hb⟩
  have K1 := Lib.hid ((hb.block _ (Array.getElem?_eq_some_iff.1 H1.out).1).trans H1.out)
  have HB1 := Lib.hid (HB.out.trans (hb.mono HB.out.size))
  clear hb H1 HB d0 d1 d2 d3 d4 H0
  obtain ⟨e0, e1, e2, e3, e4, e5⟩ := row6F K1.out
  obtain ⟨u0, u1, u2, u3, u4, u5⟩ := ice6F K1.out
  go_wp2_with fail
  refine bodyPost_ret_by (results_tmp_row rfl _ _ (w.heap.size + 1) 32 _ (0, 0) _ (.string ⟨#[]⟩) rfl rfl (set6_row K1.out ..) Tryz.underlying32 rfl infoErr) rfl ?_
  exact ⟨rfl, set6_below HB1.out (by omega) ..⟩
set_option maxRecDepth 100000 in
set_option maxHeartbeats 4000000 in
theorem fm_sh_err (t : ByteArray) (A : Array Value) (k : Int) (f : Nat) (vs : ByteArray) (a1 a2 : Option Addr) (n1 c1 n2 c2 : Nat) (hA : A = #[.int .i64 k, .float .f64 f, .string vs, .slice a1 n1 c1, .slice a2 n2 c2]) (w : World)
    (hS : ∀ W, Below w.heap.size w W → Calls Tryz.prog 85 #[.agg A] W fun e w' => e = .returned (.tuple #[.string ⟨#[]⟩, .agg (errA t)]) ∧ Below W.heap.size W w') :
    Calls Tryz.prog 40 #[.string ⟨#[115, 104]⟩, .agg A] w fun e w' => e = .returned (.tuple #[.string ⟨#[]⟩, .agg (errA t)]) ∧ Below w.heap.size w w' := by
  have HS := Lib.hid hS
  have hsf := run_store_float Tryz.prog
  obtain ⟨r0, r1⟩ := two_new w (.cells A 27) (.cells okA 32)
  have rb := ((Below.refl w.heap.size w).alloc (Nat.le_refl _) (.cells A 27)).alloc (by simp) (.cells okA 32)
  subst hA
  unfold okA at r0 r1 rb
  have H0 := Lib.hid r0
  have H1 := Lib.hid r1
  have HB := Lib.hid rb
  unfold errA at HS
  clear r0 r1 rb hS
  go_enter Tryz.func40, Tryz.ntmps40
  go_upto_region 1 with fail
  generalize (w.alloc (.cells #[.int .i64 k, .float .f64 f, .string vs, .slice a1 n1 c1, .slice a2 n2 c2] 27)).alloc (.cells #[.bool false, .int .i64 0, .float .f64 0, .string ⟨#[]⟩, .slice none 0 0, .slice none 0 0] 32) = W at H0 H1 HB ⊢
  obtain ⟨d0, d1, d2, d3, d4, _⟩ := row5' H0.out
  go_wp2_with fail
  refine (HS.out _ HB.out).mono ?_
  rintro e w1 ⟨rfl, hb⟩
  have K1 := Lib.hid ((hb.block _ (Array.getElem?_eq_some_iff.1 H1.out).1).trans H1.out)
  have HB1 := Lib.hid (HB.out.trans (hb.mono HB.out.size))
  clear hb H1 HB d0 d1 d2 d3 d4 H0
  obtain ⟨e0, e1, e2, e3, e4, e5⟩ := row6F K1.out
  obtain ⟨u0, u1, u2, u3, u4, u5⟩ := ice6F K1.out
  go_wp2_with fail
  refine bodyPost_ret_by (results_tmp_row rfl _ _ (w.heap.size + 1) 32 _ (0, 0) _ (.string ⟨#[]⟩) rfl rfl (set6_row K1.out ..) Tryz.underlying32 rfl infoErr) rfl ?_
  exact ⟨rfl, set6_below HB1.out (by omega) ..⟩
end Go.Proofs.YtpobdmkidopnnaaGreatDoor
namespace Go.Proofs.YtpobdmkidopnnaaGreatDoor
open Go Go.WideShapes

theorem dec_self {α : Type} [DecidableEq α] (l : α) : decide (l = l) = true := decide_eq_true rfl
theorem byte_nat (z : Int) (h0 : 0 ≤ z) (h1 : z < 256) : z.toNat.toUInt8.toNat = z.toNat := by
  show (UInt8.ofNat z.toNat).toNat = _
  rw [UInt8.toNat_ofNat']
  omega
/-- What is encoded is decoded again. -/
theorem dec_enc (p : Nat) (hr : right (p : Int) = true) (t : List UInt8) : Lib.decodeL (Lib.encodeRune (p : Int) ++ t) = (p, (Lib.encodeRune (p : Int)).length) := by
  obtain ⟨_, h1, h2⟩ := (right_iff p).1 hr
  rw [Lib.decodeL_N]
  unfold Lib.encodeRune
  by_cases c1 : p ≤ 127
  · rw [Lib.encodeRuneZ_one (by omega) (by omega)]
    simp only [List.map_cons, List.map_nil, List.cons_append, List.nil_append, List.length_cons, List.length_nil, List.getD_cons_zero]
    rw [byte_nat _ (by omega) (by omega)]
    unfold Lib.decodeN
    rw [if_pos (by omega)]
    simp
  · by_cases c2 : p ≤ 2047
    · rw [Lib.encodeRuneZ_two (by omega) (by omega)]
      simp only [List.map_cons, List.map_nil, List.cons_append, List.nil_append, List.length_cons, List.length_nil, List.getD_cons_zero, List.getD_cons_succ]
      rw [byte_nat _ (by omega) (by omega), byte_nat _ (by omega) (by omega)]
      unfold Lib.decodeN
      rw [if_neg (by omega), if_pos (by omega), if_pos (by omega)]
      refine Prod.ext ?_ rfl
      show _ = p
      omega
    · by_cases c3 : p ≤ 65535
      · rw [Lib.encodeRuneZ_three (by omega)]
        simp only [List.map_cons, List.map_nil, List.cons_append, List.nil_append, List.length_cons, List.length_nil, List.getD_cons_zero, List.getD_cons_succ]
        rw [byte_nat _ (by omega) (by omega), byte_nat _ (by omega) (by omega), byte_nat _ (by omega) (by omega)]
        unfold Lib.decodeN
        rw [if_neg (by omega), if_neg (by omega), if_pos (by omega), if_pos (by omega)]
        refine Prod.ext ?_ rfl
        show _ = p
        omega
      · rw [Lib.encodeRuneZ_four (by omega) (by omega)]
        simp only [List.map_cons, List.map_nil, List.cons_append, List.nil_append, List.length_cons, List.length_nil, List.getD_cons_zero, List.getD_cons_succ]
        rw [byte_nat _ (by omega) (by omega), byte_nat _ (by omega) (by omega), byte_nat _ (by omega) (by omega), byte_nat _ (by omega) (by omega)]
        unfold Lib.decodeN
        rw [if_neg (by omega), if_neg (by omega), if_neg (by omega), if_pos (by omega), if_pos (by omega)]
        refine Prod.ext ?_ rfl
        show _ = p
        omega
theorem enc_pos (p : Int) : 1 ≤ (Lib.encodeRune p).length := by
  have := (Lib.encodeRuneZ_length p).1
  unfold Lib.encodeRune
  rw [List.length_map]
  exact this
theorem enc_bad : (Lib.encodeRune ((65533 : Nat) : Int)).length = 3 := by kernel_rfl

/-- A text that is made of code points has these code points, and each of its pieces is one's bytes. -/
theorem pts_enc (s : ByteArray) : ∀ (l : List Nat) (pos : Nat), (∀ p ∈ l, right (p : Int) = true) → s.data.toList.drop pos = encAll l → pts s pos = l ∧ allGood s pos = true := by
  intro l
  induction l with
  | nil =>
    intro pos _ h
    have h' : s.data.toList.length ≤ pos := List.drop_eq_nil_iff.1 h
    rw [Array.length_toList] at h'
    have hs : ¬ pos < s.size := by show ¬ pos < s.data.size; omega
    exact ⟨pts_nil s pos hs, allGood_nil s pos hs⟩
  | cons p r ih =>
    intro pos hr h
    have hp := hr p (List.mem_cons_self ..)
    have e : encAll (p :: r) = Lib.encodeRune (p : Int) ++ encAll r := rfl
    rw [e] at h
    have hd : Utf8.decode s pos = (p, (Lib.encodeRune (p : Int)).length) := by rw [← Lib.decodeL_drop, h]; exact dec_enc p hp _
    have h1 := enc_pos (p : Int)
    have hlen := congrArg List.length h
    rw [List.length_drop, List.length_append, Array.length_toList] at hlen
    have hs : pos < s.size := by show pos < s.data.size; omega
    have hn : s.data.toList.drop (pos + (Lib.encodeRune (p : Int)).length) = encAll r := by
      rw [← List.drop_drop, h, List.drop_append_of_le_length (Nat.le_refl _), List.drop_length, List.nil_append]
    obtain ⟨i1, i2⟩ := ih _ (fun q hq => hr q (List.mem_cons_of_mem _ hq)) hn
    refine ⟨by rw [pts_cons s pos hs, hd, i1], ?_⟩
    rw [allGood_cons s pos hs, hd, i2, Bool.and_true]
    unfold good
    rw [hd, decide_eq_true_iff]
    rintro ⟨a, b⟩
    dsimp only at a b
    subst a
    rw [enc_bad] at b
    omega
theorem pts_right (s : ByteArray) (pos : Nat) : ∀ p ∈ pts s pos, right (p : Int) = true := by
  intro p hp
  obtain ⟨x, _, rfl⟩ := List.mem_map.1 hp
  exact right_pt s x
theorem clean_pts (s : ByteArray) : pts (cleanS s) 0 = pts s 0 ∧ allGood (cleanS s) 0 = true := pts_enc _ _ 0 (pts_right s 0) (by unfold cleanS; simp)
theorem clean_clean (s : ByteArray) : cleanS (cleanS s) = cleanS s := by
  show (⟨(encAll (pts (cleanS s) 0)).toArray⟩ : ByteArray) = _
  rw [(clean_pts s).1]
  rfl
theorem good_enc (s : ByteArray) : ∀ (k pos : Nat), s.size - pos ≤ k → allGood s pos = true → encAll (pts s pos) = s.data.toList.drop pos := by
  intro k
  induction k with
  | zero =>
    intro pos h _
    rw [pts_nil s pos (by omega), List.drop_eq_nil_iff.2 (by rw [Array.length_toList]; show s.size ≤ pos; omega)]
    rfl
  | succ k ih =>
    intro pos h hg
    by_cases hp : pos < s.size
    · have hw := wid s pos hp
      rw [allGood_cons s pos hp, Bool.and_eq_true] at hg
      rw [pts_cons s pos hp]
      have e : ∀ (p : Nat) (r : List Nat), encAll (p :: r) = Lib.encodeRune (p : Int) ++ encAll r := fun _ _ => rfl
      rw [e, ih _ (by omega) hg.2]
      have hne : s.data.toList.drop pos ≠ [] := by
        intro h0
        have := List.drop_eq_nil_iff.1 h0
        rw [Array.length_toList] at this
        have : s.size ≤ pos := this
        omega
      have hgd := hg.1
      unfold good at hgd
      rw [decide_eq_true_iff, ← Lib.decodeL_drop] at hgd
      have := Lib.encode_decode _ hne hgd
      rw [← Lib.decodeL_drop, this, ← List.drop_drop]
      exact List.take_append_drop _ _
    · rw [pts_nil s pos hp, List.drop_eq_nil_iff.2 (by rw [Array.length_toList]; show s.size ≤ pos; omega)]
      rfl
/-- A text is valid if and only if cleaning leaves it as it is. -/
theorem good_clean (s : ByteArray) : allGood s 0 = decide (cleanS s = s) := by
  rw [Bool.eq_iff_iff, decide_eq_true_iff]
  constructor
  · intro h
    apply bytes_inj
    show (encAll (pts s 0)).toArray.toList = _
    rw [good_enc s _ 0 (Nat.le_refl _) h, List.drop_zero]
  · intro h
    rw [← h]
    exact (clean_pts s).2
end Go.Proofs.YtpobdmkidopnnaaGreatDoor

/- The heads of layer 12. -/
import Derived.Test.YtpjncnoejdaplaaGreatDoorLAU
import Derived.Test.YtpjncnoejdaplaaGreatDoorLAW
import Derived.Test.YtpjncnoejdaplaaGreatDoorRows
import Derived.Test.YtpjncnoejdaplaaGreatDoorLAE
import Derived.Carry
import Derived.ChangeOld
import Derived.Lib.LaidIn
import Derived.Lib.LaidU8
import Derived.Lib.LaidTab
import Derived.LaidLaws
import Derived.Stop.LaidErr
import Derived.OpenShut
namespace Go.Proofs.YtpjncnoejdaplaaGreatDoor
open Go Go.RowKit Go.Shelf

/-- Rows of the call's own, and what lay below. -/
structure HW (w W : World) (l : List (Nat × Array Value × TypeId)) : Prop where
  rows : ∀ x ∈ l, W.heap[x.1]? = some (.cells x.2.1 x.2.2 (0, 0))
  bel : Below w.heap.size w W
theorem HW.start (w : World) : HW w w [] := ⟨fun x hx => by simp at hx, Below.refl _ _⟩
theorem HW.lt {w W : World} {l : List (Nat × Array Value × TypeId)} (h : HW w W l) (x : Nat × Array Value × TypeId) (hx : x ∈ l) : x.1 < W.heap.size := (Array.getElem?_eq_some_iff.1 (h.rows x hx)).1
theorem HW.below {w W W' : World} {l : List (Nat × Array Value × TypeId)} (h : HW w W l) (hb : Below W.heap.size W W') : HW w W' l :=
  ⟨fun x hx => (hb.block _ (h.lt x hx)).trans (h.rows x hx), h.bel.trans (hb.mono h.bel.size)⟩
theorem HW.one {w W : World} {l : List (Nat × Array Value × TypeId)} (h : HW w W l) (c : Array Value) (t : TypeId) : HW w (W.alloc (.cells c t)) ((W.heap.size, c, t) :: l) := by
  refine ⟨fun x hx => ?_, h.bel.alloc h.bel.size _⟩
  rcases List.mem_cons.1 hx with rfl | hx
  · exact heap_alloc_new W _
  · exact row_alloc3 (h.rows x hx) _
theorem HW.two {w W : World} {l : List (Nat × Array Value × TypeId)} (h : HW w W l) (c d : Array Value) (t u : TypeId) : HW w ((W.alloc (.cells c t)).alloc (.cells d u)) ((W.heap.size + 1, d, u) :: (W.heap.size, c, t) :: l) := by
  have := (h.one c t).one d u
  rw [World.size_alloc] at this
  exact this
theorem HW.get {w W : World} {l : List (Nat × Array Value × TypeId)} (h : HW w W l) (n : Nat) (c : Array Value) (t : TypeId) (hx : (n, c, t) ∈ l) : W.heap[n]? = some (.cells c t (0, 0)) := h.rows _ hx

theorem tm_one : tmI 2015 2 5 1425599507 = #[.int .i64 2015, .int .i64 2, .int .i64 5, .int .i64 23, .int .i64 51, .float .f64 4631811479262199808, .int .i64 4, .int .i64 63] := by kernel_rfl
theorem tm_two : tmI 2015 0 31 1422662400 = #[.int .i64 2015, .int .i64 0, .int .i64 31, .int .i64 0, .int .i64 0, .float .f64 0, .int .i64 6, .int .i64 30] := by kernel_rfl
theorem head_parse1 (eb : Addr) (w : World) (hE : ErrW w eb) (h6 : 6 ≤ w.heap.size) : Calls Tryz.prog 12 #[.string ⟨#[50, 48, 49, 53, 45, 48, 51, 45, 48, 53, 84, 50, 51, 58, 53, 49, 58, 52, 55, 90]⟩, .string ⟨#[37, 89, 45, 37, 109, 45, 37, 100, 84, 37, 72, 58, 37, 77, 58, 37, 83, 90]⟩] w fun e w' => e = .returned (.tuple #[.agg #[.int .i64 2015, .int .i64 2, .int .i64 5, .int .i64 23, .int .i64 51, .float .f64 4631811479262199808, .int .i64 4, .int .i64 63], .int .i64 0]) ∧ Below w.heap.size w w' := by
  refine (Parse_any _ _ (by decide) (by decide) eb w hE h6).mono ?_
  rintro e w' ⟨h, hb⟩
  rw [show parseS (ByteArray.mk #[50, 48, 49, 53, 45, 48, 51, 45, 48, 53, 84, 50, 51, 58, 53, 49, 58, 52, 55, 90]).data.toList (ByteArray.mk #[37, 89, 45, 37, 109, 45, 37, 100, 84, 37, 72, 58, 37, 77, 58, 37, 83, 90]).data.toList = some 1425599507 from head_p1] at h
  obtain ⟨_, y, m, d, hD, hN, rfl⟩ := h
  obtain ⟨rfl, rfl, rfl⟩ := num_inj 2015 2 5 y m d (by decide) hD (by rw [hN]; decide)
  rw [tm_one]
  exact ⟨rfl, hb⟩
theorem head_parse2 (eb : Addr) (w : World) (hE : ErrW w eb) (h6 : 6 ≤ w.heap.size) : Calls Tryz.prog 12 #[.string ⟨#[50, 48, 49, 53, 32, 51, 49]⟩, .string ⟨#[37, 89, 32, 37, 106]⟩] w fun e w' => e = .returned (.tuple #[.agg #[.int .i64 2015, .int .i64 0, .int .i64 31, .int .i64 0, .int .i64 0, .float .f64 0, .int .i64 6, .int .i64 30], .int .i64 0]) ∧ Below w.heap.size w w' := by
  refine (Parse_any _ _ (by decide) (by decide) eb w hE h6).mono ?_
  rintro e w' ⟨h, hb⟩
  rw [show parseS (ByteArray.mk #[50, 48, 49, 53, 32, 51, 49]).data.toList (ByteArray.mk #[37, 89, 32, 37, 106]).data.toList = some 1422662400 from head_p2] at h
  obtain ⟨_, y, m, d, hD, hN, rfl⟩ := h
  obtain ⟨rfl, rfl, rfl⟩ := num_inj 2015 0 31 y m d (by decide) hD (by rw [hN]; decide)
  rw [tm_two]
  exact ⟨rfl, hb⟩
theorem head_parse3 (eb : Addr) (w : World) (hE : ErrW w eb) (h6 : 6 ≤ w.heap.size) : Calls Tryz.prog 12 #[.string ⟨#[50, 48, 49, 53, 45, 48, 50, 45, 51, 48]⟩, .string ⟨#[37, 70]⟩] w fun e w' => e = .returned (.tuple #[.agg #[.int .i64 0, .int .i64 0, .int .i64 0, .int .i64 0, .int .i64 0, .float .f64 0, .int .i64 0, .int .i64 0], .int .i64 110]) ∧ Below w.heap.size w w' := by
  refine (Parse_any _ _ (by decide) (by decide) eb w hE h6).mono ?_
  rintro e w' ⟨h, hb⟩
  rw [show parseS (ByteArray.mk #[50, 48, 49, 53, 45, 48, 50, 45, 51, 48]).data.toList (ByteArray.mk #[37, 70]).data.toList = none from head_p3] at h
  exact ⟨h, hb⟩
theorem fI_47 : fI 47 = 4631811479262199808 := by decide +kernel
theorem fI_head : fI 1425599507 = 4743766205708369920 := by decide +kernel
theorem head_text1 (eb : Addr) (w : World) (hG : GlobW w eb) : Calls Tryz.prog 21 #[.agg #[.int .i64 2015, .int .i64 2, .int .i64 5, .int .i64 23, .int .i64 51, .float .f64 4631811479262199808, .int .i64 0, .int .i64 0], .string ⟨#[37, 65, 44, 32, 37, 66, 32, 37, 100, 44, 32, 37, 89]⟩] w fun e w' => e = .returned (.string ⟨#[84, 104, 117, 114, 115, 100, 97, 121, 44, 32, 77, 97, 114, 99, 104, 32, 48, 53, 44, 32, 50, 48, 49, 53]⟩) ∧ Below w.heap.size w w' := by
  have h := text_at 2015 2 5 1425599507 0 0 (by decide) (by decide) ⟨#[37, 65, 44, 32, 37, 66, 32, 37, 100, 44, 32, 37, 89]⟩ (by decide) eb w hG
  rw [head_t1, show (1425599507 : Int) % 86400 / 3600 = 23 by decide, show (1425599507 : Int) % 86400 / 60 % 60 = 51 by decide, show (1425599507 : Int) % 86400 % 60 = 47 by decide, fI_47] at h
  exact h
theorem head_text2 (eb : Addr) (w : World) (hG : GlobW w eb) : Calls Tryz.prog 21 #[.agg #[.int .i64 2015, .int .i64 2, .int .i64 5, .int .i64 23, .int .i64 51, .float .f64 4631811479262199808, .int .i64 0, .int .i64 0], .string ⟨#[37, 101, 124, 37, 106, 124, 37, 85, 124, 37, 86, 124, 37, 73, 37, 112, 124, 37, 37, 124, 37, 113, 124, 37]⟩] w fun e w' => e = .returned (.string ⟨#[32, 53, 124, 48, 54, 52, 124, 48, 57, 124, 49, 48, 124, 49, 49, 80, 77, 124, 37, 124, 37, 113, 124, 37]⟩) ∧ Below w.heap.size w w' := by
  have h := text_at 2015 2 5 1425599507 0 0 (by decide) (by decide) ⟨#[37, 101, 124, 37, 106, 124, 37, 85, 124, 37, 86, 124, 37, 73, 37, 112, 124, 37, 37, 124, 37, 113, 124, 37]⟩ (by decide) eb w hG
  rw [head_t2, show (1425599507 : Int) % 86400 / 3600 = 23 by decide, show (1425599507 : Int) % 86400 / 60 % 60 = 51 by decide, show (1425599507 : Int) % 86400 % 60 = 47 by decide, fI_47] at h
  exact h
theorem head_join (w : World) : Calls Tryz.prog 53 #[.agg (timeV 2015 2 5 23 51 4631811479262199808 0 0)] w fun e w' => e = .returned (.tuple #[.int .i64 1425599507, .int .i64 0]) ∧ Below w.heap.size w w' := by
  have h := join_tm 2015 2 5 1425599507 0 0 (by decide) (by decide) w
  rw [show (1425599507 : Int) % 86400 / 3600 = 23 by decide, show (1425599507 : Int) % 86400 / 60 % 60 = 51 by decide, show (1425599507 : Int) % 86400 % 60 = 47 by decide, fI_47] at h
  exact h
theorem head_array (w : World) : Calls Tryz.prog 28 #[.agg #[.int .i64 2015, .int .i64 2, .int .i64 5, .int .i64 23, .int .i64 51, .float .f64 4631811479262199808, .int .i64 0, .int .i64 0]] w fun e w' => ArPost w (tmCells 2015 2 5 23 51 4631811479262199808 0 0) e w' := Array_any 2015 2 5 23 51 4631811479262199808 0 0 w
theorem head_mktime (g c8 : Nat) (hc8 : 8 ≤ c8) (w : World) (hg : RowT w g (tmCells 2015 2 5 23 51 4631811479262199808 0 0)) : Calls Tryz.prog 18 #[.agg #[.int .i64 5, .float .f64 0, .string ⟨#[]⟩, .slice (some ⟨g, 0, none⟩) 8 c8, .slice none 0 0]] w fun e w' => e = .returned (.tuple #[.agg #[.int .i64 3, .float .f64 4743766205708369920, .string ⟨#[]⟩, .slice none 0 0, .slice none 0 0], .agg #[.bool false, .int .i64 0, .float .f64 0, .string ⟨#[]⟩, .slice none 0 0, .slice none 0 0]]) ∧ Below w.heap.size w w' := by
  have h := Mktime_of g c8 hc8 2015 2 5 23 51 4631811479262199808 0 0 (by decide) (by decide) (by decide) (by decide) (by decide) 1425599507 head_join w hg
  rw [fI_head] at h
  exact h
theorem head_str (w : World) : Calls Tryz.prog 29 #[.string ⟨#[120]⟩] w fun e w' => e = .returned (.agg #[.int .i64 4, .float .f64 0, .string ⟨#[120]⟩, .slice none 0 0, .slice none 0 0]) ∧ Below w.heap.size w w' := rStr_any _ w
theorem head_gm (w : World) : Calls Tryz.prog 16 #[.agg #[.int .i64 4, .float .f64 0, .string ⟨#[120]⟩, .slice none 0 0, .slice none 0 0]] w fun e w' => e = .returned (.tuple #[.agg #[.int .i64 0, .float .f64 0, .string ⟨#[]⟩, .slice none 0 0, .slice none 0 0], .agg #[.bool true, .int .i64 4, .float .f64 0, .string gmText, .slice none 0 0, .slice none 0 0]]) ∧ Below w.heap.size w w' := Gmtime_str _ w
theorem row8p {w : World} {b : Nat} {u0 u1 u2 u3 u4 u5 u6 u7 : Value} {t : TypeId} (hb : w.heap[b]? = some (.cells #[u0, u1, u2, u3, u4, u5, u6, u7] t (0, 0))) :
    w.cell? ⟨b, 0, none⟩ = some u0 ∧ w.cell? ⟨b, 1, none⟩ = some u1 ∧ w.cell? ⟨b, 2, none⟩ = some u2 ∧ w.cell? ⟨b, 3, none⟩ = some u3 ∧ w.cell? ⟨b, 4, none⟩ = some u4 ∧ w.cell? ⟨b, 5, none⟩ = some u5 ∧ w.cell? ⟨b, 6, none⟩ = some u6 ∧ w.cell? ⟨b, 7, none⟩ = some u7 := row8 hb
theorem f_eq1 : Op.floatEq .f64 4631811479262199808 4631811479262199808 = true := by decide +kernel
theorem f_eq2 : Op.floatEq .f64 4743766205708369920 4743766205708369920 = true := by decide +kernel
set_option maxRecDepth 100000 in
set_option maxHeartbeats 8000000 in
theorem heads_true (eb : Addr) (w : World) (hG : GlobW w eb) : Calls Tryz.prog 11 #[] w fun e w' => e = .returned (.bool true) ∧ Below w.heap.size w w' := by
  have hsf := run_store_float Tryz.prog
  have HG := Lib.hid (fun W (hW : Below w.heap.size w W) => hG.below hW)
  have hq1 := f_eq1
  have hq2 := f_eq2
  clear hG
  go_enter Tryz.func11, Tryz.ntmps11
  go_wp2_with fail
  have hh := (HW.start w).one #[.int .i64 2015, .int .i64 2, .int .i64 5, .int .i64 23, .int .i64 51, .float .f64 4631811479262199808, .int .i64 0, .int .i64 0] 24
  generalize w.alloc (.cells #[.int .i64 2015, .int .i64 2, .int .i64 5, .int .i64 23, .int .i64 51, .float .f64 4631811479262199808, .int .i64 0, .int .i64 0] 24) = X0 at hh ⊢
  have H := Lib.hid hh
  clear hh
  refine (head_parse1 eb _ (HG.out _ H.out.bel).err (HG.out _ H.out.bel).size).mono ?_
  rintro e w1 ⟨rfl, hb⟩
  have hh := (H.out.below hb).one #[.int .i64 2015, .int .i64 2, .int .i64 5, .int .i64 23, .int .i64 51, .float .f64 4631811479262199808, .int .i64 4, .int .i64 63] 24
  clear H hb
  go_upto_region 3 with fail
  obtain ⟨g1, hg1⟩ : ∃ g, w1.heap.size = g := ⟨_, rfl⟩
  rw [hg1] at hh ⊢
  generalize w1.alloc (.cells #[.int .i64 2015, .int .i64 2, .int .i64 5, .int .i64 23, .int .i64 51, .float .f64 4631811479262199808, .int .i64 4, .int .i64 63] 24) = X1 at hh ⊢
  have H := Lib.hid hh
  clear hh hg1
  go_wp2_with fail
  refine (head_parse2 eb _ (HG.out _ H.out.bel).err (HG.out _ H.out.bel).size).mono ?_
  rintro e w2 ⟨rfl, hb⟩
  have hh := (H.out.below hb).one #[.int .i64 2015, .int .i64 0, .int .i64 31, .int .i64 0, .int .i64 0, .float .f64 0, .int .i64 6, .int .i64 30] 24
  clear H hb
  go_upto_region 4 with fail
  obtain ⟨g2, hg2⟩ : ∃ g, w2.heap.size = g := ⟨_, rfl⟩
  rw [hg2] at hh ⊢
  generalize w2.alloc (.cells #[.int .i64 2015, .int .i64 0, .int .i64 31, .int .i64 0, .int .i64 0, .float .f64 0, .int .i64 6, .int .i64 30] 24) = X2 at hh ⊢
  have H := Lib.hid hh
  clear hh hg2
  go_wp2_with fail
  refine (head_parse3 eb _ (HG.out _ H.out.bel).err (HG.out _ H.out.bel).size).mono ?_
  rintro e w3 ⟨rfl, hb⟩
  have hh := (H.out.below hb).one #[.int .i64 0, .int .i64 0, .int .i64 0, .int .i64 0, .int .i64 0, .float .f64 0, .int .i64 0, .int .i64 0] 24
  clear H hb
  go_upto_region 5 with fail
  obtain ⟨g3, hg3⟩ : ∃ g, w3.heap.size = g := ⟨_, rfl⟩
  rw [hg3] at hh ⊢
  generalize w3.alloc (.cells #[.int .i64 0, .int .i64 0, .int .i64 0, .int .i64 0, .int .i64 0, .float .f64 0, .int .i64 0, .int .i64 0] 24) = X3 at hh ⊢
  have H := Lib.hid hh
  clear hh hg3
  obtain ⟨t0, t1, t2, t3, t4, t5, t6, t7⟩ := row8p (H.out.rows _ (.tail _ (.tail _ (.tail _ (.head _)))))
  go_wp2_with fail
  refine (head_array _).mono ?_
  rintro e w4 ⟨⟨q, c8, hc8, _, _, rfl, hR⟩, hb⟩
  have hh := H.out.below hb
  have HR := Lib.hid hR
  clear H hb hR t0 t1 t2 t3 t4 t5 t6 t7
  have H := Lib.hid hh
  clear hh
  go_wp2_with fail
  refine (head_mktime q c8 hc8 _ HR.out).mono ?_
  rintro e w5 ⟨rfl, hb⟩
  have hh := (H.out.below hb).two #[.int .i64 3, .float .f64 4743766205708369920, .string ⟨#[]⟩, .slice none 0 0, .slice none 0 0] #[.bool false, .int .i64 0, .float .f64 0, .string ⟨#[]⟩, .slice none 0 0, .slice none 0 0] 46 48
  clear H hb HR hc8
  go_upto_region 6 with fail
  obtain ⟨g5, hg5⟩ : ∃ g, w5.heap.size = g := ⟨_, rfl⟩
  rw [hg5] at hh ⊢
  generalize (w5.alloc (.cells #[.int .i64 3, .float .f64 4743766205708369920, .string ⟨#[]⟩, .slice none 0 0, .slice none 0 0] 46)).alloc (.cells #[.bool false, .int .i64 0, .float .f64 0, .string ⟨#[]⟩, .slice none 0 0, .slice none 0 0] 48) = X5 at hh ⊢
  have H := Lib.hid hh
  clear hh hg5
  go_wp2_with fail
  refine (head_str _).mono ?_
  rintro e w6 ⟨rfl, hb⟩
  have hh := H.out.below hb
  clear H hb
  have H := Lib.hid hh
  clear hh
  go_wp2_with fail
  refine (head_gm _).mono ?_
  rintro e w7 ⟨rfl, hb⟩
  have hh := (H.out.below hb).two #[.int .i64 0, .float .f64 0, .string ⟨#[]⟩, .slice none 0 0, .slice none 0 0] #[.bool true, .int .i64 4, .float .f64 0, .string gmText, .slice none 0 0, .slice none 0 0] 46 48
  clear H hb
  go_upto_region 7 with fail
  obtain ⟨g7, hg7⟩ : ∃ g, w7.heap.size = g := ⟨_, rfl⟩
  rw [hg7] at hh ⊢
  generalize (w7.alloc (.cells #[.int .i64 0, .float .f64 0, .string ⟨#[]⟩, .slice none 0 0, .slice none 0 0] 46)).alloc (.cells #[.bool true, .int .i64 4, .float .f64 0, .string gmText, .slice none 0 0, .slice none 0 0] 48) = X7 at hh ⊢
  have H := Lib.hid hh
  clear hh hg7
  obtain ⟨t0, t1, t2, t3, t4, t5, t6, t7⟩ := row8p (H.out.rows _ (.tail _ (.tail _ (.tail _ (.tail _ (.tail _ (.tail _ (.tail _ (.head _)))))))))
  go_wp2_with fail
  refine (head_text1 eb _ (HG.out _ H.out.bel)).mono ?_
  rintro e w8 ⟨rfl, hb⟩
  have hh := H.out.below hb
  clear H hb t0 t1 t2 t3 t4 t5 t6 t7
  have H := Lib.hid hh
  clear hh
  obtain ⟨t0, t1, t2, t3, t4, t5, t6, t7⟩ := row8p (H.out.rows _ (.tail _ (.tail _ (.tail _ (.tail _ (.tail _ (.tail _ (.tail _ (.head _)))))))))
  go_wp2_with fail
  refine (head_text2 eb _ (HG.out _ H.out.bel)).mono ?_
  rintro e w9 ⟨rfl, hb⟩
  have hh := H.out.below hb
  clear H hb t0 t1 t2 t3 t4 t5 t6 t7
  have H := Lib.hid hh
  clear hh
  obtain ⟨a0, a1, a2, a3, a4, a5, a6, a7⟩ := row8p (H.out.rows _ (.tail _ (.tail _ (.tail _ (.tail _ (.tail _ (.tail _ (.head _))))))))
  obtain ⟨b0, b1, b2, b3, b4, b5, b6, b7⟩ := row8p (H.out.rows _ (.tail _ (.tail _ (.tail _ (.tail _ (.tail _ (.head _)))))))
  obtain ⟨⟨n0, n1, n2, n3, n4⟩, _⟩ := row5n (H.out.rows _ (.tail _ (.tail _ (.tail _ (.head _)))))
  obtain ⟨⟨c0, c1, c2, c3, c4, c5⟩, _⟩ := row6n (H.out.rows _ (.tail _ (.tail _ (.head _))))
  obtain ⟨⟨d0, d1, d2, d3, d4, d5⟩, _⟩ := row6n (H.out.rows _ (.head _))
  unfold gmText at d3
  go_wp2_with fail
  refine (lnum_any _ _).mono ?_
  rintro e w10 ⟨rfl, rfl⟩
  go_wp2_with fail
  refine (lnum_any _ _).mono ?_
  rintro e w11 ⟨rfl, rfl⟩
  go_wp2_with fail
  refine (lnum_any _ _).mono ?_
  rintro e w12 ⟨rfl, rfl⟩
  go_wp2_with fail
  go_ret
  exact ⟨rfl, H.out.bel⟩
end Go.Proofs.YtpjncnoejdaplaaGreatDoor
namespace Go.Proofs.YtpjncnoejdaplaaGreatDoor
open Go Go.RowKit Go.Shelf

theorem fI_self (k : Int) (h1 : -9007199254740992 ≤ k) (h2 : k ≤ 9007199254740992) : (FloatKind.f64.format.order (fI k) (fI k) == some .eq) = true := by
  have h := eq_self (fI k) (Nat.le_of_lt (fI_is k h1 h2).1)
  show (Ieee.double.order (fI k) (fI k) == some .eq) = true
  rw [h]
  rfl
theorem Gmtime_at (a : Int) (hk : knownS a) (y m d : Int) (hD : OkD y m d) (hN : numI y m d = a / 86400) (w : World) :
    Calls Tryz.prog 16 #[.agg #[.int .i64 3, .float .f64 (fI a), .string ⟨#[]⟩, .slice none 0 0, .slice none 0 0]] w fun e w' => GmPost w (tmCells y m d (a % 86400 / 3600) (a % 86400 / 60 % 60) (fI (a % 86400 % 60)) ((numI y m d + 4) % 7) (numI y m d - beginI y 0)) e w' :=
  Gmtime_of (fI a) ⟨#[]⟩ none none 0 0 0 0 y m d _ _ _ _ _ (fun w => split_at a hk y m d hD hN w) w
theorem Mktime_at (a : Int) (_hk : knownS a) (y m d : Int) (hD : OkD y m d) (hN : numI y m d = a / 86400) (g c8 : Nat) (hc8 : 8 ≤ c8) (wd yd : Int) (w : World)
    (hg : RowT w g (tmCells y m d (a % 86400 / 3600) (a % 86400 / 60 % 60) (fI (a % 86400 % 60)) wd yd)) :
    Calls Tryz.prog 18 #[.agg #[.int .i64 5, .float .f64 0, .string ⟨#[]⟩, .slice (some ⟨g, 0, none⟩) 8 c8, .slice none 0 0]] w fun e w' => e = .returned (.tuple #[.agg (numV (fI a)), .agg noErr]) ∧ Below w.heap.size w w' := by
  have hl := lenI_bd y m hD.2.1.1 hD.2.1.2
  obtain ⟨⟨a1, a2⟩, ⟨b1, b2⟩, c1, c2⟩ := id hD
  exact Mktime_of g c8 hc8 y m d _ _ _ wd yd (by omega) (by omega) (by omega) (by omega) (by omega) a (fun w => join_tm y m d a 0 0 hD hN w) w hg
/-- What the law makes of a number. -/
def turnsX (sec : Int) : Int := if sec.tmod 253402300800 < -62135596800 then -(sec.tmod 253402300800) else sec.tmod 253402300800
theorem tmod_bd (s n : Int) (h : 0 < n) : -n < s.tmod n ∧ s.tmod n < n := by
  rcases Int.lt_or_le s 0 with h0 | h0
  · obtain ⟨z, rfl⟩ : ∃ z, s = -z := ⟨-s, by omega⟩
    rw [Int.neg_tmod, Int.tmod_eq_emod_of_nonneg (by omega)]
    have h1 := Int.emod_nonneg z (show n ≠ 0 by omega)
    have h2 := Int.emod_lt_of_pos z h
    omega
  · rw [Int.tmod_eq_emod_of_nonneg h0]
    have h1 := Int.emod_nonneg s (show n ≠ 0 by omega)
    have h2 := Int.emod_lt_of_pos s h
    omega
set_option maxRecDepth 100000 in
set_option maxHeartbeats 4000000 in
theorem clockTurns_true (sec : Int) (eb : Addr) (w : World) (hG : GlobW w eb) : Calls Tryz.prog 6 #[.int .i64 sec] w fun e w' => e = .returned (.bool true) ∧ Below w.heap.size w w' := by
  have hsf := run_store_float Tryz.prog
  have hci := conv_int
  obtain ⟨hb1, hb2⟩ := tmod_bd sec 253402300800 (by omega)
  have HG := Lib.hid (fun W (hW : Below w.heap.size w W) => hG.below hW)
  clear hG
  obtain ⟨z, hz⟩ : ∃ z, sec.tmod 253402300800 = z := ⟨_, rfl⟩
  rw [hz] at hb1 hb2
  obtain ⟨a, ha⟩ : ∃ a : Int, (if z < -62135596800 then -z else z) = a := ⟨_, rfl⟩
  have hab : -62135596800 ≤ a ∧ a < 253402300800 := by rw [← ha]; split <;> omega
  obtain ⟨y, m, d, hD, hN⟩ := num_ex (a / 86400) (by omega) (by omega)
  have hk : knownS a := ⟨by omega, by omega⟩
  have hself := fI_self a (by omega) (by omega)
  have HGM := Lib.hid (fun w => Gmtime_at a hk y m d hD hN w)
  have HMK := Lib.hid (fun g c8 h8 wd yd w hg => Mktime_at a hk y m d hD hN g c8 h8 wd yd w hg)
  have HT := Lib.hid (fun w hG => heads_true eb w hG)
  unfold numV noErr at HMK
  clear hD hN hk hab
  by_cases hlt : z < -62135596800
  · rw [if_pos hlt] at ha
    subst ha
    go_enter Tryz.func6, Tryz.ntmps6
    go_wp2_with fail
    refine (rNum_any _ _).mono ?_
    rintro e w1 ⟨rfl, hb⟩
    unfold numV
    have HB1 := Lib.hid hb
    clear hb
    go_wp2_with fail
    refine (HGM.out _).mono ?_
    rintro e w2 ⟨⟨g, hg0, rfl, hgr⟩, hb⟩
    unfold noErr
    have hh := (HW.start w).below (HB1.out.trans (hb.mono HB1.out.size))
    have hh2 := hh.two #[.int .i64 5, .float .f64 0, .string ⟨#[]⟩, .slice (some ⟨g, 0, none⟩) 8 8, .slice none 0 0] #[.bool false, .int .i64 0, .float .f64 0, .string ⟨#[]⟩, .slice none 0 0, .slice none 0 0] 46 48
    have hrt := (RowT.of hgr).below (((Below.refl w2.heap.size w2).alloc (Nat.le_refl _) (.cells #[.int .i64 5, .float .f64 0, .string ⟨#[]⟩, .slice (some ⟨g, 0, none⟩) 8 8, .slice none 0 0] 46)).alloc (by simp) (.cells #[.bool false, .int .i64 0, .float .f64 0, .string ⟨#[]⟩, .slice none 0 0, .slice none 0 0] 48))
    clear hb hgr hg0 hh HB1 HGM
    go_upto_region 5 with fail
    obtain ⟨q2, hq2⟩ : ∃ q, w2.heap.size = q := ⟨_, rfl⟩
    rw [hq2] at hh2 ⊢
    generalize (w2.alloc (.cells #[.int .i64 5, .float .f64 0, .string ⟨#[]⟩, .slice (some ⟨g, 0, none⟩) 8 8, .slice none 0 0] 46)).alloc (.cells #[.bool false, .int .i64 0, .float .f64 0, .string ⟨#[]⟩, .slice none 0 0, .slice none 0 0] 48) = X2 at hh2 hrt ⊢
    have H := Lib.hid hh2
    have HR := Lib.hid hrt
    clear hh2 hrt hq2
    obtain ⟨⟨v0, v1, v2, v3, v4⟩, _⟩ := row5n (H.out.rows _ (.tail _ (.head _)))
    obtain ⟨⟨k0, k1, k2, k3, k4, k5⟩, _⟩ := row6n (H.out.rows _ (.head _))
    go_wp2_with fail
    refine (HMK.out g 8 (Nat.le_refl _) _ _ _ HR.out).mono ?_
    rintro e w3 ⟨rfl, hb⟩
    have hh := (H.out.below hb).two #[.int .i64 3, .float .f64 (fI (-z)), .string ⟨#[]⟩, .slice none 0 0, .slice none 0 0] #[.bool false, .int .i64 0, .float .f64 0, .string ⟨#[]⟩, .slice none 0 0, .slice none 0 0] 46 48
    clear hb H HR HMK v0 v1 v2 v3 v4 k0 k1 k2 k3 k4 k5
    go_upto_region 8 with fail
    obtain ⟨q3, hq3⟩ : ∃ q, w3.heap.size = q := ⟨_, rfl⟩
    rw [hq3] at hh ⊢
    generalize (w3.alloc (.cells #[.int .i64 3, .float .f64 (fI (-z)), .string ⟨#[]⟩, .slice none 0 0, .slice none 0 0] 46)).alloc (.cells #[.bool false, .int .i64 0, .float .f64 0, .string ⟨#[]⟩, .slice none 0 0, .slice none 0 0] 48) = X3 at hh ⊢
    have H := Lib.hid hh
    clear hh hq3
    obtain ⟨⟨v0, v1, v2, v3, v4⟩, _⟩ := row5n (H.out.rows _ (.tail _ (.head _)))
    obtain ⟨⟨k0, k1, k2, k3, k4, k5⟩, _⟩ := row6n (H.out.rows _ (.head _))
    go_wp2_with fail
    refine (HT.out _ (HG.out _ H.out.bel)).mono ?_
    rintro e w4 ⟨rfl, hb⟩
    have HF := Lib.hid (H.out.bel.trans (hb.mono H.out.bel.size))
    clear hb H v0 v1 v2 v3 v4 k0 k1 k2 k3 k4 k5
    go_wp2_with fail
    go_ret
    exact ⟨rfl, HF.out⟩
  · rw [if_neg hlt] at ha
    subst ha
    go_enter Tryz.func6, Tryz.ntmps6
    go_wp2_with fail
    refine (rNum_any _ _).mono ?_
    rintro e w1 ⟨rfl, hb⟩
    unfold numV
    have HB1 := Lib.hid hb
    clear hb
    go_wp2_with fail
    refine (HGM.out _).mono ?_
    rintro e w2 ⟨⟨g, hg0, rfl, hgr⟩, hb⟩
    unfold noErr
    have hh := (HW.start w).below (HB1.out.trans (hb.mono HB1.out.size))
    have hh2 := hh.two #[.int .i64 5, .float .f64 0, .string ⟨#[]⟩, .slice (some ⟨g, 0, none⟩) 8 8, .slice none 0 0] #[.bool false, .int .i64 0, .float .f64 0, .string ⟨#[]⟩, .slice none 0 0, .slice none 0 0] 46 48
    have hrt := (RowT.of hgr).below (((Below.refl w2.heap.size w2).alloc (Nat.le_refl _) (.cells #[.int .i64 5, .float .f64 0, .string ⟨#[]⟩, .slice (some ⟨g, 0, none⟩) 8 8, .slice none 0 0] 46)).alloc (by simp) (.cells #[.bool false, .int .i64 0, .float .f64 0, .string ⟨#[]⟩, .slice none 0 0, .slice none 0 0] 48))
    clear hb hgr hg0 hh HB1 HGM
    go_upto_region 5 with fail
    obtain ⟨q2, hq2⟩ : ∃ q, w2.heap.size = q := ⟨_, rfl⟩
    rw [hq2] at hh2 ⊢
    generalize (w2.alloc (.cells #[.int .i64 5, .float .f64 0, .string ⟨#[]⟩, .slice (some ⟨g, 0, none⟩) 8 8, .slice none 0 0] 46)).alloc (.cells #[.bool false, .int .i64 0, .float .f64 0, .string ⟨#[]⟩, .slice none 0 0, .slice none 0 0] 48) = X2 at hh2 hrt ⊢
    have H := Lib.hid hh2
    have HR := Lib.hid hrt
    clear hh2 hrt hq2
    obtain ⟨⟨v0, v1, v2, v3, v4⟩, _⟩ := row5n (H.out.rows _ (.tail _ (.head _)))
    obtain ⟨⟨k0, k1, k2, k3, k4, k5⟩, _⟩ := row6n (H.out.rows _ (.head _))
    go_wp2_with fail
    refine (HMK.out g 8 (Nat.le_refl _) _ _ _ HR.out).mono ?_
    rintro e w3 ⟨rfl, hb⟩
    have hh := (H.out.below hb).two #[.int .i64 3, .float .f64 (fI z), .string ⟨#[]⟩, .slice none 0 0, .slice none 0 0] #[.bool false, .int .i64 0, .float .f64 0, .string ⟨#[]⟩, .slice none 0 0, .slice none 0 0] 46 48
    clear hb H HR HMK v0 v1 v2 v3 v4 k0 k1 k2 k3 k4 k5
    go_upto_region 8 with fail
    obtain ⟨q3, hq3⟩ : ∃ q, w3.heap.size = q := ⟨_, rfl⟩
    rw [hq3] at hh ⊢
    generalize (w3.alloc (.cells #[.int .i64 3, .float .f64 (fI z), .string ⟨#[]⟩, .slice none 0 0, .slice none 0 0] 46)).alloc (.cells #[.bool false, .int .i64 0, .float .f64 0, .string ⟨#[]⟩, .slice none 0 0, .slice none 0 0] 48) = X3 at hh ⊢
    have H := Lib.hid hh
    clear hh hq3
    obtain ⟨⟨v0, v1, v2, v3, v4⟩, _⟩ := row5n (H.out.rows _ (.tail _ (.head _)))
    obtain ⟨⟨k0, k1, k2, k3, k4, k5⟩, _⟩ := row6n (H.out.rows _ (.head _))
    go_wp2_with fail
    refine (HT.out _ (HG.out _ H.out.bel)).mono ?_
    rintro e w4 ⟨rfl, hb⟩
    have HF := Lib.hid (H.out.bel.trans (hb.mono H.out.bel.size))
    clear hb H v0 v1 v2 v3 v4 k0 k1 k2 k3 k4 k5
    go_wp2_with fail
    go_ret
    exact ⟨rfl, HF.out⟩
end Go.Proofs.YtpjncnoejdaplaaGreatDoor
namespace Go.Proofs.YtpjncnoejdaplaaGreatDoor
open Go Go.ChangeShapes Go.WideShapes Go.ChangeAt Go.RowKit Go.Lib

theorem kten_same : (Rows.laid_internal_strconv_uint64pow10 : DataW Unit) = tabData .u64 Lib.pow10Tab := by kernel_rfl
theorem ksize_of_shape {P : Program} {w : World} {g : Nat} (h : w.ShapedOpen P) (hg : g < P.globals.size) (h0 : (((begin P (fun _ _ => 0) default).world.heap[g]?).bind Obj.row?).isSome = true) : g < w.heap.size := by
  obtain ⟨⟨zero, t⟩, h1⟩ := Option.isSome_iff_exists.1 h0
  obtain ⟨cs, hh, _⟩ := h.1 g zero t hg h1
  exact (Array.getElem?_eq_some_iff.1 hh).1
theorem krowE (u : TypeId) (h : Tryz.prog.typeName? 3 u = some "*errors.errorString") : u = 214 :=
  typeName_ptr_named (nm := "errors.errorString") (by kernel_rfl) (by kernel_rfl) (by decide) u h
theorem glob_of_laid {W : World} (hL : laidMet Tryz.prog [("math/bits.deBruijn32tab", Rows.laid_math_bits_deBruijn32tab), ("math/bits.deBruijn64tab", Rows.laid_math_bits_deBruijn64tab), ("internal/strconv.uint64pow10", Rows.laid_internal_strconv_uint64pow10), ("colander/clock.errRefused", Rows.laid_colander_clock_errRefused)] W) (hx4 : W.ShapedOpen Tryz.prog) : ∃ eb, GlobW W eb := by
  have r4 := Lib.laidMet.reads hL (n := "internal/strconv.uint64pow10") (d := Rows.laid_internal_strconv_uint64pow10) (by simp)
  rw [kten_same] at r4
  have a4 : Lib.TabIs Tryz.prog W "internal/strconv.uint64pow10" .u64 Lib.pow10Tab := by
    obtain ⟨g', t', cs, fuel, p, hg, hty, hvar, hd⟩ := r4
    obtain rfl := Option.some.inj ((show Tryz.prog.globalNamed "internal/strconv.uint64pow10" = some 2 by kernel_rfl).symm.trans hg)
    obtain rfl := Option.some.inj ((show (Tryz.prog.globals[2]?).map (·.type) = some 208 by kernel_rfl).symm.trans hty)
    unfold Lib.TabIs
    rw [hvar, ← Lib.cells_of_tab Tryz.underlying208 Tryz.underlying39 (by kernel_rfl) (by kernel_rfl) hd]
  have hg : Tryz.prog.globalNamed "colander/clock.errRefused" = some 0 := by kernel_rfl
  have hty : (Tryz.prog.globals[0]?).map (·.type) = some 59 := by kernel_rfl
  obtain ⟨a1, s1, hv1, _, _, _⟩ := laid_sentinel (r := []) hL.tail.tail.tail hg hty Tryz.underlying59 krowE Tryz.underlying214 Tryz.underlying236 rfl rfl Tryz.underlying9 (by kernel_rfl) (by kernel_rfl)
  have hg1 : W.cell? ⟨0, 0, none⟩ = some (.iface 214 (.pointer (some a1))) := by simpa using World.var?_cell hg hv1 0
  exact ⟨a1, a4, hg1, by have h := ksize_of_shape (g := 5) hx4 (of_decide_eq_true (by kernel_rfl)) (by kernel_rfl); omega⟩
end Go.Proofs.YtpjncnoejdaplaaGreatDoor

/- The program's add, kind by kind. -/
import Derived.Test.YtdlighmnlcklnaaGreatDoorMOp
import Derived.Test.YtdlighmnlcklnaaGreatDoorMWalkA
import Derived.Test.YtdlighmnlcklnaaGreatDoorUShorts
import Derived.Test.YtdlighmnlcklnaaGreatDoorSA
namespace Go.Proofs.YtdlighmnlcklnaaGreatDoor
open Go Go.RowKit

set_option maxRecDepth 100000 in
set_option maxHeartbeats 4000000 in
theorem add_null1 (f1 : Nat) (s1 : ByteArray) (a1 a2 a3 a4 : Option Addr) (n1 n2 n3 n4 c1 c2 c3 c4 : Nat) (b : V) (m B0 : Nat) (txt : ByteArray) (w : World) (hB0 : B0 ≤ w.heap.size) (hb : At w B0 (m + 1) b (.slice a3 n3 c3) (.slice a4 n4 c4)) :
    Calls Tryz.prog 50 #[.agg #[.int .i64 0, .float .f64 f1, .string s1, .slice a1 n1 c1, .slice a2 n2 c2], .agg #[.int .i64 b.k, .float .f64 b.f, .string b.s, .slice a3 n3 c3, .slice a4 n4 c4]] w fun e w' => OutP B0 w.heap.size (m + 1) (some b) txt e w' ∧ Below w.heap.size w w' := by
  have hsf := run_store_float Tryz.prog
  have HAT := Lib.hid hb
  clear hb
  go_enter Tryz.func50, Tryz.ntmps50
  go_wp2_with fail
  have hr := R4.new w #[.int .i64 0, .float .f64 f1, .string s1, .slice a1 n1 c1, .slice a2 n2 c2] #[.int .i64 b.k, .float .f64 b.f, .string b.s, .slice a3 n3 c3, .slice a4 n4 c4] #[.int .i64 b.k, .float .f64 b.f, .string b.s, .slice a3 n3 c3, .slice a4 n4 c4] okA
  have hb := four_below w (.cells #[.int .i64 0, .float .f64 f1, .string s1, .slice a1 n1 c1, .slice a2 n2 c2] 27) (.cells #[.int .i64 b.k, .float .f64 b.f, .string b.s, .slice a3 n3 c3, .slice a4 n4 c4] 27) (.cells #[.int .i64 b.k, .float .f64 b.f, .string b.s, .slice a3 n3 c3, .slice a4 n4 c4] 27) (.cells okA 31)
  refine bodyPost_ret_by (results_two_rows rfl _ _ (w.heap.size + 2) (w.heap.size + 3) 27 31 _ okA (0, 0) (0, 0) _ _ rfl rfl hr.r2 hr.r3 Tryz.underlying27 rfl sizeVal Tryz.underlying31 rfl infoErr) rfl ?_
  exact ⟨⟨b, _, _, false, 0, ⟨#[]⟩, rfl, ((AtN.of_at (B1 := w.heap.size + 4) HAT.out).below hB0 hb).later (by omega), Or.inl ⟨rfl, rfl, rfl, rfl⟩⟩, hb⟩
set_option maxRecDepth 100000 in
set_option maxHeartbeats 4000000 in
theorem add_null2 (f2 : Nat) (s2 : ByteArray) (a1 a2 a3 a4 : Option Addr) (n1 n2 n3 n4 c1 c2 c3 c4 : Nat) (a : V) (m B0 : Nat) (txt : ByteArray) (w : World) (hB0 : B0 ≤ w.heap.size) (ha : At w B0 (m + 1) a (.slice a1 n1 c1) (.slice a2 n2 c2)) (hk : a.k ≠ 0) :
    Calls Tryz.prog 50 #[.agg #[.int .i64 a.k, .float .f64 a.f, .string a.s, .slice a1 n1 c1, .slice a2 n2 c2], .agg #[.int .i64 0, .float .f64 f2, .string s2, .slice a3 n3 c3, .slice a4 n4 c4]] w fun e w' => OutP B0 w.heap.size (m + 1) (some a) txt e w' ∧ Below w.heap.size w w' := by
  have hsf := run_store_float Tryz.prog
  have HAT := Lib.hid ha
  have hk0 : (a.k == 0) = false := by simpa using hk
  clear ha hk
  go_enter Tryz.func50, Tryz.ntmps50
  go_wp2_with fail
  have hr := R4.new w #[.int .i64 a.k, .float .f64 a.f, .string a.s, .slice a1 n1 c1, .slice a2 n2 c2] #[.int .i64 0, .float .f64 f2, .string s2, .slice a3 n3 c3, .slice a4 n4 c4] #[.int .i64 a.k, .float .f64 a.f, .string a.s, .slice a1 n1 c1, .slice a2 n2 c2] okA
  have hb := four_below w (.cells #[.int .i64 a.k, .float .f64 a.f, .string a.s, .slice a1 n1 c1, .slice a2 n2 c2] 27) (.cells #[.int .i64 0, .float .f64 f2, .string s2, .slice a3 n3 c3, .slice a4 n4 c4] 27) (.cells #[.int .i64 a.k, .float .f64 a.f, .string a.s, .slice a1 n1 c1, .slice a2 n2 c2] 27) (.cells okA 31)
  refine bodyPost_ret_by (results_two_rows rfl _ _ (w.heap.size + 2) (w.heap.size + 3) 27 31 _ okA (0, 0) (0, 0) _ _ rfl rfl hr.r2 hr.r3 Tryz.underlying27 rfl sizeVal Tryz.underlying31 rfl infoErr) rfl ?_
  exact ⟨⟨a, _, _, false, 0, ⟨#[]⟩, rfl, ((AtN.of_at (B1 := w.heap.size + 4) HAT.out).below hB0 hb).later (by omega), Or.inl ⟨rfl, rfl, rfl, rfl⟩⟩, hb⟩
set_option maxRecDepth 100000 in
set_option maxHeartbeats 4000000 in
theorem add_str (f1 f2 : Nat) (s1 s2 : ByteArray) (a1 a2 a3 a4 : Option Addr) (n1 n2 n3 n4 c1 c2 c3 c4 : Nat) (m B0 : Nat) (w : World) (hB0 : B0 ≤ w.heap.size) (hs : s1.size + s2.size ≤ 1048576) :
    Calls Tryz.prog 50 #[.agg #[.int .i64 4, .float .f64 f1, .string s1, .slice a1 n1 c1, .slice a2 n2 c2], .agg #[.int .i64 4, .float .f64 f2, .string s2, .slice a3 n3 c3, .slice a4 n4 c4]] w fun e w' => OutP B0 w.heap.size (m + 1) (if largeV (m + 1) (strV (s1 ++ s2)) then none else some (strV (s1 ++ s2))) largeT e w' ∧ Below w.heap.size w w' := by
  have hsf := run_store_float Tryz.prog
  have hsz : (s1 ++ s2).size ≤ 1048576 := by rw [ByteArray.size_append]; exact hs
  have hu := fun (W : World) (N : Nat) (hW : B0 ≤ W.heap.size) => unlessLarge_any (strV (s1 ++ s2)) m B0 N nilS nilS W hW (leaf_atP W _ m 4 0 (s1 ++ s2) (by omega) (by omega) hsz)
  obtain ⟨o, ho⟩ : ∃ o, (if largeV (m + 1) (strV (s1 ++ s2)) then none else some (strV (s1 ++ s2))) = o := ⟨_, rfl⟩
  simp only [ho] at hu
  rw [ho]
  unfold cellsV strV leafV nilS at hu
  simp only [V.k, V.f, V.s] at hu
  have HU := Lib.hid hu
  clear hu ho
  go_enter Tryz.func50, Tryz.ntmps50
  go_wp2_with fail
  have hr := R4.new w #[.int .i64 4, .float .f64 f1, .string s1, .slice a1 n1 c1, .slice a2 n2 c2] #[.int .i64 4, .float .f64 f2, .string s2, .slice a3 n3 c3, .slice a4 n4 c4] zeroA okA
  have hb := four_below w (.cells #[.int .i64 4, .float .f64 f1, .string s1, .slice a1 n1 c1, .slice a2 n2 c2] 27) (.cells #[.int .i64 4, .float .f64 f2, .string s2, .slice a3 n3 c3, .slice a4 n4 c4] 27) (.cells zeroA 27) (.cells okA 31)
  have he : ((((w.alloc (.cells #[.int .i64 4, .float .f64 f1, .string s1, .slice a1 n1 c1, .slice a2 n2 c2] 27)).alloc (.cells #[.int .i64 4, .float .f64 f2, .string s2, .slice a3 n3 c3, .slice a4 n4 c4] 27)).alloc (.cells zeroA 27)).alloc (.cells okA 31)) = ((((w.alloc (.cells #[.int .i64 4, .float .f64 f1, .string s1, .slice a1 n1 c1, .slice a2 n2 c2] 27)).alloc (.cells #[.int .i64 4, .float .f64 f2, .string s2, .slice a3 n3 c3, .slice a4 n4 c4] 27)).alloc (.cells #[.int .i64 0, .float .f64 0, .string ⟨#[]⟩, .slice none 0 0, .slice none 0 0] 27)).alloc (.cells #[.bool false, .int .i64 0, .float .f64 0, .string ⟨#[]⟩, .slice none 0 0, .slice none 0 0] 31)) := rfl
  rw [he] at hr hb
  clear he
  generalize ((((w.alloc (.cells #[.int .i64 4, .float .f64 f1, .string s1, .slice a1 n1 c1, .slice a2 n2 c2] 27)).alloc (.cells #[.int .i64 4, .float .f64 f2, .string s2, .slice a3 n3 c3, .slice a4 n4 c4] 27)).alloc (.cells #[.int .i64 0, .float .f64 0, .string ⟨#[]⟩, .slice none 0 0, .slice none 0 0] 27)).alloc (.cells #[.bool false, .int .i64 0, .float .f64 0, .string ⟨#[]⟩, .slice none 0 0, .slice none 0 0] 31)) = W0 at hr hb ⊢
  obtain ⟨x0, x1, x2, x3, x4, _⟩ := row5' hr.r0
  obtain ⟨y0, y1, y2, y3, y4, _⟩ := row5' hr.r1
  have HR := Lib.hid hr
  have HB := Lib.hid hb
  clear hr hb
  refine (both_any 3 4 4 f1 f2 s1 s2 a1 a2 a3 a4 n1 n2 n3 n4 c1 c2 c3 c4 W0).mono ?_
  rintro e w2 ⟨rfl, hb2⟩
  have R2 := Lib.hid (HR.out.below hb2)
  have B2 := Lib.hid (HB.out.trans (hb2.mono HB.out.size))
  clear hb2 x0 x1 x2 x3 x4 y0 y1 y2 y3 y4
  obtain ⟨x0, x1, x2, x3, x4, _⟩ := row5' R2.out.r0
  obtain ⟨y0, y1, y2, y3, y4, _⟩ := row5' R2.out.r1
  go_wp2_with fail
  refine (both_any 4 4 4 f1 f2 s1 s2 a1 a2 a3 a4 n1 n2 n3 n4 c1 c2 c3 c4 w2).mono ?_
  rintro e w3 ⟨rfl, hb3⟩
  have R3 := Lib.hid (R2.out.below hb3)
  have B3 := Lib.hid (B2.out.trans (hb3.mono B2.out.size))
  clear hb3 x0 x1 x2 x3 x4 y0 y1 y2 y3 y4
  obtain ⟨x0, x1, x2, x3, x4, _⟩ := row5' R3.out.r0
  obtain ⟨y0, y1, y2, y3, y4, _⟩ := row5' R3.out.r1
  go_wp2_with fail
  have hzz := B3.out.size
  refine (HU.out w3 w3.heap.size (by omega)).mono ?_
  rintro e w4 ⟨⟨v, lv, kv, bb, k', s', rfl, hatv, hor⟩, hb4⟩
  obtain ⟨p1, p2, p3, p4, p5, p6, rfl, rfl⟩ := AtP.slices hatv
  unfold cellsV
  have HAT := Lib.hid hatv
  have HOR := Lib.hid hor
  clear hatv hor
  have R4 := Lib.hid (R3.out.below hb4)
  have B4 := Lib.hid (B3.out.trans (hb4.mono B3.out.size))
  clear hb4 x0 x1 x2 x3 x4 y0 y1 y2 y3 y4
  obtain ⟨x0, x1, x2, x3, x4, _⟩ := row5' R4.out.r0
  obtain ⟨y0, y1, y2, y3, y4, _⟩ := row5' R4.out.r1
  obtain ⟨⟨u0, u1, u2, u3, u4⟩, ⟨v0, v1, v2, v3, v4, v5⟩, g1, g2⟩ := R4.out.outs
  have HLT := R4.out.lt
  go_wp2_with fail
  obtain ⟨q1, q2, q3⟩ := R4.out.ends B4.out (.int .i64 v.k) (.float .f64 v.f) (.string v.s) (.slice p1 p2 p3) (.slice p4 p5 p6) (.bool bb) (.int .i64 k') (.float .f64 0) (.string s') (.slice none 0 0) (.slice none 0 0)
  refine bodyPost_ret_by (results_two_rows rfl _ _ (w.heap.size + 2) (w.heap.size + 3) 27 31 _ _ (0, 0) (0, 0) _ _ rfl rfl q1 q2 Tryz.underlying27 rfl sizeVal Tryz.underlying31 rfl infoErr) rfl ?_
  try have hl1 := HR.out.lt
  try have hl2 := R2.out.lt
  try have hl3 := R3.out.lt
  try have hl4 := R4.out.lt
  try have hl5 := R5.out.lt
  try have hl6 := R6.out.lt
  try have hlA := RA.out.lt
  exact ⟨⟨v, _, _, bb, k', s', rfl, (AtN.keep HAT.out (ends_size ..) (fun b q => ends_other (by rcases q with q | q <;> omega) (by rcases q with q | q <;> omega) ..)).later (by omega), HOR.out⟩, q3⟩
end Go.Proofs.YtdlighmnlcklnaaGreatDoor
namespace Go.Proofs.YtdlighmnlcklnaaGreatDoor
open Go Go.RowKit

set_option maxRecDepth 100000 in
set_option maxHeartbeats 4000000 in
theorem add_obj (f1 f2 : Nat) (s1 s2 : ByteArray) (a1 a2 a3 a4 : Option Addr) (n1 n2 n3 n4 c1 c2 c3 c4 : Nat) (m B0 : Nat) (r : V) (w : World) (hB0 : B0 ≤ w.heap.size)
    (hp : ∀ W, Below w.heap.size w W → Calls Tryz.prog 86 #[.agg #[.int .i64 6, .float .f64 f1, .string s1, .slice a1 n1 c1, .slice a2 n2 c2], .agg #[.int .i64 6, .float .f64 f2, .string s2, .slice a3 n3 c3, .slice a4 n4 c4], .func (.func 87) #[] #[]] W fun e w' => ∃ lv kv, e = .returned (.agg (cellsV r lv kv)) ∧ AtN w' B0 W.heap.size (m + 1) r lv kv ∧ Below W.heap.size W w') :
    Calls Tryz.prog 50 #[.agg #[.int .i64 6, .float .f64 f1, .string s1, .slice a1 n1 c1, .slice a2 n2 c2], .agg #[.int .i64 6, .float .f64 f2, .string s2, .slice a3 n3 c3, .slice a4 n4 c4]] w fun e w' => OutP B0 w.heap.size (m + 1) (if largeV (m + 1) r then none else some r) largeT e w' ∧ Below w.heap.size w w' := by
  have hsf := run_store_float Tryz.prog
  have HP := Lib.hid hp
  clear hp
  obtain ⟨o, ho⟩ : ∃ o, (if largeV (m + 1) r then none else some r) = o := ⟨_, rfl⟩
  have hu := fun (W : World) (N : Nat) lv kv (hW : B0 ≤ W.heap.size) (h : AtN W B0 N (m + 1) r lv kv) => unlessLarge_any r m B0 N lv kv W hW h
  simp only [ho] at hu
  rw [ho]
  have HU := Lib.hid hu
  clear hu ho
  go_enter Tryz.func50, Tryz.ntmps50
  go_wp2_with fail
  have hr := R4.new w #[.int .i64 6, .float .f64 f1, .string s1, .slice a1 n1 c1, .slice a2 n2 c2] #[.int .i64 6, .float .f64 f2, .string s2, .slice a3 n3 c3, .slice a4 n4 c4] zeroA okA
  have hb := four_below w (.cells #[.int .i64 6, .float .f64 f1, .string s1, .slice a1 n1 c1, .slice a2 n2 c2] 27) (.cells #[.int .i64 6, .float .f64 f2, .string s2, .slice a3 n3 c3, .slice a4 n4 c4] 27) (.cells zeroA 27) (.cells okA 31)
  have he : ((((w.alloc (.cells #[.int .i64 6, .float .f64 f1, .string s1, .slice a1 n1 c1, .slice a2 n2 c2] 27)).alloc (.cells #[.int .i64 6, .float .f64 f2, .string s2, .slice a3 n3 c3, .slice a4 n4 c4] 27)).alloc (.cells zeroA 27)).alloc (.cells okA 31)) = ((((w.alloc (.cells #[.int .i64 6, .float .f64 f1, .string s1, .slice a1 n1 c1, .slice a2 n2 c2] 27)).alloc (.cells #[.int .i64 6, .float .f64 f2, .string s2, .slice a3 n3 c3, .slice a4 n4 c4] 27)).alloc (.cells #[.int .i64 0, .float .f64 0, .string ⟨#[]⟩, .slice none 0 0, .slice none 0 0] 27)).alloc (.cells #[.bool false, .int .i64 0, .float .f64 0, .string ⟨#[]⟩, .slice none 0 0, .slice none 0 0] 31)) := rfl
  rw [he] at hr hb
  clear he
  generalize ((((w.alloc (.cells #[.int .i64 6, .float .f64 f1, .string s1, .slice a1 n1 c1, .slice a2 n2 c2] 27)).alloc (.cells #[.int .i64 6, .float .f64 f2, .string s2, .slice a3 n3 c3, .slice a4 n4 c4] 27)).alloc (.cells #[.int .i64 0, .float .f64 0, .string ⟨#[]⟩, .slice none 0 0, .slice none 0 0] 27)).alloc (.cells #[.bool false, .int .i64 0, .float .f64 0, .string ⟨#[]⟩, .slice none 0 0, .slice none 0 0] 31)) = W0 at hr hb ⊢
  obtain ⟨x0, x1, x2, x3, x4, _⟩ := row5' hr.r0
  obtain ⟨y0, y1, y2, y3, y4, _⟩ := row5' hr.r1
  have HR := Lib.hid hr
  have HB := Lib.hid hb
  clear hr hb
  refine (both_any 3 6 6 f1 f2 s1 s2 a1 a2 a3 a4 n1 n2 n3 n4 c1 c2 c3 c4 W0).mono ?_
  rintro e w2 ⟨rfl, hb2⟩
  have R2 := Lib.hid (HR.out.below hb2)
  have B2 := Lib.hid (HB.out.trans (hb2.mono HB.out.size))
  clear hb2 x0 x1 x2 x3 x4 y0 y1 y2 y3 y4
  obtain ⟨x0, x1, x2, x3, x4, _⟩ := row5' R2.out.r0
  obtain ⟨y0, y1, y2, y3, y4, _⟩ := row5' R2.out.r1
  go_wp2_with fail
  refine (both_any 4 6 6 f1 f2 s1 s2 a1 a2 a3 a4 n1 n2 n3 n4 c1 c2 c3 c4 w2).mono ?_
  rintro e w3 ⟨rfl, hb3⟩
  have R3 := Lib.hid (R2.out.below hb3)
  have B3 := Lib.hid (B2.out.trans (hb3.mono B2.out.size))
  clear hb3 x0 x1 x2 x3 x4 y0 y1 y2 y3 y4
  obtain ⟨x0, x1, x2, x3, x4, _⟩ := row5' R3.out.r0
  obtain ⟨y0, y1, y2, y3, y4, _⟩ := row5' R3.out.r1
  go_wp2_with fail
  refine (both_any 5 6 6 f1 f2 s1 s2 a1 a2 a3 a4 n1 n2 n3 n4 c1 c2 c3 c4 w3).mono ?_
  rintro e w4 ⟨rfl, hb4⟩
  have R4 := Lib.hid (R3.out.below hb4)
  have B4 := Lib.hid (B3.out.trans (hb4.mono B3.out.size))
  clear hb4 x0 x1 x2 x3 x4 y0 y1 y2 y3 y4
  obtain ⟨x0, x1, x2, x3, x4, _⟩ := row5' R4.out.r0
  obtain ⟨y0, y1, y2, y3, y4, _⟩ := row5' R4.out.r1
  go_wp2_with fail
  refine (both_any 6 6 6 f1 f2 s1 s2 a1 a2 a3 a4 n1 n2 n3 n4 c1 c2 c3 c4 w4).mono ?_
  rintro e w5 ⟨rfl, hb5⟩
  have R5 := Lib.hid (R4.out.below hb5)
  have B5 := Lib.hid (B4.out.trans (hb5.mono B4.out.size))
  clear hb5 x0 x1 x2 x3 x4 y0 y1 y2 y3 y4
  obtain ⟨x0, x1, x2, x3, x4, _⟩ := row5' R5.out.r0
  obtain ⟨y0, y1, y2, y3, y4, _⟩ := row5' R5.out.r1
  go_wp2_with fail
  have hzz := B5.out.size
  refine (HP.out w5 B5.out).mono ?_
  rintro e w6 ⟨lv, kv, rfl, hatm, hb6⟩
  have hq6 := hb6.size
  have hcu := HU.out w6 w5.heap.size lv kv (by omega) hatm
  obtain ⟨p1, p2, p3, p4, p5, p6, rfl, rfl⟩ := AtP.slices hatm
  unfold cellsV at hcu ⊢
  have HCU := Lib.hid hcu
  clear hcu hatm
  have R6 := Lib.hid (R5.out.below hb6)
  have B6 := Lib.hid (B5.out.trans (hb6.mono B5.out.size))
  clear hb6 x0 x1 x2 x3 x4 y0 y1 y2 y3 y4
  obtain ⟨x0, x1, x2, x3, x4, _⟩ := row5' R6.out.r0
  obtain ⟨y0, y1, y2, y3, y4, _⟩ := row5' R6.out.r1
  go_wp2_with fail
  refine HCU.out.mono ?_
  rintro e w7 ⟨⟨v, lv, kv, bb, k', s', rfl, hatv, hor⟩, hb7⟩
  obtain ⟨p1, p2, p3, p4, p5, p6, rfl, rfl⟩ := AtP.slices hatv
  unfold cellsV
  have HAT := Lib.hid hatv
  have HOR := Lib.hid hor
  clear hatv hor
  have R7 := Lib.hid (R6.out.below hb7)
  have B7 := Lib.hid (B6.out.trans (hb7.mono B6.out.size))
  clear hb7 x0 x1 x2 x3 x4 y0 y1 y2 y3 y4
  obtain ⟨x0, x1, x2, x3, x4, _⟩ := row5' R7.out.r0
  obtain ⟨y0, y1, y2, y3, y4, _⟩ := row5' R7.out.r1
  obtain ⟨⟨u0, u1, u2, u3, u4⟩, ⟨v0, v1, v2, v3, v4, v5⟩, g1, g2⟩ := R7.out.outs
  have HLT := R7.out.lt
  go_wp2_with fail
  obtain ⟨q1, q2, q3⟩ := R7.out.ends B7.out (.int .i64 v.k) (.float .f64 v.f) (.string v.s) (.slice p1 p2 p3) (.slice p4 p5 p6) (.bool bb) (.int .i64 k') (.float .f64 0) (.string s') (.slice none 0 0) (.slice none 0 0)
  refine bodyPost_ret_by (results_two_rows rfl _ _ (w.heap.size + 2) (w.heap.size + 3) 27 31 _ _ (0, 0) (0, 0) _ _ rfl rfl q1 q2 Tryz.underlying27 rfl sizeVal Tryz.underlying31 rfl infoErr) rfl ?_
  try have hl1 := HR.out.lt
  try have hl2 := R2.out.lt
  try have hl3 := R3.out.lt
  try have hl4 := R4.out.lt
  try have hl5 := R5.out.lt
  try have hl6 := R6.out.lt
  try have hlA := RA.out.lt
  exact ⟨⟨v, _, _, bb, k', s', rfl, (AtN.keep HAT.out (ends_size ..) (fun b q => ends_other (by rcases q with q | q <;> omega) (by rcases q with q | q <;> omega) ..)).later (by omega), HOR.out⟩, q3⟩
end Go.Proofs.YtdlighmnlcklnaaGreatDoor
namespace Go.Proofs.YtdlighmnlcklnaaGreatDoor
open Go Go.RowKit

/-- Two arrays' rows, one behind the other. -/
def catV (a b : V) : V := .mk 5 0 ⟨#[]⟩ (a.l ++ b.l) []
theorem row_cellsV {w : World} {B m : Nat} {v : V} {A : Option Addr} {n c : Nat} {kv : Value} (h : At w B (m + 1) v (.slice A n c) kv) : ∃ qs : List (Value × Value), qs.length = v.l.length ∧ n = v.l.length ∧ (A = none → v.l = [] ∧ c = 0) ∧ (∀ ad, A = some ad → ∀ j u, (flat5 v.l qs)[j]? = some u → w.cell? (ad.add j) = some u) ∧ (∀ u ∈ flat5 v.l qs, u.oneCell' = true) ∧ ∀ i (h1 : i < v.l.length) (h2 : i < qs.length), At w B m v.l[i] qs[i].1 qs[i].2 := by
  obtain ⟨_, _, hcp, a, c', b, o, e, hab, hi⟩ := h.opened
  cases e
  obtain ⟨qs, hq, hqq⟩ := pairs_of (P := fun i x y => ∃ h : i < v.l.length, FiveAt w b (o + i * 5) v.l[i] x y ∧ At w B m v.l[i] x y) (fun i h => by obtain ⟨x, y, q⟩ := hi i h; exact ⟨x, y, h, q⟩)
  refine ⟨qs, hq, rfl, fun hA => ⟨?_, (hcp _ _ _ rfl).2.2 hA⟩, fun ad hA j u hu => ?_, flat5_one v.l qs (fun i h => by obtain ⟨x1, x2, x3, x4, x5, x6, g1, g2⟩ := At.slices (hqq i h).2.2; exact ⟨x1, x2, x3, x4, x5, x6, g1, g2⟩), fun i h1 h2 => (hqq i h2).2.2⟩
  · rcases Nat.eq_zero_or_pos v.l.length with q | q
    · exact List.eq_nil_of_length_eq_zero q
    · have := (hab q).1
      rw [hA] at this
      cases this
  · have h0 : 0 < v.l.length := by
      have := (List.getElem?_eq_some_iff.1 hu).1
      rw [flat5_len _ _ hq.symm] at this
      omega
    have e1 := (hab h0).1
    rw [hA] at e1
    cases e1
    have := row_cells hq (fun i h1 h2 => (hqq i h2).2.1) j u hu
    have e3 : (⟨b, o, none⟩ : Addr).add j = ⟨b, o + j, none⟩ := by
      unfold Addr.add
      by_cases hj0 : j = 0
      · subst hj0; simp
      · simp [hj0]
    rw [e3]
    exact this
theorem concat_at (a b : V) (m B0 : Nat) (a1 a3 : Option Addr) (n1 c1 n3 c3 : Nat) (ka kb : Value) (w : World) (hB0 : B0 ≤ w.heap.size) (ha : At w B0 (m + 1) a (.slice a1 n1 c1) ka) (hb : At w B0 (m + 1) b (.slice a3 n3 c3) kb) (hS : Small (catV a b)) (P : Nat) (hP : w.heap[P]? = some (.cells #[.slice a1 n1 c1, .slice a3 n3 c3] 24 (0, 0))) :
    Calls Tryz.prog 85 #[.slice (some ⟨P, 0, none⟩) 2 2] w fun e w' => ∃ lv, e = .returned lv ∧ AtN w' B0 w.heap.size (m + 1) (catV a b) lv nilS ∧ Below w.heap.size w w' := by
  obtain ⟨q1, hq1, rfl, hn1, hc1, ho1, he1⟩ := row_cellsV ha
  obtain ⟨q2, hq2, rfl, hn2, hc2, ho2, he2⟩ := row_cellsV hb
  have hlen : a.l.length + b.l.length ≤ 1048576 := by have := hS.2.2.2.2.1; simpa [catV, V.l] using this
  refine (ConcatV_two a.l b.l q1 q2 hq1 hq2 ho1 ho2 (by omega) a1 a3 c1 c3 P w hP hn1 hn2 hc1 hc2).mono ?_
  rintro e w' ⟨v, rfl, hown, hbel⟩
  refine ⟨v, rfl, atP_of_own (B := w.heap.size) (qs := q1 ++ q2) (fun b h1 h2 => Or.inr ⟨h1, h2⟩) hS (by simpa [catV, V.l] using hown) (by simp [catV, V.l, hq1, hq2]) ⟨rfl, Or.inl ⟨rfl, rfl⟩⟩ (fun i h1 h2 => ?_), hbel⟩
  have hk : ∀ p : Addr, p.block < B0 → w'.cell? p = w.cell? p := fun p hp => hbel.cell (Nat.lt_of_lt_of_le hp hB0)
  refine AtP.more (p := fun b => b < B0) (fun b q => Or.inl q) _ _ _ _ (At.keep hk _ _ _ _ ?_)
  by_cases hi : i < a.l.length
  · have e1 : (catV a b).l[i] = a.l[i] := List.getElem_append_left hi
    rw [e1, List.getElem_append_left (by omega)]
    exact he1 i hi (by omega)
  · have h3 : i < a.l.length + b.l.length := by simpa [catV, V.l] using h1
    have e1 : (catV a b).l[i] = b.l[i - a.l.length] := List.getElem_append_right (by omega)
    rw [e1, List.getElem_append_right (by omega)]
    simp only [hq1]
    exact he2 _ (by omega) (by omega)
set_option maxRecDepth 100000 in
set_option maxHeartbeats 4000000 in
theorem add_arr (f1 f2 : Nat) (s1 s2 : ByteArray) (a1 a2 a3 a4 : Option Addr) (n1 n2 n3 n4 c1 c2 c3 c4 : Nat) (m B0 : Nat) (r : V) (hr : r.k = 5 ∧ r.f = 0 ∧ r.s = ⟨#[]⟩) (w : World) (hB0 : B0 ≤ w.heap.size)
    (hp : ∀ W, Below w.heap.size w W → ∀ P, W.heap[P]? = some (.cells #[.slice a1 n1 c1, .slice a3 n3 c3] 24 (0, 0)) → Calls Tryz.prog 85 #[.slice (some ⟨P, 0, none⟩) 2 2] W fun e w' => ∃ lv, e = .returned lv ∧ AtN w' B0 W.heap.size (m + 1) r lv nilS ∧ Below W.heap.size W w') :
    Calls Tryz.prog 50 #[.agg #[.int .i64 5, .float .f64 f1, .string s1, .slice a1 n1 c1, .slice a2 n2 c2], .agg #[.int .i64 5, .float .f64 f2, .string s2, .slice a3 n3 c3, .slice a4 n4 c4]] w fun e w' => OutP B0 w.heap.size (m + 1) (if largeV (m + 1) r then none else some r) largeT e w' ∧ Below w.heap.size w w' := by
  have hsf := run_store_float Tryz.prog
  have HP := Lib.hid hp
  clear hp
  obtain ⟨o, ho⟩ : ∃ o, (if largeV (m + 1) r then none else some r) = o := ⟨_, rfl⟩
  have hu := fun (W : World) (N : Nat) lv kv (hW : B0 ≤ W.heap.size) (h : AtN W B0 N (m + 1) r lv kv) => unlessLarge_any r m B0 N lv kv W hW h
  simp only [ho] at hu
  rw [ho]
  unfold cellsV at hu
  rw [hr.1, hr.2.1, hr.2.2] at hu
  have HU := Lib.hid hu
  clear hu ho hr
  go_enter Tryz.func50, Tryz.ntmps50
  go_wp2_with fail
  have hr := R4.new w #[.int .i64 5, .float .f64 f1, .string s1, .slice a1 n1 c1, .slice a2 n2 c2] #[.int .i64 5, .float .f64 f2, .string s2, .slice a3 n3 c3, .slice a4 n4 c4] zeroA okA
  have hb := four_below w (.cells #[.int .i64 5, .float .f64 f1, .string s1, .slice a1 n1 c1, .slice a2 n2 c2] 27) (.cells #[.int .i64 5, .float .f64 f2, .string s2, .slice a3 n3 c3, .slice a4 n4 c4] 27) (.cells zeroA 27) (.cells okA 31)
  have he : ((((w.alloc (.cells #[.int .i64 5, .float .f64 f1, .string s1, .slice a1 n1 c1, .slice a2 n2 c2] 27)).alloc (.cells #[.int .i64 5, .float .f64 f2, .string s2, .slice a3 n3 c3, .slice a4 n4 c4] 27)).alloc (.cells zeroA 27)).alloc (.cells okA 31)) = ((((w.alloc (.cells #[.int .i64 5, .float .f64 f1, .string s1, .slice a1 n1 c1, .slice a2 n2 c2] 27)).alloc (.cells #[.int .i64 5, .float .f64 f2, .string s2, .slice a3 n3 c3, .slice a4 n4 c4] 27)).alloc (.cells #[.int .i64 0, .float .f64 0, .string ⟨#[]⟩, .slice none 0 0, .slice none 0 0] 27)).alloc (.cells #[.bool false, .int .i64 0, .float .f64 0, .string ⟨#[]⟩, .slice none 0 0, .slice none 0 0] 31)) := rfl
  rw [he] at hr hb
  clear he
  generalize ((((w.alloc (.cells #[.int .i64 5, .float .f64 f1, .string s1, .slice a1 n1 c1, .slice a2 n2 c2] 27)).alloc (.cells #[.int .i64 5, .float .f64 f2, .string s2, .slice a3 n3 c3, .slice a4 n4 c4] 27)).alloc (.cells #[.int .i64 0, .float .f64 0, .string ⟨#[]⟩, .slice none 0 0, .slice none 0 0] 27)).alloc (.cells #[.bool false, .int .i64 0, .float .f64 0, .string ⟨#[]⟩, .slice none 0 0, .slice none 0 0] 31)) = W0 at hr hb ⊢
  obtain ⟨x0, x1, x2, x3, x4, _⟩ := row5' hr.r0
  obtain ⟨y0, y1, y2, y3, y4, _⟩ := row5' hr.r1
  have HR := Lib.hid hr
  have HB := Lib.hid hb
  clear hr hb
  refine (both_any 3 5 5 f1 f2 s1 s2 a1 a2 a3 a4 n1 n2 n3 n4 c1 c2 c3 c4 W0).mono ?_
  rintro e w2 ⟨rfl, hb2⟩
  have R2 := Lib.hid (HR.out.below hb2)
  have B2 := Lib.hid (HB.out.trans (hb2.mono HB.out.size))
  clear hb2 x0 x1 x2 x3 x4 y0 y1 y2 y3 y4
  obtain ⟨x0, x1, x2, x3, x4, _⟩ := row5' R2.out.r0
  obtain ⟨y0, y1, y2, y3, y4, _⟩ := row5' R2.out.r1
  go_wp2_with fail
  refine (both_any 4 5 5 f1 f2 s1 s2 a1 a2 a3 a4 n1 n2 n3 n4 c1 c2 c3 c4 w2).mono ?_
  rintro e w3 ⟨rfl, hb3⟩
  have R3 := Lib.hid (R2.out.below hb3)
  have B3 := Lib.hid (B2.out.trans (hb3.mono B2.out.size))
  clear hb3 x0 x1 x2 x3 x4 y0 y1 y2 y3 y4
  obtain ⟨x0, x1, x2, x3, x4, _⟩ := row5' R3.out.r0
  obtain ⟨y0, y1, y2, y3, y4, _⟩ := row5' R3.out.r1
  go_wp2_with fail
  refine (both_any 5 5 5 f1 f2 s1 s2 a1 a2 a3 a4 n1 n2 n3 n4 c1 c2 c3 c4 w3).mono ?_
  rintro e w4 ⟨rfl, hb4⟩
  have R4 := Lib.hid (R3.out.below hb4)
  have B4 := Lib.hid (B3.out.trans (hb4.mono B3.out.size))
  clear hb4 x0 x1 x2 x3 x4 y0 y1 y2 y3 y4
  obtain ⟨x0, x1, x2, x3, x4, _⟩ := row5' R4.out.r0
  obtain ⟨y0, y1, y2, y3, y4, _⟩ := row5' R4.out.r1
  go_wp2_with fail
  have hzz := B4.out.size
  have hbA := (Below.refl w4.heap.size w4).alloc (Nat.le_refl _) (.cells #[.slice a1 n1 c1, .slice a3 n3 c3] 24)
  have hnew := heap_alloc_new w4 (.cells #[.slice a1 n1 c1, .slice a3 n3 c3] 24)
  have hcc := HP.out _ (B4.out.trans (hbA.mono hzz)) _ hnew
  have hzA : (w4.alloc (.cells #[.slice a1 n1 c1, .slice a3 n3 c3] 24)).heap.size = w4.heap.size + 1 := World.size_alloc ..
  have RA := Lib.hid (R4.out.below hbA)
  have BA := Lib.hid (B4.out.trans (hbA.mono hzz))
  have HCC := Lib.hid hcc
  clear hcc hnew
  refine HCC.out.mono ?_
  rintro e w5 ⟨lv, rfl, hatm, hb5⟩
  have hq5 := hb5.size
  have hcu := HU.out w5 _ lv _ (by omega) hatm
  obtain ⟨p1, p2, p3, p4, p5, p6, rfl, e2⟩ := AtP.slices hatm
  unfold nilS at hcu
  have HCU := Lib.hid hcu
  clear hcu hatm e2 p4 p5 p6
  have R5 := Lib.hid (RA.out.below hb5)
  have B5 := Lib.hid (BA.out.trans (hb5.mono BA.out.size))
  clear hb5 x0 x1 x2 x3 x4 y0 y1 y2 y3 y4
  obtain ⟨x0, x1, x2, x3, x4, _⟩ := row5' R5.out.r0
  obtain ⟨y0, y1, y2, y3, y4, _⟩ := row5' R5.out.r1
  go_wp2_with fail
  refine HCU.out.mono ?_
  rintro e w6 ⟨⟨v, lv, kv, bb, k', s', rfl, hatv, hor⟩, hb6⟩
  obtain ⟨p1, p2, p3, p4, p5, p6, rfl, rfl⟩ := AtP.slices hatv
  unfold cellsV
  have HAT := Lib.hid hatv
  have HOR := Lib.hid hor
  clear hatv hor
  have R6 := Lib.hid (R5.out.below hb6)
  have B6 := Lib.hid (B5.out.trans (hb6.mono B5.out.size))
  clear hb6 x0 x1 x2 x3 x4 y0 y1 y2 y3 y4
  obtain ⟨x0, x1, x2, x3, x4, _⟩ := row5' R6.out.r0
  obtain ⟨y0, y1, y2, y3, y4, _⟩ := row5' R6.out.r1
  obtain ⟨⟨u0, u1, u2, u3, u4⟩, ⟨v0, v1, v2, v3, v4, v5⟩, g1, g2⟩ := R6.out.outs
  have HLT := R6.out.lt
  go_wp2_with fail
  obtain ⟨q1, q2, q3⟩ := R6.out.ends B6.out (.int .i64 v.k) (.float .f64 v.f) (.string v.s) (.slice p1 p2 p3) (.slice p4 p5 p6) (.bool bb) (.int .i64 k') (.float .f64 0) (.string s') (.slice none 0 0) (.slice none 0 0)
  refine bodyPost_ret_by (results_two_rows rfl _ _ (w.heap.size + 2) (w.heap.size + 3) 27 31 _ _ (0, 0) (0, 0) _ _ rfl rfl q1 q2 Tryz.underlying27 rfl sizeVal Tryz.underlying31 rfl infoErr) rfl ?_
  try have hl1 := HR.out.lt
  try have hl2 := R2.out.lt
  try have hl3 := R3.out.lt
  try have hl4 := R4.out.lt
  try have hl5 := R5.out.lt
  try have hl6 := R6.out.lt
  try have hlA := RA.out.lt
  exact ⟨⟨v, _, _, bb, k', s', rfl, (AtN.keep HAT.out (ends_size ..) (fun b q => ends_other (by rcases q with q | q <;> omega) (by rcases q with q | q <;> omega) ..)).later (by omega), HOR.out⟩, q3⟩
end Go.Proofs.YtdlighmnlcklnaaGreatDoor
namespace Go.Proofs.YtdlighmnlcklnaaGreatDoor
open Go Go.RowKit

set_option maxRecDepth 100000 in
set_option maxHeartbeats 4000000 in
theorem operate_plus (k1 k2 : Int) (f1 f2 : Nat) (s1 s2 : ByteArray) (a1 a2 a3 a4 : Option Addr) (n1 n2 n3 n4 c1 c2 c3 c4 : Nat) (m B0 : Nat) (o : Option V) (txt : ByteArray) (w : World) (_hB0 : B0 ≤ w.heap.size)
    (hc : ∀ W, Below w.heap.size w W → Calls Tryz.prog 50 #[.agg #[.int .i64 k1, .float .f64 f1, .string s1, .slice a1 n1 c1, .slice a2 n2 c2], .agg #[.int .i64 k2, .float .f64 f2, .string s2, .slice a3 n3 c3, .slice a4 n4 c4]] W fun e w' => OutP B0 W.heap.size (m + 1) o txt e w' ∧ Below W.heap.size W w') :
    Calls Tryz.prog 25 #[.string ⟨#[43]⟩, .agg #[.int .i64 k1, .float .f64 f1, .string s1, .slice a1 n1 c1, .slice a2 n2 c2], .agg #[.int .i64 k2, .float .f64 f2, .string s2, .slice a3 n3 c3, .slice a4 n4 c4]] w fun e w' => OutP B0 w.heap.size (m + 1) o txt e w' ∧ Below w.heap.size w w' := by
  have hsf := run_store_float Tryz.prog
  have HC := Lib.hid hc
  have n43 : ((⟨#[43]⟩ : ByteArray).toList == (⟨#[43]⟩ : ByteArray).toList) = true := by rw [Lib.toList_data]; rfl
  clear hc
  go_enter Tryz.func25, Tryz.ntmps25
  go_wp2_with fail
  have hr := R4.new w #[.int .i64 k1, .float .f64 f1, .string s1, .slice a1 n1 c1, .slice a2 n2 c2] #[.int .i64 k2, .float .f64 f2, .string s2, .slice a3 n3 c3, .slice a4 n4 c4] zeroA okA
  have hb := four_below w (.cells #[.int .i64 k1, .float .f64 f1, .string s1, .slice a1 n1 c1, .slice a2 n2 c2] 27) (.cells #[.int .i64 k2, .float .f64 f2, .string s2, .slice a3 n3 c3, .slice a4 n4 c4] 27) (.cells zeroA 27) (.cells okA 31)
  have he : ((((w.alloc (.cells #[.int .i64 k1, .float .f64 f1, .string s1, .slice a1 n1 c1, .slice a2 n2 c2] 27)).alloc (.cells #[.int .i64 k2, .float .f64 f2, .string s2, .slice a3 n3 c3, .slice a4 n4 c4] 27)).alloc (.cells zeroA 27)).alloc (.cells okA 31)) = ((((w.alloc (.cells #[.int .i64 k1, .float .f64 f1, .string s1, .slice a1 n1 c1, .slice a2 n2 c2] 27)).alloc (.cells #[.int .i64 k2, .float .f64 f2, .string s2, .slice a3 n3 c3, .slice a4 n4 c4] 27)).alloc (.cells #[.int .i64 0, .float .f64 0, .string ⟨#[]⟩, .slice none 0 0, .slice none 0 0] 27)).alloc (.cells #[.bool false, .int .i64 0, .float .f64 0, .string ⟨#[]⟩, .slice none 0 0, .slice none 0 0] 31)) := rfl
  rw [he] at hr hb
  clear he
  generalize ((((w.alloc (.cells #[.int .i64 k1, .float .f64 f1, .string s1, .slice a1 n1 c1, .slice a2 n2 c2] 27)).alloc (.cells #[.int .i64 k2, .float .f64 f2, .string s2, .slice a3 n3 c3, .slice a4 n4 c4] 27)).alloc (.cells #[.int .i64 0, .float .f64 0, .string ⟨#[]⟩, .slice none 0 0, .slice none 0 0] 27)).alloc (.cells #[.bool false, .int .i64 0, .float .f64 0, .string ⟨#[]⟩, .slice none 0 0, .slice none 0 0] 31)) = W0 at hr hb ⊢
  obtain ⟨x0, x1, x2, x3, x4, _⟩ := row5' hr.r0
  obtain ⟨y0, y1, y2, y3, y4, _⟩ := row5' hr.r1
  have HR := Lib.hid hr
  have HB := Lib.hid hb
  clear hr hb
  refine (HC.out _ HB.out).mono ?_
  rintro e w2 ⟨⟨v, lv, kv, bb, k', s', rfl, hatv, hor⟩, hb2⟩
  obtain ⟨p1, p2, p3, p4, p5, p6, rfl, rfl⟩ := AtP.slices hatv
  unfold cellsV
  have HAT := Lib.hid hatv
  have HOR := Lib.hid hor
  clear hatv hor
  have R2 := Lib.hid (HR.out.below hb2)
  have B2 := Lib.hid (HB.out.trans (hb2.mono HB.out.size))
  clear hb2 x0 x1 x2 x3 x4 y0 y1 y2 y3 y4
  obtain ⟨x0, x1, x2, x3, x4, _⟩ := row5' R2.out.r0
  obtain ⟨y0, y1, y2, y3, y4, _⟩ := row5' R2.out.r1
  obtain ⟨⟨u0, u1, u2, u3, u4⟩, ⟨v0, v1, v2, v3, v4, v5⟩, g1, g2⟩ := R2.out.outs
  have HLT := R2.out.lt
  go_wp2_with fail
  obtain ⟨q1, q2, q3⟩ := R2.out.ends B2.out (.int .i64 v.k) (.float .f64 v.f) (.string v.s) (.slice p1 p2 p3) (.slice p4 p5 p6) (.bool bb) (.int .i64 k') (.float .f64 0) (.string s') (.slice none 0 0) (.slice none 0 0)
  refine bodyPost_ret_by (results_two_rows rfl _ _ (w.heap.size + 2) (w.heap.size + 3) 27 31 _ _ (0, 0) (0, 0) _ _ rfl rfl q1 q2 Tryz.underlying27 rfl sizeVal Tryz.underlying31 rfl infoErr) rfl ?_
  try have hl1 := HR.out.lt
  try have hl2 := R2.out.lt
  try have hl3 := R3.out.lt
  try have hl4 := R4.out.lt
  try have hl5 := R5.out.lt
  try have hl6 := R6.out.lt
  try have hlA := RA.out.lt
  exact ⟨⟨v, _, _, bb, k', s', rfl, (AtN.keep HAT.out (ends_size ..) (fun b q => ends_other (by rcases q with q | q <;> omega) (by rcases q with q | q <;> omega) ..)).later (by omega), HOR.out⟩, q3⟩
end Go.Proofs.YtdlighmnlcklnaaGreatDoor

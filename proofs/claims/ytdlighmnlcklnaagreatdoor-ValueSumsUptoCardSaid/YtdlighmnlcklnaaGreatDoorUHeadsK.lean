/- The heads of layer 3: Right, and what is put and got. -/
import Derived.Test.YtdlighmnlcklnaaGreatDoorUPut
import Derived.Test.YtdlighmnlcklnaaGreatDoorURight
import Derived.Test.YtdlighmnlcklnaaGreatDoorULarge
namespace Go.Proofs.YtdlighmnlcklnaaGreatDoor
open Go Go.RowKit

set_option maxHeartbeats 1000000 in
theorem Right_any3 (m : Nat) (v : V) (lv kv : Value) (w : World) (h : At w w.heap.size m v lv kv) :
    Calls Tryz.prog 20 #[.agg (cellsV v lv kv)] w fun e w' => e = .returned (.bool (rightV 10000 v)) ∧ Below w.heap.size w w' := by
  have hsf := run_store_float Tryz.prog
  obtain ⟨i0, hi0, hz0, hz1, hz2⟩ := info_parts infoVal
  have hr := fun o => right_any3 m v lv kv 10000 (w.alloc o) (Nat.le_refl _) (At.more (by simp) _ _ _ _ (h.below ((Below.refl w.heap.size w).alloc (Nat.le_refl _) o)))
  obtain ⟨a1, n1, k1, a2, n2, k2, rfl, rfl⟩ := h.slices
  unfold cellsV at hr ⊢
  have HR := Lib.hid hr
  clear hr h
  go_enter Tryz.func20, Tryz.ntmps20
  go_wp2_with fail
  refine (HR.out _).mono ?_
  rintro e w1 ⟨rfl, hb1⟩
  go_wp2_with fail
  go_ret
  exact ⟨rfl, ((Below.refl w.heap.size w).alloc (Nat.le_refl _) _).trans (hb1.mono (by simp))⟩
/-- {"a": 1, "b": "x"} -/
def putR : V := .mk 6 0 ⟨#[]⟩ [numV 4607182418800017408, strV ⟨#[120]⟩] [⟨#[97]⟩, ⟨#[98]⟩]
theorem clean_b : cleanS ⟨#[98]⟩ = ⟨#[98]⟩ := by kernel_rfl
theorem idx_ab : Lib.idxOfS [⟨#[97]⟩] ⟨#[98]⟩ = -1 := by kernel_rfl
theorem idx_bb : Lib.idxOfS [⟨#[97]⟩, ⟨#[98]⟩] ⟨#[98]⟩ = 1 := by kernel_rfl
theorem put_is : putV (objV ⟨#[97]⟩ 4607182418800017408) ⟨#[98]⟩ (strV ⟨#[120]⟩) = putR := by
  unfold putV
  show (if Lib.idxOfS [⟨#[97]⟩] ⟨#[98]⟩ < 0 then _ else _) = _
  rw [idx_ab, if_pos (by omega)]
  rfl
theorem small_put : Small putR := by
  refine ⟨by show (-9223372036854775808 : Int) ≤ 6; omega, by show (6 : Int) ≤ _; omega, by show 0 < _; omega, by show (0 : Nat) ≤ _; omega, by show 2 ≤ _; omega, by show 2 ≤ _; omega, by show 2 ≤ _; omega⟩
theorem head_put (lv kv : Value) (w : World) (h : At w w.heap.size 2 (objV ⟨#[97]⟩ 4607182418800017408) lv kv) :
    Calls Tryz.prog 16 #[.agg (cellsV (objV ⟨#[97]⟩ 4607182418800017408) lv kv), .string ⟨#[98]⟩, .agg #[.int .i64 4, .float .f64 0, .string ⟨#[120]⟩, .slice none 0 0, .slice none 0 0]] w fun e w' => ∃ lv' kv', e = .returned (.agg (cellsV putR lv' kv')) ∧ At w' w'.heap.size 2 putR lv' kv' ∧ Below w.heap.size w w' := by
  have hp := Put_miss (objV ⟨#[97]⟩ 4607182418800017408) (strV ⟨#[120]⟩) 1 lv kv nilS nilS ⟨#[98]⟩ (by decide) w h (leaf_at w _ 0 4 0 ⟨#[120]⟩ (by omega) (by omega) (by decide)) rfl (Nat.le_refl _) (by rw [clean_b, put_is]; exact small_put) (by rw [clean_b]; exact idx_ab)
  rw [clean_b, put_is] at hp
  refine hp.mono ?_
  rintro e w' ⟨lv', kv', rfl, hat, hb⟩
  exact ⟨lv', kv', rfl, AtP.more (fun b hb => hb.2) _ _ _ _ hat, hb⟩
theorem head_get (lv kv : Value) (w : World) (h : At w w.heap.size 2 putR lv kv) :
    Calls Tryz.prog 8 #[.agg (cellsV putR lv kv), .string ⟨#[98]⟩] w fun e w' => ∃ p1 q1 r1 p2 q2 r2, e = .returned (.tuple #[.agg #[.int .i64 4, .float .f64 0, .string ⟨#[120]⟩, .slice p1 q1 r1, .slice p2 q2 r2], .bool true]) ∧ Below w.heap.size w w' := by
  refine (Get_any putR 1 lv kv ⟨#[98]⟩ (by decide) w h (Nat.le_refl _)).mono ?_
  rintro e w' ⟨hg, hb⟩
  rw [clean_b] at hg
  have hi : Lib.idxOfS putR.ks ⟨#[98]⟩ = 1 := idx_bb
  rw [hi] at hg
  rcases hg with ⟨q, _⟩ | ⟨i, hlt, lv', kv', q, rfl, hat⟩
  · omega
  · obtain rfl : i = 1 := by omega
    obtain ⟨p1, q1, r1, p2, q2, r2, rfl, rfl⟩ := AtP.slices hat
    exact ⟨p1, q1, r1, p2, q2, r2, rfl, hb⟩
theorem nan_large : largeV 1 (numV 9221120237041090561) = false := by kernel_rfl
theorem nan_sz : 9218868437227405312 < szB 9221120237041090561 := by decide +kernel
theorem head_right (g1 g2 : Nat) (w : World) (h : At w w.heap.size 2 (objV ⟨#[97]⟩ 4607182418800017408) (.slice (some ⟨g1, 0, none⟩) 1 1) (.slice (some ⟨g2, 0, none⟩) 1 1)) :
    Calls Tryz.prog 20 #[.agg #[.int .i64 6, .float .f64 0, .string ⟨#[]⟩, .slice (some ⟨g1, 0, none⟩) 1 1, .slice (some ⟨g2, 0, none⟩) 1 1]] w fun e w' => e = .returned (.bool true) ∧ Below w.heap.size w w' := by
  have := Right_any3 2 _ _ _ w h
  rw [right_objA4] at this
  exact this
theorem head_wrong (w : World) :
    Calls Tryz.prog 20 #[.agg #[.int .i64 7, .float .f64 0, .string ⟨#[]⟩, .slice none 0 0, .slice none 0 0]] w fun e w' => e = .returned (.bool false) ∧ Below w.heap.size w w' := by
  have := Right_any3 1 (leafV 7 0 ⟨#[]⟩) nilS nilS w (leaf_at w _ 0 7 0 ⟨#[]⟩ (by omega) (by omega) (by decide))
  rw [right_7] at this
  exact this
theorem head_text (g1 g2 : Nat) (w : World) (hN : NumW w) (h : At w w.heap.size 2 (objV ⟨#[97]⟩ 4607182418800017408) (.slice (some ⟨g1, 0, none⟩) 1 1) (.slice (some ⟨g2, 0, none⟩) 1 1)) :
    Calls Tryz.prog 21 #[.agg #[.int .i64 6, .float .f64 0, .string ⟨#[]⟩, .slice (some ⟨g1, 0, none⟩) 1 1, .slice (some ⟨g2, 0, none⟩) 1 1]] w fun e w' => e = .returned (.string ⟨#[123, 34, 97, 34, 58, 49, 125]⟩) ∧ Below w.heap.size w w' := by
  have := Text_any3 2 (objV ⟨#[97]⟩ 4607182418800017408) 2 _ _ w hN h right_objA (by rw [text_obj]; decide)
  rw [text_obj] at this
  exact this
theorem head_large (w : World) :
    Calls Tryz.prog 22 #[.agg #[.int .i64 3, .float .f64 9221120237041090561, .string ⟨#[]⟩, .slice none 0 0, .slice none 0 0]] w fun e w' => e = .returned (.bool false) ∧ Below w.heap.size w w' := by
  have := Large_any 1 (numV 9221120237041090561) nilS nilS w (leaf_at w _ 0 3 9221120237041090561 ⟨#[]⟩ (by omega) (by omega) (by decide))
  rw [nan_large] at this
  exact this
theorem head_truth (w : World) :
    Calls Tryz.prog 23 #[.agg #[.int .i64 3, .float .f64 0, .string ⟨#[]⟩, .slice none 0 0, .slice none 0 0]] w fun e w' => e = .returned (.bool true) ∧ Below w.heap.size w w' :=
  Truth_any (numV 0) none 0 0 none 0 0 (by decide) (by decide) w
theorem head_name (w : World) :
    Calls Tryz.prog 24 #[.agg #[.int .i64 0, .float .f64 0, .string ⟨#[]⟩, .slice none 0 0, .slice none 0 0]] w fun e w' => e = .returned (.string ⟨#[110, 117, 108, 108]⟩) ∧ Below w.heap.size w w' :=
  Name_any (leafV 0 0 ⟨#[]⟩) none 0 0 none 0 0 (by decide) (by decide) w
theorem objA_any (w : World) : Calls Tryz.prog 13 #[.string ⟨#[97]⟩, .float .f64 4607182418800017408] w fun e w' => ∃ g1 g2, e = .returned (.agg #[.int .i64 6, .float .f64 0, .string ⟨#[]⟩, .slice (some ⟨g1, 0, none⟩) 1 1, .slice (some ⟨g2, 0, none⟩) 1 1]) ∧ At w' w'.heap.size 2 (objV ⟨#[97]⟩ 4607182418800017408) (.slice (some ⟨g1, 0, none⟩) 1 1) (.slice (some ⟨g2, 0, none⟩) 1 1) ∧ Below w.heap.size w w' :=
  object_any ⟨#[97]⟩ 4607182418800017408 (by decide) (by omega) w
end Go.Proofs.YtdlighmnlcklnaaGreatDoor

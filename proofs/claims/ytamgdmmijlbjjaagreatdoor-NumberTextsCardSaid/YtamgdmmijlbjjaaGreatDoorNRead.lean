/- Parse's reading, at the three texts of the heads. -/
import Derived.Test.YtamgdmmijlbjjaaGreatDoorNCuts
import Derived.Test.YtamgdmmijlbjjaaGreatDoorNRow
import Derived.Test.YtamgdmmijlbjjaaGreatDoorShelf
import Derived.Below
import Derived.ProofKit
import Derived.OpenShut
import Derived.Deep.RegionWith
namespace Go.Proofs.YtamgdmmijlbjjaaGreatDoor
open Go Go.RowKit

theorem below_drewN' {B : Nat} {a w : World} (h : Below B a w) (n : Nat) : Below B a (w.drewN n) := ⟨h.os, h.tape, h.output, h.size, h.block⟩
theorem cutSign_at (s a b : ByteArray) (hm : s.size ≤ 1000000000) (ha : s.extract 0 (sgnN s.data.toList) = a) (hb : s.extract (sgnN s.data.toList) s.size = b) (w : World) :
    Calls Tryz.prog 175 #[.string s] w fun e w' => e = .returned (.tuple #[.string a, .string b]) ∧ Below w.heap.size w w' := by
  subst ha; subst hb
  exact (cutSign_any s hm w).mono fun e w' ⟨h, n, hw⟩ => ⟨h, by rw [hw]; exact below_drewN' (Below.refl _ _) n⟩
theorem cutDigits_at (s a b : ByteArray) (hm : s.size ≤ 1000000000) (ha : s.extract 0 (digN s.data.toList) = a) (hb : s.extract (digN s.data.toList) s.size = b) (w : World) :
    Calls Tryz.prog 176 #[.string s] w fun e w' => e = .returned (.tuple #[.string a, .string b]) ∧ Below w.heap.size w w' := by
  subst ha; subst hb
  exact (cutDigits_any s hm w).mono fun e w' ⟨h, n, hw⟩ => ⟨h, by rw [hw]; exact below_drewN' (Below.refl _ _) n⟩
set_option maxRecDepth 100000 in
set_option maxHeartbeats 1000000 in
theorem readExp_none (w : World) :
    Calls Tryz.prog 178 #[.string ⟨#[]⟩] w fun e w' => e = .returned (.tuple #[.int .i64 0, .bool true]) ∧ Below w.heap.size w w' := by
  go_enter Tryz.func178, Tryz.ntmps178
  go_wp2_with fail
  go_ret2
  exact ⟨rfl, Below.refl _ _⟩
set_option maxRecDepth 100000 in
set_option maxHeartbeats 1000000 in
theorem readExp_e (w : World) :
    Calls Tryz.prog 178 #[.string ⟨#[101]⟩] w fun e w' => e = .returned (.tuple #[.int .i64 0, .bool false]) ∧ Below w.heap.size w w' := by
  go_enter Tryz.func178, Tryz.ntmps178
  go_wp2_with fail
  refine (cutSign_at ⟨#[]⟩ ⟨#[]⟩ ⟨#[]⟩ (by decide) (by kernel_rfl) (by kernel_rfl) w).mono ?_
  rintro e w1 ⟨rfl, b1⟩
  go_wp2_with fail
  refine (cutDigits_at ⟨#[]⟩ ⟨#[]⟩ ⟨#[]⟩ (by decide) (by kernel_rfl) (by kernel_rfl) w1).mono ?_
  rintro e w2 ⟨rfl, b2⟩
  go_wp2_with fail
  go_ret2
  exact ⟨rfl, b1.trans (b2.mono b1.size)⟩
set_option maxRecDepth 100000 in
set_option maxHeartbeats 1000000 in
theorem readExp_e1000 (w : World) :
    Calls Tryz.prog 178 #[.string ⟨#[101, 49, 48, 48, 48]⟩] w fun e w' => e = .returned (.tuple #[.int .i64 1000, .bool true]) ∧ Below w.heap.size w w' := by
  go_enter Tryz.func178, Tryz.ntmps178
  go_wp2_with fail
  refine (cutSign_at ⟨#[49, 48, 48, 48]⟩ ⟨#[]⟩ ⟨#[49, 48, 48, 48]⟩ (by decide) (by kernel_rfl) (by kernel_rfl) w).mono ?_
  rintro e w1 ⟨rfl, b1⟩
  go_wp2_with fail
  refine (cutDigits_at ⟨#[49, 48, 48, 48]⟩ ⟨#[49, 48, 48, 48]⟩ ⟨#[]⟩ (by decide) (by kernel_rfl) (by kernel_rfl) w1).mono ?_
  rintro e w2 ⟨rfl, b2⟩
  go_wp2_with fail
  refine (Tryz.strconv_ParseInt_10_at64_ok ⟨#[49, 48, 48, 48]⟩ (by decide) 1000 (by kernel_rfl) w2).mono ?_
  rintro e w3 ⟨rfl, hw3⟩
  have b3 : Below w2.heap.size w2 w3 := by
    rcases hw3 with rfl | ⟨t, rfl⟩
    · exact Below.refl _ _
    · exact Lib.bytesWorld_below _ _ _
  go_wp2_with fail
  go_ret2
  exact ⟨rfl, (b1.trans (b2.mono b1.size)).trans (b3.mono (by have := b1.size; have := b2.size; omega))⟩
theorem keepB {W w1 : World} {b : Nat} {o : Option Obj} (hb : Below W.heap.size W w1) (hlt : b < W.heap.size) (h : W.heap[b]? = o) : w1.heap[b]? = o := by
  rw [hb.block b hlt]
  exact h
theorem row3' {w : World} {b : Nat} {u0 u1 u2 : Value} {t : TypeId} (hb : w.heap[b]? = some (.cells #[u0, u1, u2] t (0, 0))) :
    w.cell? ⟨b, 0, none⟩ = some u0 ∧ w.cell? ⟨b, 1, none⟩ = some u1 ∧ w.cell? ⟨b, 2, none⟩ = some u2 ∧ w.frozen? ⟨b, 0, none⟩ = false ∧ w.frozen? ⟨b, 1, none⟩ = false ∧ w.frozen? ⟨b, 2, none⟩ = false := by
  simp [World.cell?, World.frozen?, hb]
set_option maxRecDepth 100000 in
set_option maxHeartbeats 2000000 in
theorem read_1e (w : World) :
    Calls Tryz.prog 122 #[.string ⟨#[49, 101]⟩] w fun e w' => e = .returned (.tuple #[.agg #[.string ⟨#[]⟩, .string ⟨#[]⟩, .int .i64 0], .bool false]) ∧ Below w.heap.size w w' := by
  have p1 : Lib.hasPrefix (⟨#[101]⟩ : ByteArray).data.toList (⟨#[46]⟩ : ByteArray).data.toList = false := by kernel_rfl
  have p2 : (⟨(Lib.trimPrefix (⟨#[101]⟩ : ByteArray).data.toList (⟨#[46]⟩ : ByteArray).data.toList).toArray⟩ : ByteArray) = ⟨#[101]⟩ := by kernel_rfl
  go_enter Tryz.func122, Tryz.ntmps122
  go_wp2_with fail
  refine (cutSign_at ⟨#[49, 101]⟩ ⟨#[]⟩ ⟨#[49, 101]⟩ (by decide) (by kernel_rfl) (by kernel_rfl) _).mono ?_
  rintro e w1 ⟨rfl, b1⟩
  have K1 := keepB b1 (by simp) (heap_alloc_new w _)
  have B1 : Below w.heap.size w w1 := ((Below.refl w.heap.size w).alloc (Nat.le_refl _) _).trans (b1.mono (by simp))
  have z1 : w.heap.size < w1.heap.size := by have := b1.size; simp at this; omega
  clear b1
  go_wp2_with fail
  refine (cutDigits_at ⟨#[49, 101]⟩ ⟨#[49]⟩ ⟨#[101]⟩ (by decide) (by kernel_rfl) (by kernel_rfl) _).mono ?_
  rintro e w2 ⟨rfl, b2⟩
  have K2 := keepB b2 z1 K1
  have B2 : Below w.heap.size w w2 := B1.trans (b2.mono (by omega))
  have z2 : w.heap.size < w2.heap.size := by have := b2.size; omega
  clear b2 K1
  go_wp2_with fail
  refine (Tryz.strings_CutPrefix ⟨#[101]⟩ ⟨#[46]⟩ _).mono ?_
  rintro e wq ⟨rfl, rfl⟩
  go_wp2_with fail
  refine (readExp_e _).mono ?_
  rintro e w4 ⟨rfl, b4⟩
  have K4 := keepB b4 z2 K2
  have B4 : Below w.heap.size w w4 := B2.trans (b4.mono (by omega))
  have z4 : w.heap.size < w4.heap.size := by have := b4.size; omega
  clear b4 K2
  obtain ⟨c0, c1, c2, f0, f1, f2⟩ := row3' K4
  have KK := Lib.hid K4
  clear K4
  go_wp2_with fail
  refine bodyPost_ret (v := .tuple #[.agg #[.string ⟨#[]⟩, .string ⟨#[]⟩, .int .i64 0], .bool false]) (by simp [results, Tryz.results122, go_sem, World.cell?, World.setCell, Array.getElem?_modify, KK.out]) rfl ⟨rfl, ?_⟩
  repeat (first | exact B4 | exact below_drewN' B4 _ | refine Below.setCell ?_ (by simp) _)
set_option maxRecDepth 100000 in
set_option maxHeartbeats 2000000 in
theorem read_1e1000 (w : World) :
    Calls Tryz.prog 122 #[.string ⟨#[49, 101, 49, 48, 48, 48]⟩] w fun e w' => e = .returned (.tuple #[.agg #[.string ⟨#[]⟩, .string ⟨#[49]⟩, .int .i64 1001], .bool true]) ∧ Below w.heap.size w w' := by
  have p1 : Lib.hasPrefix (⟨#[101, 49, 48, 48, 48]⟩ : ByteArray).data.toList (⟨#[46]⟩ : ByteArray).data.toList = false := by kernel_rfl
  have p2 : (⟨(Lib.trimPrefix (⟨#[101, 49, 48, 48, 48]⟩ : ByteArray).data.toList (⟨#[46]⟩ : ByteArray).data.toList).toArray⟩ : ByteArray) = ⟨#[101, 49, 48, 48, 48]⟩ := by kernel_rfl
  have p3 : (⟨(Lib.trimLeftB (⟨#[49]⟩ : ByteArray).data.toList 48).toArray⟩ : ByteArray) = ⟨#[49]⟩ := by kernel_rfl
  go_enter Tryz.func122, Tryz.ntmps122
  go_wp2_with fail
  refine (cutSign_at ⟨#[49, 101, 49, 48, 48, 48]⟩ ⟨#[]⟩ ⟨#[49, 101, 49, 48, 48, 48]⟩ (by decide) (by kernel_rfl) (by kernel_rfl) _).mono ?_
  rintro e w1 ⟨rfl, b1⟩
  have K1 := keepB b1 (by simp) (heap_alloc_new w _)
  have B1 : Below w.heap.size w w1 := ((Below.refl w.heap.size w).alloc (Nat.le_refl _) _).trans (b1.mono (by simp))
  have z1 : w.heap.size < w1.heap.size := by have := b1.size; simp at this; omega
  clear b1
  go_wp2_with fail
  refine (cutDigits_at ⟨#[49, 101, 49, 48, 48, 48]⟩ ⟨#[49]⟩ ⟨#[101, 49, 48, 48, 48]⟩ (by decide) (by kernel_rfl) (by kernel_rfl) _).mono ?_
  rintro e w2 ⟨rfl, b2⟩
  have K2 := keepB b2 z1 K1
  have B2 : Below w.heap.size w w2 := B1.trans (b2.mono (by omega))
  have z2 : w.heap.size < w2.heap.size := by have := b2.size; omega
  clear b2 K1
  go_wp2_with fail
  refine (Tryz.strings_CutPrefix ⟨#[101, 49, 48, 48, 48]⟩ ⟨#[46]⟩ _).mono ?_
  rintro e wq ⟨rfl, rfl⟩
  go_wp2_with fail
  refine (readExp_e1000 _).mono ?_
  rintro e w4 ⟨rfl, b4⟩
  have K4 := keepB b4 z2 K2
  have B4 : Below w.heap.size w w4 := B2.trans (b4.mono (by omega))
  have z4 : w.heap.size < w4.heap.size := by have := b4.size; omega
  clear b4 K2
  go_wp2_with fail
  refine (Tryz.strings_TrimLeft_one ⟨#[49]⟩ 48 (by decide) _).mono ?_
  rintro e wq ⟨rfl, rfl⟩
  obtain ⟨c0, c1, c2, f0, f1, f2⟩ := row3' K4
  have KK := Lib.hid K4
  clear K4
  go_wp2_with fail
  refine bodyPost_ret (v := .tuple #[.agg #[.string ⟨#[]⟩, .string ⟨#[49]⟩, .int .i64 1001], .bool true]) (by simp [results, Tryz.results122, go_sem, World.cell?, World.setCell, Array.getElem?_modify, KK.out]) rfl ⟨rfl, ?_⟩
  repeat (first | exact B4 | exact below_drewN' B4 _ | refine Below.setCell ?_ (by simp) _)
set_option maxRecDepth 100000 in
set_option maxHeartbeats 2000000 in
theorem read_00750 (w : World) :
    Calls Tryz.prog 122 #[.string ⟨#[43, 48, 48, 55, 46, 53, 48]⟩] w fun e w' => e = .returned (.tuple #[.agg #[.string ⟨#[43]⟩, .string ⟨#[55, 53, 48]⟩, .int .i64 1], .bool true]) ∧ Below w.heap.size w w' := by
  have p1 : Lib.hasPrefix (⟨#[46, 53, 48]⟩ : ByteArray).data.toList (⟨#[46]⟩ : ByteArray).data.toList = true := by kernel_rfl
  have p2 : (⟨(Lib.trimPrefix (⟨#[46, 53, 48]⟩ : ByteArray).data.toList (⟨#[46]⟩ : ByteArray).data.toList).toArray⟩ : ByteArray) = ⟨#[53, 48]⟩ := by kernel_rfl
  have p3 : (⟨(Lib.trimLeftB (⟨#[48, 48, 55, 53, 48]⟩ : ByteArray).data.toList 48).toArray⟩ : ByteArray) = ⟨#[55, 53, 48]⟩ := by kernel_rfl
  go_enter Tryz.func122, Tryz.ntmps122
  go_wp2_with fail
  refine (cutSign_at ⟨#[43, 48, 48, 55, 46, 53, 48]⟩ ⟨#[43]⟩ ⟨#[48, 48, 55, 46, 53, 48]⟩ (by decide) (by kernel_rfl) (by kernel_rfl) _).mono ?_
  rintro e w1 ⟨rfl, b1⟩
  have K1 := keepB b1 (by simp) (heap_alloc_new w _)
  have B1 : Below w.heap.size w w1 := ((Below.refl w.heap.size w).alloc (Nat.le_refl _) _).trans (b1.mono (by simp))
  have z1 : w.heap.size < w1.heap.size := by have := b1.size; simp at this; omega
  clear b1
  go_wp2_with fail
  refine (cutDigits_at ⟨#[48, 48, 55, 46, 53, 48]⟩ ⟨#[48, 48, 55]⟩ ⟨#[46, 53, 48]⟩ (by decide) (by kernel_rfl) (by kernel_rfl) _).mono ?_
  rintro e w2 ⟨rfl, b2⟩
  have K2 := keepB b2 z1 K1
  have B2 : Below w.heap.size w w2 := B1.trans (b2.mono (by omega))
  have z2 : w.heap.size < w2.heap.size := by have := b2.size; omega
  clear b2 K1
  go_wp2_with fail
  refine (Tryz.strings_CutPrefix ⟨#[46, 53, 48]⟩ ⟨#[46]⟩ _).mono ?_
  rintro e wq ⟨rfl, rfl⟩
  go_wp2_with fail
  refine (cutDigits_at ⟨#[53, 48]⟩ ⟨#[53, 48]⟩ ⟨#[]⟩ (by decide) (by kernel_rfl) (by kernel_rfl) _).mono ?_
  rintro e w4 ⟨rfl, b4⟩
  have K4 := keepB b4 z2 K2
  have B4 : Below w.heap.size w w4 := B2.trans (b4.mono (by omega))
  have z4 : w.heap.size < w4.heap.size := by have := b4.size; omega
  clear b4 K2
  go_wp2_with fail
  refine (readExp_none _).mono ?_
  rintro e w5 ⟨rfl, b5⟩
  have K5 := keepB b5 z4 K4
  have B5 : Below w.heap.size w w5 := B4.trans (b5.mono (by omega))
  have z5 : w.heap.size < w5.heap.size := by have := b5.size; omega
  clear b5 K4
  go_wp2_with fail
  refine (Tryz.strings_TrimLeft_one ⟨#[48, 48, 55, 53, 48]⟩ 48 (by decide) _).mono ?_
  rintro e wq ⟨rfl, rfl⟩
  obtain ⟨c0, c1, c2, f0, f1, f2⟩ := row3' K5
  have KK := Lib.hid K5
  clear K5
  go_wp2_with fail
  refine bodyPost_ret (v := .tuple #[.agg #[.string ⟨#[43]⟩, .string ⟨#[55, 53, 48]⟩, .int .i64 1], .bool true]) (by simp [results, Tryz.results122, go_sem, World.cell?, World.setCell, Array.getElem?_modify, KK.out]) rfl ⟨rfl, ?_⟩
  repeat (first | exact B5 | exact below_drewN' B5 _ | refine Below.setCell ?_ (by simp) _)
end Go.Proofs.YtamgdmmijlbjjaaGreatDoor

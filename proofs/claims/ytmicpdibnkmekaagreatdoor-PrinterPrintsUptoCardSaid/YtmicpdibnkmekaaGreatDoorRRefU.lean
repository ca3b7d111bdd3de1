/- The document's escape of a code point. -/
import Derived.Test.YtmicpdibnkmekaaGreatDoorREsc
import Derived.Test.YtmicpdibnkmekaaGreatDoorRRefQ
import Derived.WalkLawsBesides
namespace Go.Proofs.YtmicpdibnkmekaaGreatDoor
open Go Go.RowKit

theorem and15l {x : Int} (h0 : 0 ≤ x) (h1 : x < 4294967296) : bits .and .i64 x 15 = x % 16 :=
  bits_mask .i64 40 (by decide) (fun n h0 h1 => by rw [IntKind.wrap_i64]; omega) 4 (by omega) x h0 (by omega)
set_option maxRecDepth 100000 in
set_option maxHeartbeats 16000000 in
theorem refUnit_any (u : Nat) (hu : u < 65536) (B : Nat) (L : List UInt8) (hp : L.length ≤ 1099511627776) (v : Value) (w : World) (hown : w.ownsRow B 5 1 v L.length (Lib.byteCells L)) (hB : B ≤ w.heap.size) :
    Calls Tryz.prog 140 #[v, .int .i64 u] w fun e w' => ∃ v', e = .returned v' ∧ w'.ownsRow B 5 1 v' (L ++ unitT u).length (Lib.byteCells (L ++ unitT u)) ∧ Below B w w' := by
  obtain ⟨A, cp, rfl⟩ := own_sliceV hown
  obtain ⟨i0, hi0, hz0, hz1, hz2⟩ := info_parts infoU8
  have HOW := Lib.hid hown
  obtain ⟨a1, ha1⟩ : ∃ a, u / 4096 = a := ⟨_, rfl⟩
  obtain ⟨a2, ha2⟩ : ∃ a, u / 256 = a := ⟨_, rfl⟩
  obtain ⟨a3, ha3⟩ : ∃ a, u / 16 = a := ⟨_, rfl⟩
  obtain ⟨q1, hq1⟩ : ∃ q, u / 4096 % 16 = q := ⟨_, rfl⟩
  obtain ⟨q2, hq2⟩ : ∃ q, u / 256 % 16 = q := ⟨_, rfl⟩
  obtain ⟨q3, hq3⟩ : ∃ q, u / 16 % 16 = q := ⟨_, rfl⟩
  obtain ⟨q4, hq4⟩ : ∃ q, u % 16 = q := ⟨_, rfl⟩
  have l1 : q1 < 16 := by omega
  have l2 : q2 < 16 := by omega
  have l3 : q3 < 16 := by omega
  have l4 : q4 < 16 := by omega
  have hU : unitT u = [92, 117, hexC q1, hexC q2, hexC q3, hexC q4] := by unfold unitT; rw [hq1, hq2, hq3, hq4]
  rw [← hex_is q1 l1, ← hex_is q2 l2, ← hex_is q3 l3, ← hex_is q4 l4] at hU
  have d1 : (u : Int) / 4096 = (a1 : Int) := by omega
  have d2 : (u : Int) / 256 = (a2 : Int) := by omega
  have d3 : (u : Int) / 16 = (a3 : Int) := by omega
  have b1 : bits .and .i64 (a1 : Int) 15 = (q1 : Int) := by rw [and15l (by omega) (by omega)]; omega
  have b2 : bits .and .i64 (a2 : Int) 15 = (q2 : Int) := by rw [and15l (by omega) (by omega)]; omega
  have b3 : bits .and .i64 (a3 : Int) 15 = (q3 : Int) := by rw [and15l (by omega) (by omega)]; omega
  have b4 : bits .and .i64 (u : Int) 15 = (q4 : Int) := by rw [and15l (by omega) (by omega)]; omega
  have w1 : IntKind.i64.wrap (a1 : Int) = (a1 : Int) := IntWalk.i64_in _ (by omega)
  have w2 : IntKind.i64.wrap (a2 : Int) = (a2 : Int) := IntWalk.i64_in _ (by omega)
  have w3 : IntKind.i64.wrap (a3 : Int) = (a3 : Int) := IntWalk.i64_in _ (by omega)
  have i1 : (0 : Int) ≤ (q1 : Int) := by omega
  have j1 : (q1 : Int) < 16 := by omega
  have i2 : (0 : Int) ≤ (q2 : Int) := by omega
  have j2 : (q2 : Int) < 16 := by omega
  have i3 : (0 : Int) ≤ (q3 : Int) := by omega
  have j3 : (q3 : Int) < 16 := by omega
  have i4 : (0 : Int) ≤ (q4 : Int) := by omega
  have j4 : (q4 : Int) < 16 := by omega
  rw [hU]
  clear hU hq1 hq2 hq3 hq4 ha1 ha2 ha3 hown
  go_enter Tryz.func140, Tryz.ntmps140
  go_wp2_with fail
  go_region_law ((refine step_append_lies _ (by rfl) _ _ _ (by rfl) B 5 i0 _ 1 1 Tryz.underlying56 hi0 hz0 hz1 hz2 rfl (by omega) (.slice A L.length cp) L.length (Lib.byteCells L) (by rfl) ((show w.drew.ownsRow B 5 1 (.slice A L.length cp) L.length (Lib.byteCells L) from HOW.out).alloc _) ⟨w.heap.size, 0, none⟩ 6 6 (Lib.byteCells [92, 117, (⟨#[48, 49, 50, 51, 52, 53, 54, 55, 56, 57, 97, 98, 99, 100, 101, 102]⟩ : ByteArray)[q1]'l1, (⟨#[48, 49, 50, 51, 52, 53, 54, 55, 56, 57, 97, 98, 99, 100, 101, 102]⟩ : ByteArray)[q2]'l2, (⟨#[48, 49, 50, 51, 52, 53, 54, 55, 56, 57, 97, 98, 99, 100, 101, 102]⟩ : ByteArray)[q3]'l3, (⟨#[48, 49, 50, 51, 52, 53, 54, 55, 56, 57, 97, 98, 99, 100, 101, 102]⟩ : ByteArray)[q4]'l4]) (by rfl) (by rfl) (World.news_of_block (t := 5) (fr := (0, 0)) (heap_alloc_new w.drew _)) (by simp [Value.oneCell', Lib.byteCells]) (by omega) (by unfold maxLen; omega) (by omega) (by simp; omega) (w.heap.size + 1) (by simp) ?_; intro gg cap wx hownx hgx hatx hltx))
  all_goals
    have hbx : Below B w wx := ((Below.refl B w).drew.alloc (by simp; omega) _).grown hgx (by simp; omega) (fun j hj => (HOW.out.lt j hj).1)
    go_wp2_with fail
    go_ret
    refine ⟨_, rfl, ?_, hbx⟩
    rw [List.length_append, Lib.byteCells_append]
    exact hownx
end Go.Proofs.YtmicpdibnkmekaaGreatDoor

/- The program's functions that go through a text's code points: Count, Points, Valid. -/
import Derived.Test.YtohjcimkpcpgbaaDoorRefA
import Derived.Test.YtohjcimkpcpgbaaDoorShelf
import Derived.Lib.OthersKept
namespace Go.Proofs.YtohjcimkpcpgbaaDoor
open Go Go.RowKit

set_option maxHeartbeats 1000000 in
theorem Count_any (s : ByteArray) (hm : s.size ≤ 1000000000) (w : World) :
    Calls Tryd.prog 14 #[.string s] w fun e w' => e = .returned (.int .i64 (st s 0).length) ∧ Below w.heap.size w w' := by
  go_enter Tryd.func14, Tryd.ntmps14
  go_wp2
  go_loopw [3] (fun n wr => ∃ (pos : Nat) (k : Nat), n = .int .i64 k ∧ k ≤ pos ∧ pos ≤ s.size ∧ k + (st s pos).length = (st s 0).length ∧ wr.heap[w.heap.size]? = some (.stringIter s pos) ∧ Below w.heap.size w wr) (fun _ wr => s.size - wr.iterPos w.heap.size)
  case atStart =>
    refine ⟨0, 0, rfl, Nat.le_refl _, Nat.zero_le _, by omega, ?_, (Below.refl _ w).alloc (Nat.le_refl _) _⟩
    have := World.iter_heap w s 0
    simpa using this
  case round =>
    obtain ⟨pos, k, rfl, hk, hp, he, hit, hb⟩ := hrel
    by_cases hlt : pos < s.size
    · have hnx : ∀ ty, (Instr.next (.pointer (some ⟨w.heap.size, 0, none⟩)) true ty).run Tryd.prog wr = _ := fun ty => Lib.run_next_any_at wr w.heap.size s pos ty hit hlt
      have hwd := wid s pos hlt
      have hf := dec_fits s pos hlt
      have hit2 := Lib.iterAt_heap wr w.heap.size s pos (pos + (Utf8.decode s pos).2) hit
      have hb2 := Lib.below_iterAt hb (k := w.heap.size) (Nat.le_refl _) s (pos + (Utf8.decode s pos).2)
      rw [st_cons s pos hlt, List.length_cons] at he
      have Hit := Lib.hid hit
      have Hit2 := Lib.hid hit2
      have He := Lib.hid he
      clear hit hit2 he
      go_wp2
      go_roundw
      case rel => exact ⟨pos + (Utf8.decode s pos).2, k + 1, by go_num, by omega, hf.1, by have := He.out; omega, Hit2.out, hb2⟩
      case measure => simp only [World.iterPos, Hit2.out, Hit.out]; omega
    · have hnx : ∀ ty, (Instr.next (.pointer (some ⟨w.heap.size, 0, none⟩)) true ty).run Tryd.prog wr = _ := fun ty => Lib.run_next_end_at wr w.heap.size s pos ty hit hlt
      rw [st_nil s pos hlt, List.length_nil, Nat.add_zero] at he
      have He := Lib.hid he
      clear he hit
      go_wp2
      go_ret
      exact ⟨by rw [← He.out]; rfl, hb⟩

set_option maxHeartbeats 1000000 in
theorem Points_any (s : ByteArray) (hm : s.size ≤ 1000000000) (w : World) :
    Calls Tryd.prog 17 #[.string s] w fun e w' => ∃ v, e = .returned v ∧ w'.ownsRow w.heap.size 3 1 v (pts s 0).length (cellsN (pts s 0)) ∧ Below w.heap.size w w' := by
  go_enter Tryd.func17, Tryd.ntmps17
  go_wp2
  go_loopw [3] (fun v wr => ∃ (pos : Nat) (pre : List Nat), pos ≤ s.size ∧ pre ++ pts s pos = pts s 0 ∧ wr.ownsRow w.heap.size 3 1 v pre.length (cellsN pre) ∧ wr.heap[w.heap.size]? = some (.stringIter s pos) ∧ Below w.heap.size w wr) (fun _ wr => s.size - wr.iterPos w.heap.size)
  case atStart =>
    refine ⟨0, [], Nat.zero_le _, rfl, World.ownsRow_nil _ _ _ _, ?_, (Below.refl _ w).alloc (Nat.le_refl _) _⟩
    have := World.iter_heap w s 0
    simpa using this
  case round =>
    obtain ⟨pos, pre, hp, he, hown, hit, hb⟩ := hrel
    by_cases hlt : pos < s.size
    · have hl := congrArg List.length he
      rw [List.length_append] at hl
      have hz := pts_len s 0
      have hlen : pre.length ≤ 1000000000 := by omega
      have hnx : ∀ ty, (Instr.next (.pointer (some ⟨w.heap.size, 0, none⟩)) true ty).run Tryd.prog wr = _ := fun ty => Lib.run_next_any_at wr w.heap.size s pos ty hit hlt
      have hwd := wid s pos hlt
      have hf := dec_fits s pos hlt
      have hpt := (dec_point s pos).1
      have hit2 := Lib.iterAt_heap wr w.heap.size s pos (pos + (Utf8.decode s pos).2) hit
      have hb2 := Lib.below_iterAt hb (k := w.heap.size) (Nat.le_refl _) s (pos + (Utf8.decode s pos).2)
      have hown2 : (wr.iterAt w.heap.size s (pos + (Utf8.decode s pos).2)).ownsRow w.heap.size 3 1 u3 pre.length (cellsN pre) := own_iterAt hown hit _
      have He := Lib.hid he
      have Hit := Lib.hid hit
      have Hit2 := Lib.hid hit2
      clear he hl hit hit2
      go_wp2_with (at_builtin; refine app_one rfl _ _ _ rfl w.heap.size 3 _ 8 Tryd.underlying23 infoInt rfl _ _ _ rfl (by exact hown2) rfl rfl ?c1 ?c2 ?c3 ?_)
      case c1 => unfold maxLen; omega
      case c2 => omega
      case c3 => exact hb2.size
      intro v' w1 hown1 hg1 hb1
      have Hit3 := Lib.hid (iter_stands hown2 Hit2.out hg1)
      go_wp2
      go_roundw
      case rel => exact ⟨pos + (Utf8.decode s pos).2, pre ++ [(Utf8.decode s pos).1], hf.1, by rw [List.append_assoc, ← He.out, pts_cons s pos hlt]; rfl, by rw [cellsN_snoc, List.length_append]; exact hown1, Hit3.out, hb2.trans hb1⟩
      case measure => simp only [World.iterPos, Hit3.out, Hit.out]; omega
    · have hnx : ∀ ty, (Instr.next (.pointer (some ⟨w.heap.size, 0, none⟩)) true ty).run Tryd.prog wr = _ := fun ty => Lib.run_next_end_at wr w.heap.size s pos ty hit hlt
      rw [pts_nil s pos hlt, List.append_nil] at he
      have He := Lib.hid he
      clear he hit
      go_wp2
      go_ret
      exact ⟨_, rfl, by rw [← He.out]; exact hown, hb⟩
end Go.Proofs.YtohjcimkpcpgbaaDoor

/- RunesTurns: its walk. -/
import Derived.Test.YtohjcimkpcpgbaaDoorHeads
import Derived.Test.YtohjcimkpcpgbaaDoorRefC
namespace Go.Proofs.YtohjcimkpcpgbaaDoor
open Go Go.RowKit Go.WideShapes Go.Shelf

theorem Case_all (s : ByteArray) (up : Bool) (hm : s.size ≤ 1000000000) (w : World) :
    Calls Tryd.prog 29 #[.string s, .bool up] w fun e w' => e = .returned (.string ⟨(s.data.toList.map (caseB up)).toArray⟩) ∧ Below w.heap.size w w' := by
  cases up
  · exact Case_down s hm w
  · exact Case_up s hm w
theorem refCase_all (s : ByteArray) (up : Bool) (hm : s.size ≤ 1000000000) (w : World) :
    Calls Tryd.prog 30 #[.string s, .bool up] w fun e w' => e = .returned (.string ⟨(s.data.toList.map (caseB up)).toArray⟩) ∧ Below w.heap.size w w' := by
  cases up
  · exact refCase_down s hm w
  · exact refCase_up s hm w
set_option maxRecDepth 100000 in
set_option maxHeartbeats 4000000 in
theorem turns_true (s : ByteArray) (n : Int) (left right : Bool) (hm : s.size ≤ 1000000000) (hn : -9223372036854775808 ≤ n ∧ n ≤ 9223372036854775807) (w : World) (hT : Lib.Utf8Tabs 0 1 w) :
    Calls Tryd.prog 5 #[.string s, .int .i64 n, .bool left, .bool right] w fun e w' => e = .returned (.bool true) ∧ Below w.heap.size w w' := by
  go_enter Tryd.func5, Tryd.ntmps5
  go_wp2_with fail
  refine (Repeat_any s n hm hn _).mono ?_
  rintro e w1 ⟨rfl, b1⟩
  obtain ⟨y, hy⟩ : ∃ y, repS s n = y := ⟨_, rfl⟩
  have Hy := Lib.hid hy
  rw [hy]
  clear hy
  obtain ⟨y1, y2⟩ := y
  have z1 := b1.size
  go_wp2_with fail
  refine (refRepeat_any s n hm hn _).mono ?_
  rintro e w2 ⟨rfl, b2⟩
  rw [Hy.out]
  have B2 : Below w.heap.size w w2 := b1.trans (b2.mono (by omega))
  clear b1 b2
  have z2 := B2.size
  go_wp2_with fail
  refine (Case_all s left hm _).mono ?_
  rintro e w3 ⟨rfl, b3⟩
  have B3 : Below w.heap.size w w3 := B2.trans (b3.mono (by omega))
  clear b3
  have z3 := B3.size
  obtain ⟨c, hc⟩ : ∃ c : ByteArray, ⟨(s.data.toList.map (caseB left)).toArray⟩ = c := ⟨_, rfl⟩
  have Hc := Lib.hid hc
  rw [hc]
  clear hc
  go_wp2_with fail
  refine (refCase_all s left hm _).mono ?_
  rintro e w4 ⟨rfl, b4⟩
  have B4 : Below w.heap.size w w4 := B3.trans (b4.mono (by omega))
  clear b4
  have z4 := B4.size
  rw [Hc.out]
  go_wp2_with fail
  refine (Trim_any s left right hm _).mono ?_
  rintro e w5 ⟨rfl, b5⟩
  have B5 : Below w.heap.size w w5 := B4.trans (b5.mono (by omega))
  clear b5
  have z5 := B5.size
  obtain ⟨d, hd⟩ : ∃ d : ByteArray, ⟨(trimmed left right s.data.toList).toArray⟩ = d := ⟨_, rfl⟩
  have Hd := Lib.hid hd
  rw [hd]
  clear hd
  go_wp2_with fail
  refine (refTrim_any s left right (by unfold maxLen; omega) _).mono ?_
  rintro e w6 ⟨rfl, rfl⟩
  rw [Hd.out]
  go_wp2_with fail
  refine (heads_true _ (Utf8Tabs_below hT B5)).mono ?_
  rintro e w7 ⟨rfl, b7⟩
  have B7 : Below w.heap.size w w7 := B5.trans (b7.mono (by omega))
  go_wp2_with fail
  go_ret
  exact ⟨rfl, B7⟩
end Go.Proofs.YtohjcimkpcpgbaaDoor

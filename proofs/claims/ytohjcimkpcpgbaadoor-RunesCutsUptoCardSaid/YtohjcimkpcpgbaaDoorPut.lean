/- The answers' text of code points. -/
import Derived.Test.YtohjcimkpcpgbaaDoorRefB
import Derived.Lib.RuneBytes
namespace Go.Proofs.YtohjcimkpcpgbaaDoor
open Go Go.RowKit Go.WideShapes

theorem orI {x y : Int} (i : Nat) (_hi : i ≤ 8) (hx : 0 ≤ x) (hm : x % 2 ^ i = 0) (hl : x < 4294967296) (h0 : 0 ≤ y) (h1 : y < 2 ^ i) (h2 : y < 4294967296) : bits .or .i64 x y = x + y :=
  bits_join .i64 40 (by decide) (fun n h0 h1 => by rw [IntKind.wrap_i64]; omega) i x y hx hm (by omega) h0 h1 (by omega)
theorem and63 {x : Int} (h0 : 0 ≤ x) (h1 : x < 4294967296) : bits .and .i64 x 63 = x % 64 :=
  bits_mask .i64 40 (by decide) (fun n h0 h1 => by rw [IntKind.wrap_i64]; omega) 6 (by omega) x h0 (by omega)
theorem or128 {y : Int} (h0 : 0 ≤ y) (h1 : y < 64) : bits .or .i64 128 y = 128 + y := orI 6 (by omega) (by omega) (by omega) (by omega) h0 (by omega) (by omega)
theorem or192 {y : Int} (h0 : 0 ≤ y) (h1 : y < 32) : bits .or .i64 192 y = 192 + y := orI 5 (by omega) (by omega) (by omega) (by omega) h0 (by omega) (by omega)
theorem or224 {y : Int} (h0 : 0 ≤ y) (h1 : y < 16) : bits .or .i64 224 y = 224 + y := orI 4 (by omega) (by omega) (by omega) (by omega) h0 (by omega) (by omega)
theorem or240 {y : Int} (h0 : 0 ≤ y) (h1 : y < 8) : bits .or .i64 240 y = 240 + y := orI 3 (by omega) (by omega) (by omega) (by omega) h0 (by omega) (by omega)
set_option maxRecDepth 100000 in
set_option maxHeartbeats 1000000 in
theorem put_one (B : Nat) (v : Value) (n : Nat) (xs : List Value) (p : Int) (h0 : 0 ≤ p) (h1 : p < 128) (hn : n ≤ 8000000000) (w : World) (hown : w.ownsRow B 5 1 v n xs) (hB : B ≤ w.heap.size) :
    Calls Tryd.prog 37 #[v, .int .i64 p] w fun e w' => ∃ v', e = .returned v' ∧ w'.ownsRow B 5 1 v' (n + (Lib.runeCells p).length) (xs ++ Lib.runeCells p) ∧ Below B w w' := by
  have hc : Hid (Lib.runeCells p = [.int .u8 p]) := by
    show _ = _
    unfold Lib.runeCells
    rw [Lib.encodeRuneZ_one h0 (by omega)]
    rfl

  go_enter Tryd.func37, Tryd.ntmps37
  go_wp2_with (at_builtin; refine app_news rfl _ _ _ rfl B 5 _ 1 Tryd.underlying22 infoByte rfl _ _ _ rfl (by exact hown) 1 rfl rfl ?c0 ?c1 ?c2 hB ?_)
  case c0 => simp [Value.oneCell']
  case c1 => unfold maxLen; omega
  case c2 => omega
  intro v' w1 hown1 _ hb1
  go_wp2
  go_ret
  refine ⟨v', rfl, ?_, hb1⟩
  rw [hc.out]
  simpa using hown1
set_option maxRecDepth 100000 in
set_option maxHeartbeats 1000000 in
theorem put_two (B : Nat) (v : Value) (n : Nat) (xs : List Value) (p : Int) (h0 : 128 ≤ p) (h1 : p < 2048) (hn : n ≤ 8000000000) (w : World) (hown : w.ownsRow B 5 1 v n xs) (hB : B ≤ w.heap.size) :
    Calls Tryd.prog 37 #[v, .int .i64 p] w fun e w' => ∃ v', e = .returned v' ∧ w'.ownsRow B 5 1 v' (n + (Lib.runeCells p).length) (xs ++ Lib.runeCells p) ∧ Below B w w' := by
  have hc : Hid (Lib.runeCells p = [.int .u8 (192 + p / 64), .int .u8 (128 + p % 64)]) := by
    show _ = _
    unfold Lib.runeCells
    rw [Lib.encodeRuneZ_two h0 (by omega)]
    rfl
  have o0 := or192 (y := p / 64) (by omega) (by omega)
  have o1 := or128 (y := p % 64) (by omega) (by omega)
  have a0 := and63 (x := p) (by omega) (by omega)
  go_enter Tryd.func37, Tryd.ntmps37
  go_wp2_with (at_builtin; refine app_news rfl _ _ _ rfl B 5 _ 1 Tryd.underlying22 infoByte rfl _ _ _ rfl (by exact hown) 2 rfl rfl ?c0 ?c1 ?c2 hB ?_)
  case c0 => simp [Value.oneCell']
  case c1 => unfold maxLen; omega
  case c2 => omega
  intro v' w1 hown1 _ hb1
  go_wp2
  go_ret
  refine ⟨v', rfl, ?_, hb1⟩
  rw [hc.out]
  simpa using hown1
set_option maxRecDepth 100000 in
set_option maxHeartbeats 1000000 in
theorem put_three (B : Nat) (v : Value) (n : Nat) (xs : List Value) (p : Int) (h0 : 2048 ≤ p) (h1 : p < 65536) (h2 : p < 55296 ∨ 57343 < p) (hn : n ≤ 8000000000) (w : World) (hown : w.ownsRow B 5 1 v n xs) (hB : B ≤ w.heap.size) :
    Calls Tryd.prog 37 #[v, .int .i64 p] w fun e w' => ∃ v', e = .returned v' ∧ w'.ownsRow B 5 1 v' (n + (Lib.runeCells p).length) (xs ++ Lib.runeCells p) ∧ Below B w w' := by
  have hc : Hid (Lib.runeCells p = [.int .u8 (224 + p / 4096), .int .u8 (128 + p / 64 % 64), .int .u8 (128 + p % 64)]) := by
    show _ = _
    unfold Lib.runeCells
    rw [Lib.encodeRuneZ_three (by omega)]
    rfl
  have o0 := or224 (y := p / 4096) (by omega) (by omega)
  have o1 := or128 (y := p / 64 % 64) (by omega) (by omega)
  have o2 := or128 (y := p % 64) (by omega) (by omega)
  have a0 := and63 (x := p) (by omega) (by omega)
  have a1 := and63 (x := p / 64) (by omega) (by omega)
  go_enter Tryd.func37, Tryd.ntmps37
  go_wp2_with (at_builtin; refine app_news rfl _ _ _ rfl B 5 _ 1 Tryd.underlying22 infoByte rfl _ _ _ rfl (by exact hown) 3 rfl rfl ?c0 ?c1 ?c2 hB ?_)
  case c0 => simp [Value.oneCell']
  case c1 => unfold maxLen; omega
  case c2 => omega
  intro v' w1 hown1 _ hb1
  go_wp2
  go_ret
  refine ⟨v', rfl, ?_, hb1⟩
  rw [hc.out]
  simpa using hown1
set_option maxRecDepth 100000 in
set_option maxHeartbeats 1000000 in
theorem put_four (B : Nat) (v : Value) (n : Nat) (xs : List Value) (p : Int) (h0 : 65536 ≤ p) (h1 : p ≤ 1114111) (hn : n ≤ 8000000000) (w : World) (hown : w.ownsRow B 5 1 v n xs) (hB : B ≤ w.heap.size) :
    Calls Tryd.prog 37 #[v, .int .i64 p] w fun e w' => ∃ v', e = .returned v' ∧ w'.ownsRow B 5 1 v' (n + (Lib.runeCells p).length) (xs ++ Lib.runeCells p) ∧ Below B w w' := by
  have hc : Hid (Lib.runeCells p = [.int .u8 (240 + p / 262144), .int .u8 (128 + p / 4096 % 64), .int .u8 (128 + p / 64 % 64), .int .u8 (128 + p % 64)]) := by
    show _ = _
    unfold Lib.runeCells
    rw [Lib.encodeRuneZ_four h0 h1]
    rfl
  have o0 := or240 (y := p / 262144) (by omega) (by omega)
  have o1 := or128 (y := p / 4096 % 64) (by omega) (by omega)
  have o2 := or128 (y := p / 64 % 64) (by omega) (by omega)
  have o3 := or128 (y := p % 64) (by omega) (by omega)
  have a0 := and63 (x := p) (by omega) (by omega)
  have a1 := and63 (x := p / 64) (by omega) (by omega)
  have a2 := and63 (x := p / 4096) (by omega) (by omega)
  go_enter Tryd.func37, Tryd.ntmps37
  go_wp2_with (at_builtin; refine app_news rfl _ _ _ rfl B 5 _ 1 Tryd.underlying22 infoByte rfl _ _ _ rfl (by exact hown) 4 rfl rfl ?c0 ?c1 ?c2 hB ?_)
  case c0 => simp [Value.oneCell']
  case c1 => unfold maxLen; omega
  case c2 => omega
  intro v' w1 hown1 _ hb1
  go_wp2
  go_ret
  refine ⟨v', rfl, ?_, hb1⟩
  rw [hc.out]
  simpa using hown1
theorem right_iff (p : Int) : right p = true ↔ 0 ≤ p ∧ p ≤ 1114111 ∧ (p < 55296 ∨ 57343 < p) := by unfold right; exact decide_eq_true_iff
theorem put_any (B : Nat) (v : Value) (n : Nat) (xs : List Value) (p : Int) (h : right p = true) (hn : n ≤ 8000000000) (w : World) (hown : w.ownsRow B 5 1 v n xs) (hB : B ≤ w.heap.size) :
    Calls Tryd.prog 37 #[v, .int .i64 p] w fun e w' => ∃ v', e = .returned v' ∧ w'.ownsRow B 5 1 v' (n + (Lib.runeCells p).length) (xs ++ Lib.runeCells p) ∧ Below B w w' := by
  obtain ⟨h0, h1, h2⟩ := (right_iff p).1 h
  by_cases c1 : p < 128
  · exact put_one B v n xs p h0 c1 hn w hown hB
  · by_cases c2 : p < 2048
    · exact put_two B v n xs p (by omega) c2 hn w hown hB
    · by_cases c3 : p < 65536
      · exact put_three B v n xs p (by omega) c3 h2 hn w hown hB
      · exact put_four B v n xs p (by omega) h1 hn w hown hB
end Go.Proofs.YtohjcimkpcpgbaaDoor

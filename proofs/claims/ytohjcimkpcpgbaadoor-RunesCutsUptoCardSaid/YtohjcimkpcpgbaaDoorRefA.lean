/- The answers' own functions on pieces: where they begin, their points, are they good, how many. -/
import Derived.Test.YtohjcimkpcpgbaaDoorPiece
import Derived.Test.YtohjcimkpcpgbaaDoorRow
import Derived.Deep.QuietTactic
import Derived.BigQuiet
namespace Go.Proofs.YtohjcimkpcpgbaaDoor
open Go Go.RowKit

theorem infoInt : (Tryd.prog.info? 3).map (fun i => (i.zero, i.size, i.bytes)) = some (some (.int .i64 0), 1, 8) := by kernel_rfl
theorem infoByte : (Tryd.prog.info? 5).map (fun i => (i.zero, i.size, i.bytes)) = some (some (.int .u8 0), 1, 1) := by kernel_rfl
/-- Natural numbers as cells. -/
def cellsN (l : List Nat) : List Value := l.map fun (n : Nat) => .int .i64 (n : Int)
theorem cellsN_length (l : List Nat) : (cellsN l).length = l.length := by unfold cellsN; rw [List.length_map]
theorem cellsN_snoc (l : List Nat) (n : Nat) : cellsN (l ++ [n]) = cellsN l ++ [.int .i64 (n : Int)] := by unfold cellsN; rw [List.map_append]; rfl

set_option maxHeartbeats 1000000 in
set_option maxRecDepth 100000 in
theorem refStarts_any (s : ByteArray) (hm : s.size ≤ 1000000000) (w : World) :
    Calls Tryd.prog 41 #[.string s] w fun e w' => ∃ v, e = .returned v ∧ w'.ownsRow w.heap.size 3 1 v (st s 0 ++ [s.size]).length (cellsN (st s 0 ++ [s.size])) ∧ Below w.heap.size w w' := by
  have hml : s.size ≤ maxLen := by unfold maxLen; omega
  go_enter Tryd.func41, Tryd.ntmps41
  go_wp2
  go_loopw [3, 4] (fun v i wr => ∃ (pos : Nat) (pre : List Nat), i = .int .i64 pos ∧ pos ≤ s.size ∧ pre ++ st s pos = st s 0 ∧ wr.ownsRow w.heap.size 3 1 v pre.length (cellsN pre) ∧ Below w.heap.size w wr) (fun _ i _ => s.size - (intOf i).toNat)
  case atStart => exact ⟨0, [], rfl, Nat.zero_le _, rfl, World.ownsRow_nil _ _ _ _, Below.refl _ _⟩
  case round =>
    obtain ⟨pos, pre, rfl, hp, he, hown, hb⟩ := hrel
    by_cases hlt : pos < s.size
    · have hl := congrArg List.length he
      rw [List.length_append] at hl
      have hz := st_len s 0
      have hlen : pre.length ≤ 1000000000 := by omega
      have hw := wid s pos hlt
      have hf := dec_fits s pos hlt
      have He := Lib.hid he
      clear he hl
      go_wp2_with (at_builtin; go_loud (refine app_one rfl _ _ _ rfl w.heap.size 3 _ 8 Tryd.underlying23 infoInt rfl _ _ _ rfl (by exact hown) rfl rfl ?c1 ?c2 ?c3 ?_))
      case c1 => unfold maxLen; omega
      case c2 => omega
      case c3 => exact hb.size
      intro v' w1 hown1 hg1 hb1
      go_wp2_with (go_at_call 40; refine (piece_any s pos hlt hml _).mono ?_; rintro e w' ⟨rfl, rfl⟩)
      go_roundw
      case rel => exact ⟨pos + (Utf8.decode s pos).2, pre ++ [pos], by go_num, hf.1, by rw [List.append_assoc, ← He.out, st_cons s pos hlt]; rfl, by rw [cellsN_snoc, List.length_append]; exact hown1, hb.trans hb1⟩
      case measure => simp [intOf]; omega
    · have hpe : pos = s.size := by omega
      subst hpe
      rw [st_nil s _ hlt, List.append_nil] at he
      have hz := st_len s 0
      have hlen : pre.length ≤ 1000000000 := by rw [he]; omega
      have He := Lib.hid he
      clear he
      go_wp2_with (at_builtin; refine app_one rfl _ _ _ rfl w.heap.size 3 _ 8 Tryd.underlying23 infoInt rfl _ _ _ rfl (by exact hown) rfl rfl ?c1 ?c2 ?c3 ?_)
      case c1 => unfold maxLen; omega
      case c2 => omega
      case c3 => exact hb.size
      intro v' w1 hown1 hg1 hb1
      go_wp2
      go_ret
      exact ⟨v', rfl, by rw [cellsN_snoc, List.length_append, ← He.out]; exact hown1, hb.trans hb1⟩

/-- Where the pieces begin is no place behind the end. -/
theorem pts_small (s : ByteArray) (pos : Nat) : ∀ p ∈ pts s pos, p ≤ 1114111 := by
  intro p hp
  unfold pts at hp
  obtain ⟨x, _, rfl⟩ := List.mem_map.1 hp
  exact (dec_point s x).1

set_option maxHeartbeats 1000000 in
set_option maxRecDepth 100000 in
theorem refPoints_any (s : ByteArray) (hm : s.size ≤ 1000000000) (w : World) :
    Calls Tryd.prog 18 #[.string s] w fun e w' => ∃ v, e = .returned v ∧ w'.ownsRow w.heap.size 3 1 v (pts s 0).length (cellsN (pts s 0)) ∧ Below w.heap.size w w' := by
  have hml : s.size ≤ maxLen := by unfold maxLen; omega
  go_enter Tryd.func18, Tryd.ntmps18
  go_wp2
  go_loopw [3, 4] (fun v i wr => ∃ (pos : Nat) (pre : List Nat), i = .int .i64 pos ∧ pos ≤ s.size ∧ pre ++ pts s pos = pts s 0 ∧ wr.ownsRow w.heap.size 3 1 v pre.length (cellsN pre) ∧ Below w.heap.size w wr) (fun _ i _ => s.size - (intOf i).toNat)
  case atStart => exact ⟨0, [], rfl, Nat.zero_le _, rfl, World.ownsRow_nil _ _ _ _, Below.refl _ _⟩
  case round =>
    obtain ⟨pos, pre, rfl, hp, he, hown, hb⟩ := hrel
    by_cases hlt : pos < s.size
    · have hl := congrArg List.length he
      rw [List.length_append] at hl
      have hz := pts_len s 0
      have hlen : pre.length ≤ 1000000000 := by omega
      have hw := wid s pos hlt
      have hf := dec_fits s pos hlt
      have He := Lib.hid he
      clear he hl
      go_wp2_with (first | (go_at_call 40; refine (piece_any s pos hlt hml _).mono ?_; rintro e w' ⟨rfl, rfl⟩) | (at_builtin; refine app_one rfl _ _ _ rfl w.heap.size 3 _ 8 Tryd.underlying23 infoInt rfl _ _ _ rfl (by exact hown) rfl rfl ?c1 ?c2 ?c3 ?_))
      case c1 => unfold maxLen; omega
      case c2 => omega
      case c3 => exact hb.size
      intro v' w1 hown1 hg1 hb1
      go_wp2
      go_roundw
      case rel => exact ⟨pos + (Utf8.decode s pos).2, pre ++ [(Utf8.decode s pos).1], by go_num, hf.1, by rw [List.append_assoc, ← He.out, pts_cons s pos hlt]; rfl, by rw [cellsN_snoc, List.length_append]; exact hown1, hb.trans hb1⟩
      case measure => simp [intOf]; omega
    · rw [pts_nil s _ hlt, List.append_nil] at he
      have He := Lib.hid he
      clear he
      go_wp2
      go_ret
      exact ⟨_, rfl, by rw [← He.out]; exact hown, hb⟩

set_option maxHeartbeats 1000000 in
set_option maxRecDepth 100000 in
theorem refValid_any (s : ByteArray) (hm : s.size ≤ 1000000000) (w : World) :
    Calls Tryd.prog 13 #[.string s] w fun e w' => e = .returned (.bool (allGood s 0)) ∧ w = w' := by
  have hml : s.size ≤ maxLen := by unfold maxLen; omega
  go_enter Tryd.func13, Tryd.ntmps13
  go_wp2
  go_loop [3] (fun i => ∃ (pos : Nat), i = .int .i64 pos ∧ pos ≤ s.size ∧ allGood s pos = allGood s 0) (fun i => s.size - (intOf i).toNat)
  case atStart => exact ⟨0, rfl, Nat.zero_le _, rfl⟩
  case round =>
    obtain ⟨pos, rfl, hp, he⟩ := hrel
    by_cases hlt : pos < s.size
    · have hw := wid s pos hlt
      have hf := dec_fits s pos hlt
      rw [allGood_cons s pos hlt] at he
      cases hgd : good s pos
      · rw [hgd, Bool.false_and] at he
        have He := Lib.hid he
        clear he
        go_wp2_with (go_at_call 40; refine (piece_any s pos hlt hml _).mono ?_; rintro e w' ⟨rfl, rfl⟩)
        go_ret
        exact ⟨by rw [← He.out]; rfl, rfl⟩
      · rw [hgd, Bool.true_and] at he
        have He := Lib.hid he
        clear he
        go_wp2_with (go_at_call 40; refine (piece_any s pos hlt hml _).mono ?_; rintro e w' ⟨rfl, rfl⟩)
        go_round
        case rel => exact ⟨pos + (Utf8.decode s pos).2, by go_num, hf.1, He.out⟩
        case measure => simp [intOf]; omega
    · rw [allGood_nil s pos hlt] at he
      have He := Lib.hid he
      clear he
      go_wp2
      go_ret
      exact ⟨by rw [← He.out]; rfl, rfl⟩

set_option maxHeartbeats 400000 in
theorem refCount_any (s : ByteArray) (hm : s.size ≤ 1000000000) (w : World) :
    Calls Tryd.prog 15 #[.string s] w fun e w' => e = .returned (.int .i64 (st s 0).length) ∧ Below w.heap.size w w' := by
  have hz := st_len s 0
  go_enter Tryd.func15, Tryd.ntmps15
  go_wp2_with (go_at_call 41; refine (refStarts_any s hm _).mono ?_; rintro e w' ⟨v, rfl, hown, hb⟩; obtain ⟨A, c, rfl⟩ := own_form hown)
  go_ret
  exact ⟨by simp, hb⟩

/-- Numbers as cells. -/
def cellsI (l : List Int) : List Value := l.map fun (n : Int) => .int .i64 n
theorem cellsI_length (l : List Int) : (cellsI l).length = l.length := by unfold cellsI; rw [List.length_map]
theorem cellsI_at (l : List Int) (k : Nat) (h : k < l.length) : ∃ x, l[k]? = some x ∧ (cellsI l)[k]? = some (.int .i64 x) := by
  refine ⟨l[k], List.getElem?_eq_getElem h, ?_⟩
  unfold cellsI
  rw [List.getElem?_map, List.getElem?_eq_getElem h]
  rfl

set_option maxHeartbeats 1000000 in
theorem refInts_any (l m : List Int) (B C : Nat) (a b : Value) (hl : l.length ≤ 1000000000) (w : World) (ha : Arr w B a (cellsI l)) (hb : Arr w C b (cellsI m)) :
    Calls Tryd.prog 16 #[a, b] w fun e w' => e = .returned (.bool (decide (l = m))) ∧ ∃ n, w' = w.drewN n := by
  obtain ⟨A, c, rfl, ha⟩ := ha
  obtain ⟨D, d, rfl, hb⟩ := hb
  simp only [cellsI_length] at *
  by_cases hlen : l.length = m.length
  · have heq : ((l.length : Int) == (m.length : Int)) = true := by simp; omega
    have heq2 : ((l.length : Int) != (m.length : Int)) = false := by simp; omega
    have Hlen := Lib.hid hlen
    clear hlen
    go_enter Tryd.func16, Tryd.ntmps16
    go_wp2
    clear heq heq2
    go_loopw [5] (fun i wr => ∃ k : Nat, i = .int .i64 k ∧ k ≤ l.length ∧ l.take k = m.take k ∧ ∃ n, wr = w.drewN n) (fun i _ => l.length - (intOf i).toNat)
    case atStart => exact ⟨0, rfl, Nat.zero_le _, by simp, 0, rfl⟩
    case round =>
      obtain ⟨k, rfl, hk, he, n, rfl⟩ := hrel
      have He := Lib.hid he
      clear he
      by_cases hlt : k < l.length
      · have hlt2 : k < m.length := by rw [← Hlen.out]; exact hlt
        obtain ⟨ad, rfl, hB, hc⟩ := ha (by omega)
        obtain ⟨ae, rfl, hC, hd⟩ := hb (by omega)
        obtain ⟨x, e1, ex⟩ := cellsI_at l k hlt
        obtain ⟨y, e2, ey⟩ := cellsI_at m k hlt2
        have h1 := hc k _ ex
        have h2 := hd k _ ey
        have E1 := Lib.hid e1
        have E2 := Lib.hid e2
        clear hc hd ha hb e1 e2 ex ey
        have i0 : (0 : Int) ≤ (k : Int) := by omega
        have i1 : (k : Int) < (l.length : Int) := by omega
        have i2 : (k : Int) < (m.length : Int) := by omega
        by_cases hq : x = y
        · subst hq
          go_wp2
          go_quiet (fail)
          go_wp2
          refine ⟨?_, by simp [intOf]; omega⟩
          refine ⟨k + 1, by go_num, by omega, ?_, _, rfl⟩
          rw [List.take_add_one, List.take_add_one, He.out, E1.out, E2.out]
        · have q1 : (x == y) = false := by simpa using hq
          have q2 : (x != y) = true := by simpa using hq
          have Hq := Lib.hid hq
          clear hq
          go_wp2
          go_quiet (fail)
          go_wp2
          go_ret
          refine ⟨?_, _, World.drewN_drewN _ _ _⟩
          rw [decide_eq_false (fun h => Hq.out (by have := E1.out; rw [h, E2.out] at this; injection this with h; exact h.symm))]
          rfl
      · have hk2 : k = l.length := by omega
        have Hk := Lib.hid hk2
        clear hk2
        go_wp2
        go_ret
        refine ⟨?_, n, rfl⟩
        have h1 := He.out
        rw [Hk.out, List.take_length, Hlen.out, List.take_length] at h1
        rw [decide_eq_true h1]
        rfl
  · have hne : ((l.length : Int) == (m.length : Int)) = false := by simp; omega
    have hne2 : ((l.length : Int) != (m.length : Int)) = true := by simp; omega
    go_enter Tryd.func16, Tryd.ntmps16
    go_wp2
    go_ret
    exact ⟨by rw [decide_eq_false (fun h => hlen (by rw [h]))]; rfl, 0, rfl⟩
end Go.Proofs.YtohjcimkpcpgbaaDoor

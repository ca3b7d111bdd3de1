/- The answers' At and Find. -/
import Derived.Test.YtohjcimkpcpgbaaDoorRefD
namespace Go.Proofs.YtohjcimkpcpgbaaDoor
open Go Go.RowKit Go.WideShapes

/-- Do a part's bytes stand at a byte. -/
def stands (s : ByteArray) (i : Nat) (p : ByteArray) : Bool := Lib.hasPrefix (s.data.toList.drop i) p.data.toList
theorem stands_eq (s p : ByteArray) (i : Nat) (h : i + p.size ≤ s.size) : ((s.extract i (i + p.size)).toList == p.toList) = stands s i p := by
  unfold stands
  rw [← Lib.hasPrefix_of_take, ByteArray.toList_eq, ByteArray.toList_eq, Lib.extract_data]
  have h1 : p.data.toList.length = p.size := by rw [Array.length_toList]; rfl
  have h2 : (s.data.toList.drop i).length = s.size - i := by rw [List.length_drop, Array.length_toList]; rfl
  rw [h1, h2, decide_eq_true (by omega : p.size ≤ s.size - i), Bool.true_and, show i + p.size - i = p.size from by omega]
theorem stands_le {s p : ByteArray} {i : Nat} (h : stands s i p = true) : p.size ≤ s.size - i := by
  unfold stands at h
  rw [← Lib.hasPrefix_of_take, Bool.and_eq_true, decide_eq_true_iff] at h
  have h1 : p.data.toList.length = p.size := by rw [Array.length_toList]; rfl
  have h2 : (s.data.toList.drop i).length = s.size - i := by rw [List.length_drop, Array.length_toList]; rfl
  omega

set_option maxHeartbeats 1000000 in
theorem refAt_any (s : ByteArray) (i : Nat) (p : ByteArray) (hm : s.size ≤ 1000000000) (hi : i ≤ s.size) (hp : p.size ≤ 1000000000) (w : World) :
    Calls Tryd.prog 45 #[.string s, .int .i64 i, .string p] w fun e w' => e = .returned (.bool (stands s i p)) ∧ w = w' := by
  by_cases h : i + p.size ≤ s.size
  · have h1 : (p.size : Int) ≤ (s.size : Int) - (i : Int) := by omega
    rw [← stands_eq s p i h]
    have j0 : (0 : Int) ≤ (i : Int) := by omega
    have j1 : (i : Int) ≤ (i : Int) + (p.size : Int) := by omega
    have j2 : (i : Int) + (p.size : Int) ≤ (s.size : Int) := by omega
    have j3 : ((i : Int) + (p.size : Int)).toNat = i + p.size := by omega
    go_enter Tryd.func45, Tryd.ntmps45
    go_wp2
    go_ret
    exact ⟨rfl, rfl⟩
  · have h1 : (s.size : Int) - (i : Int) < (p.size : Int) := by omega
    have hs : stands s i p = false := by
      cases hst : stands s i p
      · rfl
      · have := stands_le hst; omega
    rw [hs]
    clear hs
    go_enter Tryd.func45, Tryd.ntmps45
    go_wp2
    go_ret
    exact ⟨rfl, rfl⟩

/-- The numbers of the pieces at whose first byte a part stands. -/
def findS (s p : ByteArray) : List Nat := if p.size = 0 then [] else (List.range (st s 0).length).filter fun k => stands s (atP s k) p
theorem findS_len (s p : ByteArray) : (findS s p).length ≤ s.size := by
  unfold findS
  split
  · simp
  · refine Nat.le_trans (List.length_filter_le _ _) ?_
    rw [List.length_range]
    exact st_len s 0
def findTo (s p : ByteArray) (k : Nat) : List Nat := (List.range k).filter fun k => stands s (atP s k) p
theorem findTo_len (s p : ByteArray) (k : Nat) : (findTo s p k).length ≤ k := by
  unfold findTo
  refine Nat.le_trans (List.length_filter_le _ _) ?_
  rw [List.length_range]
  exact Nat.le_refl _
theorem findTo_yes {s p : ByteArray} {k : Nat} (h : stands s (atP s k) p = true) : findTo s p (k + 1) = findTo s p k ++ [k] := by
  unfold findTo; rw [List.range_succ, List.filter_append]; simp [h]
theorem findTo_no {s p : ByteArray} {k : Nat} (h : stands s (atP s k) p = false) : findTo s p (k + 1) = findTo s p k := by
  unfold findTo; rw [List.range_succ, List.filter_append]; simp [h]
theorem findS_none {s p : ByteArray} (h : p.size = 0) : findS s p = [] := if_pos h
theorem findS_all {s p : ByteArray} (h : ¬ p.size = 0) : findS s p = findTo s p (st s 0).length := if_neg h
theorem nonempty_list {s : ByteArray} (h : ¬ s.size = 0) : s.toList.isEmpty = false := by
  rw [List.isEmpty_eq_false_iff, ByteArray.toList_eq]
  intro h2
  apply h
  have := congrArg List.length h2
  rw [Array.length_toList] at this
  exact this
theorem empty_list2 {s : ByteArray} (h : s.size = 0) : s.toList.isEmpty = true := by
  rw [List.isEmpty_iff, ByteArray.toList_eq]
  exact List.eq_nil_of_length_eq_zero (by rw [Array.length_toList]; exact h)

set_option maxRecDepth 100000 in
set_option maxHeartbeats 1000000 in
theorem refFind_any (s p : ByteArray) (hm : s.size ≤ 1000000000) (hp : p.size ≤ 1000000000) (w : World) :
    Calls Tryd.prog 23 #[.string s, .string p] w fun e w' => ∃ v, e = .returned v ∧ w'.ownsRow w.heap.size 3 1 v (findS s p).length (cellsN (findS s p)) ∧ Below w.heap.size w w' := by
  have hz := st_len s 0
  have hrow := atP_row s
  obtain ⟨n, hn⟩ : ∃ n, (st s 0).length = n := ⟨_, rfl⟩
  rw [hn] at hz hrow
  have Hn := Lib.hid hn
  have Hrow := Lib.hid hrow
  clear hn hrow
  have hlen1 : (cellsN (st s 0 ++ [s.size])).length = n + 1 := by rw [cellsN_length, List.length_append, Hn.out]; rfl
  have Hlen1 := Lib.hid hlen1
  clear hlen1
  by_cases he : p.size = 0
  · rw [findS_none he]
    have e1 := empty_list2 he
    clear he
    go_enter Tryd.func23, Tryd.ntmps23
    go_wp2_with (go_at_call 41; refine (refStarts_any s hm _).mono ?_; rintro e w1 ⟨v, rfl, hown, hb1⟩; rw [List.length_append, Hn.out] at hown; obtain ⟨A, c, rfl⟩ := own_form hown)
    refine wp_loop_rounds 1 ?_
    rw [rounds_succ]
    go_wp2
    all_goals go_ret
    all_goals exact ⟨_, rfl, World.ownsRow_nil _ _ _ _, hb1⟩
  · rw [findS_all he, Hn.out]
    have e1 := nonempty_list he
    clear he
    go_enter Tryd.func23, Tryd.ntmps23
    go_wp2_with (go_at_call 41; refine (refStarts_any s hm _).mono ?_; rintro e w1 ⟨v, rfl, hown, hb1⟩; rw [List.length_append, Hn.out] at hown; have hArr := Arr.of_own hown (Nat.le_refl _); obtain ⟨A, c, rfl⟩ := own_form hown)
    obtain ⟨A', c', hAc, hcells⟩ := hArr
    rw [Hlen1.out] at hAc hcells
    injection hAc with hA1 hA2 hA3
    subst hA1
    subst hA3
    obtain ⟨ad, rfl, hadB, hcell⟩ := hcells (by omega)
    have Hcell := Lib.hid hcell
    clear hcell hcells hown
    go_loopw [6, 7] (fun b i wr => ∃ k : Nat, i = .int .i64 k ∧ k ≤ n ∧ wr.ownsRow w1.heap.size 3 1 b (findTo s p k).length (cellsN (findTo s p k)) ∧ Below w1.heap.size w1 wr) (fun _ i _ => n - (intOf i).toNat)
    case atStart => exact ⟨0, rfl, Nat.zero_le _, World.ownsRow_nil _ _ _ _, Below.refl _ _⟩
    case round =>
      obtain ⟨k, rfl, hk, hown, hb⟩ := hrel
      by_cases hlt : k < n
      · have c1 : wr.cell? (ad.add k) = some (.int .i64 (atP s k : Int)) := by
          rw [hb.cell (p := ad.add k) (by rw [add_block]; exact hadB)]
          exact Hcell.out k _ (Hrow.out k (by omega))
        have hat := atP_le s k
        have hfl := findTo_len s p k
        have i0 : (0 : Int) ≤ (k : Int) := by omega
        have i1 : (k : Int) < (n : Int) + 1 := by omega
        have i2 : (k : Int) < (n : Int) := by omega
        obtain ⟨q, hq⟩ : ∃ q, atP s k = q := ⟨_, rfl⟩
        cases hst : stands s (atP s k) p
        · have HF := Lib.hid (findTo_no hst)
          rw [hq] at c1 hat hst
          have Hq := Lib.hid hq
          clear hq
          go_wp2_with (go_at_call 45; refine (refAt_any s q p hm hat hp _).mono ?_; rintro e w' ⟨rfl, rfl⟩)
          go_roundw
          case rel => exact ⟨k + 1, by go_num, by omega, by rw [HF.out]; exact hown, hb⟩
          case measure => simp [intOf]; omega
        · have HF := Lib.hid (findTo_yes hst)
          rw [hq] at c1 hat hst
          have Hq := Lib.hid hq
          clear hq
          go_wp2_with (first
            | (go_at_call 45; refine (refAt_any s q p hm hat hp _).mono ?_; rintro e w' ⟨rfl, rfl⟩)
            | (at_builtin; refine app_one rfl _ _ _ rfl w1.heap.size 3 _ 8 Tryd.underlying23 infoInt rfl _ _ _ rfl (by exact hown) rfl rfl ?c1 ?c2 ?c3 ?_))
          case c1 => unfold maxLen; omega
          case c2 => omega
          case c3 => exact hb.size
          intro v' w2 hown1 hg1 hb2
          go_wp2
          go_roundw
          case rel => exact ⟨k + 1, by go_num, by omega, by rw [HF.out, cellsN_snoc, List.length_append]; exact hown1, hb.trans hb2⟩
          case measure => simp [intOf]; omega
      · obtain rfl : k = n := by omega
        go_wp2
        go_ret
        refine ⟨_, rfl, ?_, hb1.trans (hb.mono hb1.size)⟩
        exact own_lower hown hb1.size
end Go.Proofs.YtohjcimkpcpgbaaDoor

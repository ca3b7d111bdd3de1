/- The answers' Split. -/
import Derived.Test.YtohjcimkpcpgbaaDoorRefE
namespace Go.Proofs.YtohjcimkpcpgbaaDoor
open Go Go.RowKit Go.WideShapes

theorem infoStr : (Tryd.prog.info? 9).map (fun i => (i.zero, i.size, i.bytes)) = some (some (.string ⟨#[]⟩), 1, 16) := by kernel_rfl
/-- The parts of a text between where another stands, from a place on, the part that is going on having begun at 'a'. -/
def spF (s p : ByteArray) : Nat → Nat → Nat → List ByteArray
  | 0, a, _ => [s.extract a s.size]
  | f + 1, a, i => if i < s.size then (if stands s i p then s.extract a i :: spF s p f (i + p.size) (i + p.size) else spF s p f a (i + 1)) else [s.extract a s.size]
def sp (s p : ByteArray) (a i : Nat) : List ByteArray := spF s p (s.size - i) a i
theorem spF_more (s p : ByteArray) (hp : 0 < p.size) : ∀ (f g a i : Nat), s.size - i ≤ f → s.size - i ≤ g → spF s p f a i = spF s p g a i := by
  intro f
  induction f with
  | zero =>
    intro g a i h1 _
    cases g with
    | zero => rfl
    | succ g => simp only [spF]; rw [if_neg (by omega)]
  | succ f ih =>
    intro g a i h1 h2
    by_cases hi : i < s.size
    · cases g with
      | zero => omega
      | succ g =>
        simp only [spF]
        rw [if_pos hi, if_pos hi]
        by_cases hs : stands s i p = true
        · rw [if_pos hs, if_pos hs, ih g _ _ (by omega) (by omega)]
        · rw [if_neg hs, if_neg hs, ih g _ _ (by omega) (by omega)]
    · cases g with
      | zero => simp only [spF]; rw [if_neg hi]
      | succ g => simp only [spF]; rw [if_neg hi, if_neg hi]
theorem sp_hit {s p : ByteArray} (hp : 0 < p.size) {a i : Nat} (hi : i < s.size) (h : stands s i p = true) : sp s p a i = s.extract a i :: sp s p (i + p.size) (i + p.size) := by
  unfold sp
  obtain ⟨f, hf⟩ : ∃ f, s.size - i = f + 1 := ⟨s.size - i - 1, by omega⟩
  rw [hf]
  simp only [spF]
  rw [if_pos hi, if_pos h, spF_more s p hp f (s.size - (i + p.size)) _ _ (by omega) (by omega)]
theorem sp_miss {s p : ByteArray} (hp : 0 < p.size) {a i : Nat} (hi : i < s.size) (h : stands s i p = false) : sp s p a i = sp s p a (i + 1) := by
  unfold sp
  obtain ⟨f, hf⟩ : ∃ f, s.size - i = f + 1 := ⟨s.size - i - 1, by omega⟩
  rw [hf]
  simp only [spF]
  rw [if_pos hi, if_neg (by simp [h]), spF_more s p hp f (s.size - (i + 1)) _ _ (by omega) (by omega)]
theorem sp_end {s p : ByteArray} {a i : Nat} (hi : ¬ i < s.size) : sp s p a i = [s.extract a s.size] := by
  unfold sp
  rw [show s.size - i = 0 from by omega]
  rfl
theorem spF_len (s p : ByteArray) (_hp : 0 < p.size) : ∀ (f a i : Nat), (spF s p f a i).length ≤ f + 1 := by
  intro f
  induction f with
  | zero => intro a i; simp [spF]
  | succ f ih =>
    intro a i
    simp only [spF]
    split
    · split
      · have := ih (i + p.size) (i + p.size); rw [List.length_cons]; omega
      · have := ih a (i + 1); omega
    · simp
theorem sp_len (s p : ByteArray) (hp : 0 < p.size) (a i : Nat) : (sp s p a i).length ≤ s.size - i + 1 := spF_len s p hp _ a i
/-- The pieces, each by itself, up to number k. -/
def piecesTo (s : ByteArray) (k : Nat) : List ByteArray := (List.range k).map fun j => s.extract (atP s j) (atP s (j + 1))
theorem piecesTo_len (s : ByteArray) (k : Nat) : (piecesTo s k).length = k := by unfold piecesTo; rw [List.length_map, List.length_range]
theorem piecesTo_snoc (s : ByteArray) (k : Nat) : piecesTo s (k + 1) = piecesTo s k ++ [s.extract (atP s k) (atP s (k + 1))] := by unfold piecesTo; rw [List.range_succ, List.map_append]; rfl
/-- What Split gives. -/
def splitS (s p : ByteArray) : List ByteArray := if p.size = 0 then piecesTo s (st s 0).length else if s.size = 0 then [] else sp s p 0 0
theorem split_pieces {s p : ByteArray} (h : p.size = 0) : splitS s p = piecesTo s (st s 0).length := if_pos h
theorem split_none {s p : ByteArray} (h : ¬ p.size = 0) (h2 : s.size = 0) : splitS s p = [] := by unfold splitS; rw [if_neg h, if_pos h2]
theorem split_parts {s p : ByteArray} (h : ¬ p.size = 0) (h2 : ¬ s.size = 0) : splitS s p = sp s p 0 0 := by unfold splitS; rw [if_neg h, if_neg h2]

set_option maxRecDepth 100000 in
set_option maxHeartbeats 1000000 in
theorem refSplit_parts (s p : ByteArray) (hm : s.size ≤ 1000000000) (hp : p.size ≤ 1000000000) (h1 : ¬ p.size = 0) (w : World) :
    Calls Tryd.prog 26 #[.string s, .string p] w fun e w' => ∃ v, e = .returned v ∧ w'.ownsRow w.heap.size 9 1 v (splitS s p).length (cellsT (splitS s p)) ∧ Below w.heap.size w w' := by
  have e1 := nonempty_list h1
  by_cases h2 : s.size = 0
  · rw [split_none h1 h2]
    have e2 := empty_list2 h2
    clear h2
    go_enter Tryd.func26, Tryd.ntmps26
    go_wp2
    go_ret
    exact ⟨_, rfl, World.ownsRow_nil _ _ _ _, Below.refl _ _⟩
  · rw [split_parts h1 h2]
    have e2 := nonempty_list h2
    have hz := sp_len s p (by omega) 0 0
    go_enter Tryd.func26, Tryd.ntmps26
    go_wp2
    go_loopw [5, 8, 9] (fun v a i wr => ∃ (aN iN : Nat) (pre : List ByteArray), a = .int .i64 aN ∧ i = .int .i64 iN ∧ aN ≤ iN ∧ iN ≤ s.size ∧ pre ++ sp s p aN iN = sp s p 0 0 ∧ wr.ownsRow w.heap.size 9 1 v pre.length (cellsT pre) ∧ Below w.heap.size w wr) (fun _ _ i _ => s.size - (intOf i).toNat)
    case atStart => exact ⟨0, 0, [], rfl, rfl, Nat.le_refl _, Nat.zero_le _, rfl, World.ownsRow_nil _ _ _ _, Below.refl _ _⟩
    case round =>
      obtain ⟨aN, iN, pre, rfl, rfl, hai, his, he, hown, hb⟩ := hrel
      have hl := congrArg List.length he
      rw [List.length_append] at hl
      have hlen : pre.length ≤ 1000000001 := by omega
      clear hl
      by_cases hlt : iN < s.size
      · cases hst : stands s iN p
        · rw [sp_miss (by omega) hlt hst] at he
          have He := Lib.hid he
          clear he
          go_wp2_with (go_at_call 45; refine (refAt_any s iN p hm his hp _).mono ?_; rintro e w' ⟨rfl, rfl⟩)
          go_roundw
          case rel => exact ⟨aN, iN + 1, pre, rfl, by go_num, by omega, by omega, He.out, hown, hb⟩
          case measure => simp [intOf]; omega
        · have hle := stands_le hst
          rw [sp_hit (by omega) hlt hst] at he
          have He := Lib.hid he
          clear he
          go_wp2_with (first
            | (go_at_call 45; refine (refAt_any s iN p hm his hp _).mono ?_; rintro e w' ⟨rfl, rfl⟩)
            | (at_builtin; refine app_one rfl _ _ _ rfl w.heap.size 9 _ 16 Tryd.underlying39 infoStr rfl _ _ _ rfl (by exact hown) rfl rfl ?c1 ?c2 ?c3 ?_))
          case c1 => unfold maxLen; omega
          case c2 => omega
          case c3 => exact hb.size
          intro v' w2 hown1 hg1 hb2
          go_wp2
          go_roundw
          case rel => exact ⟨iN + p.size, iN + p.size, pre ++ [s.extract aN iN], by go_num, by go_num, Nat.le_refl _, by omega, by rw [List.append_assoc]; exact He.out, by rw [cellsT_snoc, List.length_append]; exact hown1, hb.trans hb2⟩
          case measure => simp [intOf]; omega
      · rw [sp_end hlt] at he
        have He := Lib.hid he
        clear he
        go_wp2_with (at_builtin; refine app_one rfl _ _ _ rfl w.heap.size 9 _ 16 Tryd.underlying39 infoStr rfl _ _ _ rfl (by exact hown) rfl rfl ?c1 ?c2 ?c3 ?_)
        case c1 => unfold maxLen; omega
        case c2 => omega
        case c3 => exact hb.size
        intro v' w2 hown1 hg1 hb2
        go_wp2
        go_ret
        exact ⟨_, rfl, by rw [← He.out, cellsT_snoc, List.length_append]; exact hown1, hb.trans hb2⟩
end Go.Proofs.YtohjcimkpcpgbaaDoor

/- The answers' functions on texts: the same texts, blanks, trimming, what stands at a byte. -/
import Derived.Test.YtohjcimkpcpgbaaDoorRefA
import Derived.Lib.Strings
import Derived.Lib.IndexBytes
namespace Go.Proofs.YtohjcimkpcpgbaaDoor
open Go Go.RowKit Go.WideShapes

/-- Texts as cells. -/
def cellsT (l : List ByteArray) : List Value := l.map fun (s : ByteArray) => .string s
theorem cellsT_length (l : List ByteArray) : (cellsT l).length = l.length := by unfold cellsT; rw [List.length_map]
theorem cellsT_snoc (l : List ByteArray) (s : ByteArray) : cellsT (l ++ [s]) = cellsT l ++ [.string s] := by unfold cellsT; rw [List.map_append]; rfl
theorem cellsT_at (l : List ByteArray) (k : Nat) (h : k < l.length) : ∃ x, l[k]? = some x ∧ (cellsT l)[k]? = some (.string x) := by
  refine ⟨l[k], List.getElem?_eq_getElem h, ?_⟩
  unfold cellsT
  rw [List.getElem?_map, List.getElem?_eq_getElem h]
  rfl

set_option maxHeartbeats 1000000 in
theorem refTexts_any (l m : List ByteArray) (B C : Nat) (a b : Value) (hl : l.length ≤ 1000000000) (w : World) (ha : Arr w B a (cellsT l)) (hb : Arr w C b (cellsT m)) :
    Calls Tryd.prog 24 #[a, b] w fun e w' => e = .returned (.bool (decide (l = m))) ∧ ∃ n, w' = w.drewN n := by
  obtain ⟨A, c, rfl, ha⟩ := ha
  obtain ⟨D, d, rfl, hb⟩ := hb
  simp only [cellsT_length] at *
  by_cases hlen : l.length = m.length
  · have heq : ((l.length : Int) == (m.length : Int)) = true := by simp; omega
    have heq2 : ((l.length : Int) != (m.length : Int)) = false := by simp; omega
    have Hlen := Lib.hid hlen
    clear hlen
    go_enter Tryd.func24, Tryd.ntmps24
    go_wp2
    clear heq heq2
    go_loopw [5] (fun i wr => ∃ k : Nat, i = .int .i64 k ∧ k ≤ l.length ∧ l.take k = m.take k ∧ ∃ n, wr = w.drewN n) (fun i _ => l.length - (intOf i).toNat)
    case atStart => exact ⟨0, rfl, Nat.zero_le _, by simp, 0, rfl⟩
    case round =>
      obtain ⟨k, rfl, hk, he, n, rfl⟩ := hrel
      have He := Lib.hid he
      clear he
      by_cases hlt : k < l.length
      · have hlt2 : k < m.length := by rw [← Hlen.out]; exact hlt
        obtain ⟨ad, rfl, hB, hc⟩ := ha (by omega)
        obtain ⟨ae, rfl, hC, hd⟩ := hb (by omega)
        obtain ⟨x, e1, ex⟩ := cellsT_at l k hlt
        obtain ⟨y, e2, ey⟩ := cellsT_at m k hlt2
        have h1 := hc k _ ex
        have h2 := hd k _ ey
        have E1 := Lib.hid e1
        have E2 := Lib.hid e2
        clear hc hd ha hb e1 e2 ex ey
        have i0 : (0 : Int) ≤ (k : Int) := by omega
        have i1 : (k : Int) < (l.length : Int) := by omega
        have i2 : (k : Int) < (m.length : Int) := by omega
        by_cases hq : x = y
        · subst hq
          go_wp2
          go_quiet (fail)
          go_wp2
          refine ⟨?_, by simp [intOf]; omega⟩
          refine ⟨k + 1, by go_num, by omega, ?_, _, rfl⟩
          rw [List.take_add_one, List.take_add_one, He.out, E1.out, E2.out]
        · have q1 : (x.toList == y.toList) = false := by
            rw [beq_eq_false_iff_ne, ByteArray.toList_eq, ByteArray.toList_eq]
            exact fun h => hq (bytes_inj h)
          have Hq := Lib.hid hq
          clear hq
          go_wp2
          go_quiet (fail)
          go_wp2
          go_ret
          refine ⟨?_, _, World.drewN_drewN _ _ _⟩
          rw [decide_eq_false (fun h => Hq.out (by have := E1.out; rw [h, E2.out] at this; injection this with h; exact h.symm))]
          rfl
      · have hk2 : k = l.length := by omega
        have Hk := Lib.hid hk2
        clear hk2
        go_wp2
        go_ret
        refine ⟨?_, n, rfl⟩
        have h1 := He.out
        rw [Hk.out, List.take_length, Hlen.out, List.take_length] at h1
        rw [decide_eq_true h1]
        rfl
  · have hne : ((l.length : Int) == (m.length : Int)) = false := by simp; omega
    have hne2 : ((l.length : Int) != (m.length : Int)) = true := by simp; omega
    go_enter Tryd.func24, Tryd.ntmps24
    go_wp2
    go_ret
    exact ⟨by rw [decide_eq_false (fun h => hlen (by rw [h]))]; rfl, 0, rfl⟩

set_option maxHeartbeats 400000 in
theorem isBlank_any (c : UInt8) (w : World) : Calls Tryd.prog 48 #[.int .u8 c.toNat] w fun e w' => e = .returned (.bool (blank c)) ∧ w = w' := by
  by_cases h1 : c.toNat = 32
  · have k1 : ((c.toNat : Int) == 32) = true := by simp; omega
    have hb : blank c = true := decide_eq_true (Or.inl h1)
    rw [hb]
    clear h1 hb
    go_enter Tryd.func48, Tryd.ntmps48
    go_wp2
    go_ret
    exact ⟨rfl, rfl⟩
  · have k1 : ((c.toNat : Int) == 32) = false := by simp; omega
    by_cases h2 : 9 ≤ c.toNat
    · by_cases h3 : c.toNat ≤ 13
      · have hb : blank c = true := decide_eq_true (Or.inr ⟨h2, h3⟩)
        rw [hb]
        clear h1 hb
        go_enter Tryd.func48, Tryd.ntmps48
        go_wp2
        go_ret
        exact ⟨by first | rfl | (simp; omega), rfl⟩
      · have hb : blank c = false := decide_eq_false (by omega)
        rw [hb]
        clear h1 hb
        go_enter Tryd.func48, Tryd.ntmps48
        go_wp2
        go_ret
        exact ⟨by first | rfl | (simp; omega), rfl⟩
    · have hb : blank c = false := decide_eq_false (by omega)
      rw [hb]
      clear h1 hb
      go_enter Tryd.func48, Tryd.ntmps48
      go_wp2
      go_ret
      exact ⟨by first | rfl | (simp; omega), rfl⟩
set_option maxHeartbeats 400000 in
theorem refBlank_any (c : UInt8) (w : World) : Calls Tryd.prog 49 #[.int .u8 c.toNat] w fun e w' => e = .returned (.bool (blank c)) ∧ w = w' := by
  by_cases h1 : c.toNat = 32
  · have k1 : ((c.toNat : Int) == 32) = true := by simp; omega
    have hb : blank c = true := decide_eq_true (Or.inl h1)
    rw [hb]
    clear h1 hb
    go_enter Tryd.func49, Tryd.ntmps49
    go_wp2
    go_ret
    exact ⟨rfl, rfl⟩
  · have k1 : ((c.toNat : Int) == 32) = false := by simp; omega
    by_cases h2 : 9 ≤ c.toNat
    · by_cases h3 : c.toNat ≤ 13
      · have hb : blank c = true := decide_eq_true (Or.inr ⟨h2, h3⟩)
        rw [hb]
        clear h1 hb
        go_enter Tryd.func49, Tryd.ntmps49
        go_wp2
        go_ret
        exact ⟨by first | rfl | (simp; omega), rfl⟩
      · have hb : blank c = false := decide_eq_false (by omega)
        rw [hb]
        clear h1 hb
        go_enter Tryd.func49, Tryd.ntmps49
        go_wp2
        go_ret
        exact ⟨by first | rfl | (simp; omega), rfl⟩
    · have hb : blank c = false := decide_eq_false (by omega)
      rw [hb]
      clear h1 hb
      go_enter Tryd.func49, Tryd.ntmps49
      go_wp2
      go_ret
      exact ⟨by first | rfl | (simp; omega), rfl⟩

/-- A text without the blanks at its ends. -/
def trimmed (left right : Bool) (l : List UInt8) : List UInt8 :=
  let m := if left then l.dropWhile blank else l
  if right then (m.reverse.dropWhile blank).reverse else m

theorem head_of {t : ByteArray} (h : 0 < t.size) : t.data.toList = t[0] :: (t.extract 1 t.size).data.toList := by
  rw [Lib.extract_to_end]
  have h' : 0 < t.data.toList.length := by simpa using h
  exact (List.getElem_cons_drop h').symm
theorem last_of {t : ByteArray} (h : 0 < t.size) : t.data.toList.reverse = t[t.size - 1] :: (t.extract 0 (t.size - 1)).data.toList.reverse := by
  have e : (t.extract 0 (t.size - 1)).data.toList = t.data.toList.take (t.size - 1) := by
    rw [Lib.extract_data]; simp
  have h' : t.size - 1 < t.data.toList.length := by simp; omega
  have e2 : t.data.toList = t.data.toList.take (t.size - 1) ++ [t.data.toList[t.size - 1]] := by
    rw [List.take_append_getElem h', show t.size - 1 + 1 = t.data.toList.length by simp; omega, List.take_length]
  rw [e]
  conv => lhs; rw [e2]
  simp
  rfl
theorem str_of {u : ByteArray} {l : List UInt8} (h : u.data.toList = l) : Value.string u = .string ⟨l.toArray⟩ := by subst h; rfl
end Go.Proofs.YtohjcimkpcpgbaaDoor

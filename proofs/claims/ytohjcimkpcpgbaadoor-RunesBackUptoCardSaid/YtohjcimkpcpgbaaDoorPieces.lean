/- The program's pieces of a text. -/
import Derived.Test.YtohjcimkpcpgbaaDoorRefG
import Derived.Test.YtohjcimkpcpgbaaDoorRange
namespace Go.Proofs.YtohjcimkpcpgbaaDoor
open Go Go.RowKit Go.WideShapes

theorem atP_strict (s : ByteArray) {i j : Nat} (h : i < j) (hj : j < (st s 0).length) : atP s i < atP s j := by
  have hi : i < (st s 0).length := by omega
  have := List.pairwise_iff_getElem.1 (st_sorted s _ 0 (Nat.le_refl _)) i j hi hj h
  unfold atP
  rw [List.getElem?_eq_getElem hi, List.getElem?_eq_getElem hj]
  exact this

set_option maxRecDepth 100000 in
set_option maxHeartbeats 1000000 in
theorem pieces_any (s : ByteArray) (hm : s.size ≤ 1000000000) (h0 : 0 < s.size) (w : World) :
    Calls Tryd.prog 46 #[.string s] w fun e w' => ∃ v, e = .returned v ∧ w'.ownsRow w.heap.size 9 1 v (piecesTo s (st s 0).length).length (cellsT (piecesTo s (st s 0).length)) ∧ Below w.heap.size w w' := by
  have hat0 : atP s 0 = 0 := by unfold atP; rw [st_cons s 0 h0]; rfl
  have hn1 : 1 ≤ (st s 0).length := by rw [st_cons s 0 h0, List.length_cons]; omega
  have hz := st_len s 0
  have Hat0 := Lib.hid hat0
  clear hat0
  go_enter Tryd.func46, Tryd.ntmps46
  go_wp2
  go_loopw [3, 4] (fun v a wr => ∃ (pos : Nat) (pre : List Nat), pos ≤ s.size ∧ pre ++ st s pos = st s 0 ∧ a = .int .i64 (atP s (pre.length - 1) : Int) ∧ wr.ownsRow w.heap.size 9 1 v (pre.length - 1) (cellsT (piecesTo s (pre.length - 1))) ∧ wr.heap[w.heap.size]? = some (.stringIter s pos) ∧ Below w.heap.size w wr) (fun _ _ wr => s.size - wr.iterPos w.heap.size)
  case atStart =>
    refine ⟨0, [], Nat.zero_le _, rfl, by rw [show ([] : List Nat).length - 1 = 0 from rfl, Hat0.out]; rfl, World.ownsRow_nil _ _ _ _, ?_, (Below.refl _ w).alloc (Nat.le_refl _) _⟩
    have := World.iter_heap w s 0
    simpa using this
  case round =>
    obtain ⟨pos, pre, hp, he, rfl, hown, hit, hb⟩ := hrel
    have hl := congrArg List.length he
    rw [List.length_append] at hl
    obtain ⟨c, hc⟩ : ∃ c, pre.length = c := ⟨_, rfl⟩
    by_cases hlt : pos < s.size
    · have hnx : ∀ ty, (Instr.next (.pointer (some ⟨w.heap.size, 0, none⟩)) true ty).run Tryd.prog wr = _ := fun ty => Lib.run_next_any_at wr w.heap.size s pos ty hit hlt
      have hwd := wid s pos hlt
      have hf := dec_fits s pos hlt
      have hat := atP_of he hlt
      have hcl : c < (st s 0).length := by
        have h2 : 1 ≤ (st s pos).length := by rw [st_cons s pos hlt, List.length_cons]; omega
        omega
      have hit2 := Lib.iterAt_heap wr w.heap.size s pos (pos + (Utf8.decode s pos).2) hit
      have hb2 := Lib.below_iterAt hb (k := w.heap.size) (Nat.le_refl _) s (pos + (Utf8.decode s pos).2)
      have hown2 : (wr.iterAt w.heap.size s (pos + (Utf8.decode s pos).2)).ownsRow w.heap.size 9 1 u3 (pre.length - 1) (cellsT (piecesTo s (pre.length - 1))) := own_iterAt hown hit _
      have He2 : Hid ((pre ++ [pos]) ++ st s (pos + (Utf8.decode s pos).2) = st s 0) := by
        have := he
        rw [st_cons s pos hlt] at this
        rw [List.append_assoc]
        exact this
      rw [hc] at hat hown hown2 ⊢
      have hlen2 : (pre ++ [pos]).length - 1 = c := by rw [List.length_append, hc]; rfl
      have Hlen2 := Lib.hid hlen2
      have Hit := Lib.hid hit
      have Hit2 := Lib.hid hit2
      have Hc := Lib.hid hc
      clear he hl hit hit2 hlen2 hc
      by_cases h1 : c = 0
      · subst h1
        have hpos : pos = 0 := by rw [← hat, Hat0.out]
        have e1 : atP s (0 - 1) = 0 := Hat0.out
        rw [e1] at *
        subst hpos
        have he3 := He2.out
        have hit3 := Hit2.out
        try simp only [Nat.zero_add] at hnx
        try simp only [Nat.zero_add] at hb2
        try simp only [Nat.zero_add, Nat.zero_sub] at hown2
        try simp only [Nat.zero_add] at hf
        try simp only [Nat.zero_add] at he3
        try simp only [Nat.zero_add] at hit3
        have He3 := Lib.hid he3
        have Hit3 := Lib.hid hit3
        have Hat := Lib.hid hat
        clear e1 hat he3 hit3 He2 Hit2
        go_wp2
        go_roundw
        case rel => exact ⟨(Utf8.decode s 0).2, pre ++ [0], hf.1, He3.out, by rw [Hlen2.out, Hat0.out], by rw [Hlen2.out]; exact hown2, Hit3.out, hb2⟩
        case measure => simp only [World.iterPos, Hit3.out, Hit.out]; omega
      · have hst := atP_strict s (show c - 1 < c by omega) hcl
        rw [hat] at hst
        have hps := piecesTo_snoc s (c - 1)
        rw [show c - 1 + 1 = c from by omega, hat] at hps
        obtain ⟨a, ha⟩ : ∃ a, atP s (c - 1) = a := ⟨_, rfl⟩
        rw [ha] at hst hps ⊢
        have Hps := Lib.hid hps
        have Hat := Lib.hid hat
        clear ha hps hat
        go_wp2_with (at_builtin; refine app_one rfl _ _ _ rfl w.heap.size 9 _ 16 Tryd.underlying39 infoStr rfl _ _ _ rfl (by exact hown2) rfl rfl ?c1 ?c2 ?c3 ?_)
        case c1 => unfold maxLen; omega
        case c2 => omega
        case c3 => exact hb2.size
        intro v' w1 hown1 hg1 hb1
        have Hit3 := Lib.hid (iter_stands hown2 Hit2.out hg1)
        go_wp2
        go_roundw
        case rel => exact ⟨pos + (Utf8.decode s pos).2, pre ++ [pos], hf.1, He2.out, by rw [Hlen2.out, Hat.out], by rw [Hlen2.out, Hps.out, cellsT_snoc]; rw [show c - 1 + 1 = c from by omega] at hown1; exact hown1, Hit3.out, hb2.trans hb1⟩
        case measure => simp only [World.iterPos, Hit3.out, Hit.out]; omega
    · have hnx : ∀ ty, (Instr.next (.pointer (some ⟨w.heap.size, 0, none⟩)) true ty).run Tryd.prog wr = _ := fun ty => Lib.run_next_end_at wr w.heap.size s pos ty hit hlt
      have hcn : c = (st s 0).length := by rw [st_nil s pos hlt, List.length_nil] at hl; omega
      rw [hc] at hown ⊢
      have hps := piecesTo_snoc s (c - 1)
      rw [show c - 1 + 1 = c from by omega, atP_end (by omega : (st s 0).length ≤ c)] at hps
      have hle := atP_le s (c - 1)
      obtain ⟨a, ha⟩ : ∃ a, atP s (c - 1) = a := ⟨_, rfl⟩
      rw [ha] at hps hle ⊢
      have Hps := Lib.hid hps
      have Hcn := Lib.hid hcn
      have hc1 : 1 ≤ c := by omega
      have hc2 : c ≤ 1000000000 := by omega
      clear he hit hl ha hps hc hcn
      go_wp2_with (at_builtin; refine app_one rfl _ _ _ rfl w.heap.size 9 _ 16 Tryd.underlying39 infoStr rfl _ _ _ rfl (by exact hown) rfl rfl ?c1 ?c2 ?c3 ?_)
      case c1 => unfold maxLen; omega
      case c2 => omega
      case c3 => exact hb.size
      intro v' w1 hown1 hg1 hb1
      go_wp2
      go_ret
      refine ⟨_, rfl, ?_, hb.trans hb1⟩
      rw [← Hcn.out, piecesTo_len, Hps.out, cellsT_snoc]
      exact hown1
end Go.Proofs.YtohjcimkpcpgbaaDoor

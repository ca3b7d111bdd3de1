/- The document's Quote, what else stands. -/
import Derived.Test.YtmicpdibnkmekaaGreatDoorURefQ
namespace Go.Proofs.YtmicpdibnkmekaaGreatDoor
open Go Go.RowKit

/-- Blocks below B stand, and all blocks but rows of bytes. -/
structure KS (B : Nat) (w w' : World) : Prop where
  bel : Below B w w'
  oth : Lib.OthersKept 5 none w w'
theorem KS.refl (B : Nat) (w : World) : KS B w w := ⟨Below.refl _ _, Lib.OthersKept.refl _ _ _⟩
theorem KS.trans {B : Nat} {x y z : World} (h : KS B x y) (k : KS B y z) : KS B x z := ⟨h.bel.trans k.bel, h.oth.trans k.oth⟩
theorem KS.drew (B : Nat) (w : World) : KS B w w.drew := ⟨(Below.refl B w).drew, Lib.OthersKept.refl _ none w⟩
theorem KS.alloc {B : Nat} (w : World) (h : B ≤ w.heap.size) (o : Obj) : KS B w (w.alloc o) := ⟨(Below.refl B w).alloc h o, (Lib.OthersKept.refl _ none w).alloc o⟩
theorem KS.grow {B : Nat} {w w2 : World} {v : Value} {n : Nat} {xs : List Value} {o : Obj} (hown : w.ownsRow B 5 1 v n xs) (hg : (w.alloc o).grownBy w2 v.ownBlock) (hB : B ≤ w.heap.size) : KS B w w2 := by
  refine ⟨((Below.refl B w).alloc hB o).grown hg (by simp; omega) (fun k hk => (hown.lt k hk).1), ((Lib.OthersKept.refl _ none w).alloc o).grown hg ?_⟩
  intro g hgg
  obtain ⟨c, fz, h⟩ := own_kind hown g hgg
  exact ⟨c, fz, (show (w.heap.push o)[g]? = _ by rw [Array.getElem?_push, if_neg (by have := (Array.getElem?_eq_some_iff.1 h).1; omega)]; exact h)⟩
theorem KS.grow0 {B : Nat} {w w2 : World} {v : Value} {n : Nat} {xs : List Value} (hown : w.ownsRow B 5 1 v n xs) (hg : w.grownBy w2 v.ownBlock) (hB : B ≤ w.heap.size) : KS B w w2 :=
  ⟨(Below.refl B w).grown hg hB (fun k hk => (hown.lt k hk).1), (Lib.OthersKept.refl _ none w).grown hg (own_kind hown)⟩
theorem KS.block {B k : Nat} {w w' : World} {c : Array Value} {e : TypeId} {fz : Nat × Nat} (h : KS B w w') (hk : w.heap[k]? = some (.cells c e fz)) (he : e ≠ 5) : w'.heap[k]? = some (.cells c e fz) :=
  h.oth k _ hk (fun e1 => by cases e1) (fun c' fz' e1 => he (by injection e1 with _ e2 _))
theorem KS.of_below {B : Nat} {w w' : World} (h : Below w.heap.size w w') (hB : B ≤ w.heap.size) : KS B w w' :=
  ⟨h.mono hB, fun k _o hk _ _ => (h.block k (Array.getElem?_eq_some_iff.1 hk).1).trans hk⟩
set_option maxRecDepth 100000 in
set_option maxHeartbeats 8000000 in
theorem refQuoteK (s : ByteArray) (hm : s.size ≤ 1000000000) (B : Nat) (pre : List UInt8) (hp : pre.length ≤ 1099511627776) (v : Value) (w : World) (hown : w.ownsRow B 5 1 v pre.length (Lib.byteCells pre)) (hB : B ≤ w.heap.size) :
    Calls Tryz.prog 71 #[v, .string s] w fun e w' => ∃ v', e = .returned v' ∧ w'.ownsRow B 5 1 v' (pre ++ quoteB s).length (Lib.byteCells (pre ++ quoteB s)) ∧ KS B w w' := by
  go_enter Tryz.func71, Tryz.ntmps71
  go_wp2_with (at_builtin; refine app_one rfl _ _ _ rfl B 5 _ 1 Tryz.underlying56 infoU8 rfl _ _ _ rfl (by exact hown) rfl rfl ?c1 ?c2 hB ?_)
  case c1 => unfold maxLen; omega
  case c2 => omega
  intro v1 w1 hown1 hg1 hb1'
  have hb1 : KS B w w1 := KS.grow hown hg1 hB
  have HO1 := Lib.hid hown1
  clear hown hown1 hg1
  go_wp2_with fail
  go_loopw [0, 6] (fun b i wr => ∃ k : Nat, i = .int .i64 k ∧ k ≤ s.size ∧ wr.ownsRow B 5 1 b (pre ++ 34 :: qT s k).length (Lib.byteCells (pre ++ 34 :: qT s k)) ∧ KS B w wr) (fun _ i _ => s.size - (intOf i).toNat)
  case atStart =>
    refine ⟨0, rfl, Nat.zero_le _, ?_, hb1⟩
    have := HO1.out
    have e1 : qT s 0 = [] := rfl
    rw [e1, List.length_append, Lib.byteCells_append]
    exact this
  case round =>
    obtain ⟨k, rfl, hk, hown, hb⟩ := hrel
    have HBZ := hb.bel.size
    by_cases hlt : k < s.size
    · have hqs := qT_succ s k hlt
      have hql := qT_len s k
      obtain ⟨L, hL⟩ : ∃ L, pre ++ 34 :: qT s k = L := ⟨_, rfl⟩
      have hLl : L.length ≤ pre.length + 1 + 6 * k := by rw [← hL]; simp; omega
      have hL2 : pre ++ 34 :: qT s (k + 1) = L ++ qB s[k] := by rw [hqs, ← hL]; simp
      rw [hL] at hown
      have HL2 := Lib.hid hL2
      have HOW := Lib.hid hown
      clear hqs hql hL hL2 hown HO1
      have i0 : (0 : Int) ≤ (k : Int) := by omega
      have i1 : (k : Int) < (s.size : Int) := by omega
      have b34 : (((s[k].toNat : Nat) : Int) == 34) = decide (s[k] = 34) := u8_eq s[k] 34
      have b92 : (((s[k].toNat : Nat) : Int) == 92) = decide (s[k] = 92) := u8_eq s[k] 92
      have b8 : (((s[k].toNat : Nat) : Int) == 8) = decide (s[k] = 8) := u8_eq s[k] 8
      have b12 : (((s[k].toNat : Nat) : Int) == 12) = decide (s[k] = 12) := u8_eq s[k] 12
      have b10 : (((s[k].toNat : Nat) : Int) == 10) = decide (s[k] = 10) := u8_eq s[k] 10
      have b13 : (((s[k].toNat : Nat) : Int) == 13) = decide (s[k] = 13) := u8_eq s[k] 13
      have b9 : (((s[k].toNat : Nat) : Int) == 9) = decide (s[k] = 9) := u8_eq s[k] 9
      have b127 : (((s[k].toNat : Nat) : Int) == 127) = decide (s[k] = 127) := u8_eq s[k] 127
      by_cases e34 : s[k] = 34
      · have HQ := Lib.hid (show qB s[k] = [92, 34] by rw [e34]; rfl)
        rw [decide_eq_true e34] at b34
        clear b92 b8 b12 b10 b13 b9 b127
        go_wp2_with (at_builtin; refine app_news rfl _ _ _ rfl B 5 _ 1 Tryz.underlying56 infoU8 rfl _ _ _ rfl (by exact HOW.out) 2 rfl rfl ?c0 ?c1 ?c2 ?c3 ?_)
        case c0 => simp [Value.oneCell']
        case c1 => unfold maxLen; omega
        case c2 => omega
        case c3 => omega
        intro v' w2 hown2 hg2 hb2'
        have hb2 := KS.grow HOW.out hg2 (Nat.le_trans hB HBZ)
        go_wp2_with fail
        go_roundw
        case rel => exact ⟨k + 1, by go_num, by omega, by rw [HL2.out, HQ.out, List.length_append, Lib.byteCells_append]; exact hown2, hb.trans hb2⟩
        case measure => simp [intOf]; omega
      rw [decide_eq_false e34] at b34
      by_cases e92 : s[k] = 92
      · have HQ := Lib.hid (show qB s[k] = [92, 92] by rw [e92]; rfl)
        rw [decide_eq_true e92] at b92
        clear b8 b12 b10 b13 b9 b127
        go_wp2_with (at_builtin; refine app_news rfl _ _ _ rfl B 5 _ 1 Tryz.underlying56 infoU8 rfl _ _ _ rfl (by exact HOW.out) 2 rfl rfl ?c0 ?c1 ?c2 ?c3 ?_)
        case c0 => simp [Value.oneCell']
        case c1 => unfold maxLen; omega
        case c2 => omega
        case c3 => omega
        intro v' w2 hown2 hg2 hb2'
        have hb2 := KS.grow HOW.out hg2 (Nat.le_trans hB HBZ)
        go_wp2_with fail
        go_roundw
        case rel => exact ⟨k + 1, by go_num, by omega, by rw [HL2.out, HQ.out, List.length_append, Lib.byteCells_append]; exact hown2, hb.trans hb2⟩
        case measure => simp [intOf]; omega
      rw [decide_eq_false e92] at b92
      by_cases e8 : s[k] = 8
      · have HQ := Lib.hid (show qB s[k] = [92, 98] by rw [e8]; rfl)
        rw [decide_eq_true e8] at b8
        clear b12 b10 b13 b9 b127
        go_wp2_with (at_builtin; refine app_news rfl _ _ _ rfl B 5 _ 1 Tryz.underlying56 infoU8 rfl _ _ _ rfl (by exact HOW.out) 2 rfl rfl ?c0 ?c1 ?c2 ?c3 ?_)
        case c0 => simp [Value.oneCell']
        case c1 => unfold maxLen; omega
        case c2 => omega
        case c3 => omega
        intro v' w2 hown2 hg2 hb2'
        have hb2 := KS.grow HOW.out hg2 (Nat.le_trans hB HBZ)
        go_wp2_with fail
        go_roundw
        case rel => exact ⟨k + 1, by go_num, by omega, by rw [HL2.out, HQ.out, List.length_append, Lib.byteCells_append]; exact hown2, hb.trans hb2⟩
        case measure => simp [intOf]; omega
      rw [decide_eq_false e8] at b8
      by_cases e12 : s[k] = 12
      · have HQ := Lib.hid (show qB s[k] = [92, 102] by rw [e12]; rfl)
        rw [decide_eq_true e12] at b12
        clear b10 b13 b9 b127
        go_wp2_with (at_builtin; refine app_news rfl _ _ _ rfl B 5 _ 1 Tryz.underlying56 infoU8 rfl _ _ _ rfl (by exact HOW.out) 2 rfl rfl ?c0 ?c1 ?c2 ?c3 ?_)
        case c0 => simp [Value.oneCell']
        case c1 => unfold maxLen; omega
        case c2 => omega
        case c3 => omega
        intro v' w2 hown2 hg2 hb2'
        have hb2 := KS.grow HOW.out hg2 (Nat.le_trans hB HBZ)
        go_wp2_with fail
        go_roundw
        case rel => exact ⟨k + 1, by go_num, by omega, by rw [HL2.out, HQ.out, List.length_append, Lib.byteCells_append]; exact hown2, hb.trans hb2⟩
        case measure => simp [intOf]; omega
      rw [decide_eq_false e12] at b12
      by_cases e10 : s[k] = 10
      · have HQ := Lib.hid (show qB s[k] = [92, 110] by rw [e10]; rfl)
        rw [decide_eq_true e10] at b10
        clear b13 b9 b127
        go_wp2_with (at_builtin; refine app_news rfl _ _ _ rfl B 5 _ 1 Tryz.underlying56 infoU8 rfl _ _ _ rfl (by exact HOW.out) 2 rfl rfl ?c0 ?c1 ?c2 ?c3 ?_)
        case c0 => simp [Value.oneCell']
        case c1 => unfold maxLen; omega
        case c2 => omega
        case c3 => omega
        intro v' w2 hown2 hg2 hb2'
        have hb2 := KS.grow HOW.out hg2 (Nat.le_trans hB HBZ)
        go_wp2_with fail
        go_roundw
        case rel => exact ⟨k + 1, by go_num, by omega, by rw [HL2.out, HQ.out, List.length_append, Lib.byteCells_append]; exact hown2, hb.trans hb2⟩
        case measure => simp [intOf]; omega
      rw [decide_eq_false e10] at b10
      by_cases e13 : s[k] = 13
      · have HQ := Lib.hid (show qB s[k] = [92, 114] by rw [e13]; rfl)
        rw [decide_eq_true e13] at b13
        clear b9 b127
        go_wp2_with (at_builtin; refine app_news rfl _ _ _ rfl B 5 _ 1 Tryz.underlying56 infoU8 rfl _ _ _ rfl (by exact HOW.out) 2 rfl rfl ?c0 ?c1 ?c2 ?c3 ?_)
        case c0 => simp [Value.oneCell']
        case c1 => unfold maxLen; omega
        case c2 => omega
        case c3 => omega
        intro v' w2 hown2 hg2 hb2'
        have hb2 := KS.grow HOW.out hg2 (Nat.le_trans hB HBZ)
        go_wp2_with fail
        go_roundw
        case rel => exact ⟨k + 1, by go_num, by omega, by rw [HL2.out, HQ.out, List.length_append, Lib.byteCells_append]; exact hown2, hb.trans hb2⟩
        case measure => simp [intOf]; omega
      rw [decide_eq_false e13] at b13
      by_cases e9 : s[k] = 9
      · have HQ := Lib.hid (show qB s[k] = [92, 116] by rw [e9]; rfl)
        rw [decide_eq_true e9] at b9
        clear  b127
        go_wp2_with (at_builtin; refine app_news rfl _ _ _ rfl B 5 _ 1 Tryz.underlying56 infoU8 rfl _ _ _ rfl (by exact HOW.out) 2 rfl rfl ?c0 ?c1 ?c2 ?c3 ?_)
        case c0 => simp [Value.oneCell']
        case c1 => unfold maxLen; omega
        case c2 => omega
        case c3 => omega
        intro v' w2 hown2 hg2 hb2'
        have hb2 := KS.grow HOW.out hg2 (Nat.le_trans hB HBZ)
        go_wp2_with fail
        go_roundw
        case rel => exact ⟨k + 1, by go_num, by omega, by rw [HL2.out, HQ.out, List.length_append, Lib.byteCells_append]; exact hown2, hb.trans hb2⟩
        case measure => simp [intOf]; omega
      rw [decide_eq_false e9] at b9
      by_cases hc : s[k].toNat < 32 ∨ s[k] = 127
      · have HQ := Lib.hid (show qB s[k] = [92, 117, 48, 48, hexC (s[k].toNat / 16), hexC (s[k].toNat % 16)] by unfold qB; simp [e34, e92, e8, e12, e10, e13, e9, hc])
        have h256 := s[k].toNat_lt
        have hm15 := mask15 s[k]
        obtain ⟨q, hq⟩ : ∃ q, s[k].toNat / 16 = q := ⟨_, rfl⟩
        obtain ⟨m, hmm⟩ : ∃ m, s[k].toNat % 16 = m := ⟨_, rfl⟩
        have hq16 : q < 16 := by omega
        have hm16 : m < 16 := by omega
        have hdq : ((s[k].toNat : Nat) : Int) / 16 = (q : Int) := by omega
        rw [hmm] at hm15
        have hwq : IntKind.u8.wrap (((s[k].toNat : Nat) : Int) / 16) = (q : Int) := by rw [hdq]; exact IntWalk.u8_in _ (by omega)
        rw [hq, hmm, ← hex_is q hq16, ← hex_is m hm16] at HQ
        have hq0 : (0 : Int) ≤ (q : Int) := by omega
        have hq1 : (q : Int) < 16 := by omega
        have hm0 : (0 : Int) ≤ (m : Int) := by omega
        have hm1 : (m : Int) < 16 := by omega
        have hgd : (decide (((s[k].toNat : Nat) : Int) < 32) = true) ∨ (decide (((s[k].toNat : Nat) : Int) < 32) = false ∧ (((s[k].toNat : Nat) : Int) == 127) = true) := by
          rcases hc with h | h
          · exact Or.inl (by simp; omega)
          · exact Or.inr ⟨by rw [h]; decide, by rw [h]; decide⟩
        clear hc hq hmm b127 h256
        rcases hgd with d1 | ⟨d1, d2⟩
        all_goals
          go_wp2_with fail
          obtain ⟨A, cp, rfl⟩ := own_sliceV HOW.out
          obtain ⟨i0, hi0, hz0, hz1, hz2⟩ := info_parts infoU8
          go_region_law ((refine step_append_lies _ (by rfl) _ _ _ (by rfl) B 5 i0 _ 1 1 Tryz.underlying56 hi0 hz0 hz1 hz2 rfl (by omega) (.slice A L.length cp) L.length (Lib.byteCells L) (by rfl) ((show wr.drew.ownsRow B 5 1 (.slice A L.length cp) L.length (Lib.byteCells L) from HOW.out).alloc _) ⟨wr.heap.size, 0, none⟩ 6 6 (Lib.byteCells [92, 117, 48, 48, (⟨#[48, 49, 50, 51, 52, 53, 54, 55, 56, 57, 97, 98, 99, 100, 101, 102]⟩ : ByteArray)[q]'hq16, (⟨#[48, 49, 50, 51, 52, 53, 54, 55, 56, 57, 97, 98, 99, 100, 101, 102]⟩ : ByteArray)[m]'hm16]) (by rfl) (by rfl) (World.news_of_block (t := 5) (fr := (0, 0)) (heap_alloc_new wr.drew _)) (by simp [Value.oneCell', Lib.byteCells]) (by omega) (by unfold maxLen; omega) (by omega) (by simp; omega) (wr.heap.size + 1) (by simp) ?_; intro gg cap w2 hown2 hg2 hat2 hlt2))
          all_goals
            have hb2 : KS B w w2 := (hb.trans (KS.drew B wr)).trans (KS.grow (w := wr.drew) (show wr.drew.ownsRow B 5 1 (.slice A L.length cp) L.length (Lib.byteCells L) from HOW.out) hg2 (Nat.le_trans hB HBZ))
            go_wp2_with fail
            go_roundw
            case rel => exact ⟨k + 1, by go_num, by omega, by rw [HL2.out, HQ.out, List.length_append, Lib.byteCells_append]; exact hown2, hb2⟩
            case measure => simp [intOf]; omega
      · have HQ := Lib.hid (show qB s[k] = [s[k]] by unfold qB; simp only [e34, e92, e8, e12, e10, e13, e9, hc, or_self, if_false])
        have d1 : decide (((s[k].toNat : Nat) : Int) < 32) = false := by simp; omega
        have d2 : (((s[k].toNat : Nat) : Int) == 127) = false := by rw [b127, decide_eq_false (fun h => hc (Or.inr h))]
        clear hc b127
        go_wp2_with (at_builtin; refine app_one rfl _ _ _ rfl B 5 _ 1 Tryz.underlying56 infoU8 rfl _ _ _ rfl (by exact HOW.out) rfl rfl ?c1 ?c2 ?c3 ?_)
        case c1 => unfold maxLen; omega
        case c2 => omega
        case c3 => omega
        intro v' w2 hown2 hg2 hb2'
        have hb2 := KS.grow HOW.out hg2 (Nat.le_trans hB HBZ)
        go_wp2_with fail
        go_roundw
        case rel => exact ⟨k + 1, by go_num, by omega, by rw [HL2.out, HQ.out, List.length_append, Lib.byteCells_append]; exact hown2, hb.trans hb2⟩
        case measure => simp [intOf]; omega
    · obtain rfl : k = s.size := by omega
      have hql := qT_len s s.size
      go_wp2_with (at_builtin; refine app_one rfl _ _ _ rfl B 5 _ 1 Tryz.underlying56 infoU8 rfl _ _ _ rfl (by exact hown) rfl rfl ?c1 ?c2 ?c3 ?_)
      case c1 => rw [List.length_append, List.length_cons]; unfold maxLen; omega
      case c2 => rw [List.length_append, List.length_cons]; omega
      case c3 => omega
      intro v' w2 hown2 hg2 hb2'
      have hb2 := KS.grow hown hg2 (Nat.le_trans hB HBZ)
      go_wp2_with fail
      go_ret
      refine ⟨_, rfl, ?_, hb.trans hb2⟩
      have e1 : pre ++ quoteB s = (pre ++ 34 :: qT s s.size) ++ [34] := by unfold quoteB; simp
      have e2 : (pre ++ quoteB s).length = pre.length + ((qT s s.size).length + 1) + 1 := by rw [e1]; simp; omega
      rw [e2, e1, Lib.byteCells_append]
      exact hown2
end Go.Proofs.YtmicpdibnkmekaaGreatDoor

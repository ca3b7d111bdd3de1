/- A string's text: by bytes and by code points. -/
import Derived.Test.YtmicpdibnkmekaaGreatDoorRRefU
import Derived.Test.YtmicpdibnkmekaaGreatDoorREsc
import Derived.Lib.MapLaws
import Derived.StillTailTactics
namespace Go.Proofs.YtmicpdibnkmekaaGreatDoor
open Go Go.RowKit

theorem qB_high {c : UInt8} (h : 128 ≤ c.toNat) : qB c = [c] := by
  have hne : ∀ d : UInt8, d.toNat < 128 → c ≠ d := fun d hd e => by rw [e] at h; omega
  have h127 : ¬ (c.toNat < 32 ∨ c = 127) := fun e => e.elim (fun e => by omega) (fun e => hne _ (by decide) e)
  have h34 : ¬ (c = 34 ∨ c = 92) := fun e => e.elim (hne _ (by decide)) (hne _ (by decide))
  unfold qB
  rw [if_neg h34, if_neg (hne _ (by decide)), if_neg (hne _ (by decide)), if_neg (hne _ (by decide)), if_neg (hne _ (by decide)), if_neg (hne _ (by decide)), if_neg h127]
theorem flat_high : ∀ l : List UInt8, (∀ c ∈ l, 128 ≤ c.toNat) → l.flatMap qB = l
  | [], _ => rfl
  | c :: l, h => by
    rw [List.flatMap_cons, qB_high (h c (by simp)), flat_high l (fun d hd => h d (by simp [hd]))]
    rfl
theorem low_eq : ∀ n : Fin 128, ([n.val.toUInt8] : List UInt8).flatMap qB = escR (n.val : Int) := by decide +kernel
theorem enc_high (p : Nat) (h : 128 ≤ p) (h2 : p ≤ 1114111) (h3 : p < 55296 ∨ 57343 < p) : ∀ c ∈ Lib.encodeRune (p : Int), 128 ≤ c.toNat := by
  intro c hc
  unfold Lib.encodeRune at hc
  rw [List.mem_map] at hc
  obtain ⟨x, hx, rfl⟩ := hc
  have hb := Lib.encodeRuneZ_byte (p : Int) x hx
  have h128 : 128 ≤ x := by
    by_cases e1 : p ≤ 2047
    · rw [Lib.encodeRuneZ_two (by omega) (by omega)] at hx
      simp at hx
      omega
    · by_cases e2 : p ≤ 65535
      · rw [Lib.encodeRuneZ_three (by omega)] at hx
        simp at hx
        omega
      · rw [Lib.encodeRuneZ_four (by omega) (by omega)] at hx
        simp at hx
        omega
  obtain ⟨n, rfl⟩ := Int.eq_ofNat_of_zero_le hb.1
  show 128 ≤ ((n : Int).toNat.toUInt8).toNat
  rw [Int.toNat_natCast, UInt8.toNat_ofNat']
  omega
theorem enc_low (p : Nat) (h : p < 128) : Lib.encodeRune (p : Int) = [p.toUInt8] := by
  unfold Lib.encodeRune
  rw [Lib.encodeRuneZ_one (by omega) (by omega)]
  simp
theorem esc_enc (p : Nat) (h2 : p ≤ 1114111) (h3 : p < 55296 ∨ 57343 < p) : (Lib.encodeRune (p : Int)).flatMap qB = escR (p : Int) := by
  by_cases h : p < 128
  · rw [enc_low p h]
    exact low_eq ⟨p, h⟩
  · rw [flat_high _ (enc_high p (by omega) h2 h3)]
    unfold escR
    rw [if_neg (by omega), if_neg (by omega), if_neg (by omega), if_neg (by omega), if_neg (by omega), if_neg (by omega), if_pos (by omega)]
theorem body_eq (s : ByteArray) : ∀ (k pos : Nat), s.size - pos ≤ k → allGood s pos = true → (s.data.toList.drop pos).flatMap qB = bodyR s pos := by
  intro k
  induction k with
  | zero =>
    intro pos hk _
    rw [bodyR_nil s pos (by omega), List.drop_of_length_le (by simp; omega)]
    rfl
  | succ k ih =>
    intro pos hk hg
    by_cases hlt : pos < s.size
    · rw [allGood_cons s pos hlt, Bool.and_eq_true] at hg
      have hwd := wid s pos hlt
      have hf := dec_fits s pos hlt
      have hpt := dec_point s pos
      have hne : s.data.toList.drop pos ≠ [] := by
        intro e
        have := congrArg List.length e
        rw [List.length_drop] at this
        simp at this
        omega
      have hgd := hg.1
      unfold good at hgd
      rw [decide_eq_true_iff, ← Lib.decodeL_drop] at hgd
      have he := Lib.encode_decode _ hne hgd
      rw [Lib.decodeL_drop] at he
      rw [bodyR_cons s pos hlt, ← ih _ (by omega) hg.2, ← esc_enc _ hpt.1 hpt.2, he, ← List.flatMap_append, ← List.drop_drop, List.take_append_drop]
    · rw [bodyR_nil s pos hlt, List.drop_of_length_le (by simp; omega)]
      rfl
theorem quote_eq (s : ByteArray) (h : allGood s 0 = true) : quoteB s = quoteR s := by
  unfold quoteB quoteR qT
  have := body_eq s _ 0 (Nat.le_refl _) h
  rw [List.drop_zero] at this
  rw [List.take_of_length_le (by simp), this]
end Go.Proofs.YtmicpdibnkmekaaGreatDoor
namespace Go.Proofs.YtmicpdibnkmekaaGreatDoor
open Go Go.RowKit

set_option maxHeartbeats 1000000 in
set_option maxRecDepth 100000 in
theorem refPoints_any (s : ByteArray) (hm : s.size ≤ 1000000000) (w : World) :
    Calls Tryz.prog 139 #[.string s] w fun e w' => ∃ v, e = .returned v ∧ w'.ownsRow w.heap.size 3 1 v (pts s 0).length (cellsN (pts s 0)) ∧ Below w.heap.size w w' := by
  have hml : s.size ≤ maxLen := by unfold maxLen; omega
  go_enter Tryz.func139, Tryz.ntmps139
  go_wp2
  go_loopw [3, 4] (fun v i wr => ∃ (pos : Nat) (pre : List Nat), i = .int .i64 pos ∧ pos ≤ s.size ∧ pre ++ pts s pos = pts s 0 ∧ wr.ownsRow w.heap.size 3 1 v pre.length (cellsN pre) ∧ Below w.heap.size w wr) (fun _ i _ => s.size - (intOf i).toNat)
  case atStart => exact ⟨0, [], rfl, Nat.zero_le _, rfl, World.ownsRow_nil _ _ _ _, Below.refl _ _⟩
  case round =>
    obtain ⟨pos, pre, rfl, hp, he, hown, hb⟩ := hrel
    by_cases hlt : pos < s.size
    · have hl := congrArg List.length he
      rw [List.length_append] at hl
      have hz := pts_len s 0
      have hlen : pre.length ≤ 1000000000 := by omega
      have hw := wid s pos hlt
      have hf := dec_fits s pos hlt
      have He := Lib.hid he
      clear he hl
      go_wp2_with (first | (go_at_call 88; refine (piece_any s pos hlt hml _).mono ?_; rintro e w' ⟨rfl, rfl⟩) | (at_builtin; refine app_one rfl _ _ _ rfl w.heap.size 3 _ 8 Tryz.underlying107 infoInt rfl _ _ _ rfl (by exact hown) rfl rfl ?c1 ?c2 ?c3 ?_))
      case c1 => unfold maxLen; omega
      case c2 => omega
      case c3 => exact hb.size
      intro v' w1 hown1 hg1 hb1
      go_wp2
      go_roundw
      case rel => exact ⟨pos + (Utf8.decode s pos).2, pre ++ [(Utf8.decode s pos).1], by go_num, hf.1, by rw [List.append_assoc, ← He.out, pts_cons s pos hlt]; rfl, by rw [cellsN_snoc, List.length_append]; exact hown1, hb.trans hb1⟩
      case measure => simp [intOf]; omega
    · rw [pts_nil s _ hlt, List.append_nil] at he
      have He := Lib.hid he
      clear he
      go_wp2
      go_ret
      exact ⟨_, rfl, by rw [← He.out]; exact hown, hb⟩
def asciiL (l : List Nat) : List UInt8 := l.flatMap escA
theorem refUnit_at (u : Nat) (x : Int) (e : x = (u : Int)) (hu : u < 65536) (B : Nat) (L : List UInt8) (hp : L.length ≤ 1099511627776) (v : Value) (w : World) (hown : w.ownsRow B 5 1 v L.length (Lib.byteCells L)) (hB : B ≤ w.heap.size) :
    Calls Tryz.prog 140 #[v, .int .i64 x] w fun e w' => ∃ v', e = .returned v' ∧ w'.ownsRow B 5 1 v' (L ++ unitT u).length (Lib.byteCells (L ++ unitT u)) ∧ Below B w w' := by
  subst e
  exact refUnit_any u hu B L hp v w hown hB
set_option maxRecDepth 100000 in
set_option maxHeartbeats 8000000 in
theorem refEscape_any (s : ByteArray) (asc : Bool) (hs : s.size ≤ 1048576) (hv : allGood s 0 = true) (w : World) :
    Calls Tryz.prog 84 #[.string s, .bool asc] w fun e w' => ∃ v', e = .returned v' ∧ w'.ownsRow w.heap.size 5 1 v' (escT asc s).length (Lib.byteCells (escT asc s)) ∧ Below w.heap.size w w' := by
  have hq := quoteR_len s
  have hqq := fun W => refQuote_any s (by omega) W.heap.size [] (by decide) (.slice none 0 0) W (World.ownsRow_nil _ _ _ _) (Nat.le_refl _)
  have eq : ([] : List UInt8) ++ quoteB s = quoteR s := by rw [List.nil_append, quote_eq s hv]
  rw [eq] at hqq
  have HQQ := Lib.hid hqq
  clear hqq eq
  obtain ⟨t, ht⟩ : ∃ t : ByteArray, t = ⟨(quoteR s).toArray⟩ := ⟨_, rfl⟩
  have htz : t.size = (quoteR s).length := by rw [ht, size_arr]
  cases asc with
  | false =>
    have e1 : escT false s = quoteR s := rfl
    rw [e1]
    clear e1 ht htz
    go_enter Tryz.func84, Tryz.ntmps84
    go_wp2_with fail
    refine (HQQ.out w).mono ?_
    rintro e w1 ⟨v1, rfl, ho1, hb1⟩
    go_wp2_with fail
    go_ret
    exact ⟨_, rfl, ho1, hb1⟩
  | true =>
    have e1 : escT true s = asciiR t 0 := by rw [ht]; rfl
    rw [e1]
    have hal := asciiR_len t 0
    have hpts := refPoints_any t (by omega)
    have HPTS := Lib.hid hpts
    have HT := Lib.hid ht
    clear e1 hpts ht
    go_enter Tryz.func84, Tryz.ntmps84
    go_wp2_with fail
    refine (HQQ.out w).mono ?_
    rintro e w1 ⟨v1, rfl, ho1, hb1⟩
    have hst := arr_string (P := Tryz.prog) (Arr.of_own ho1 (Nat.le_refl _)) 56 9 5 Tryz.underlying56 Tryz.underlying5 Tryz.underlying9
    rw [← HT.out] at hst
    have HB1 := Lib.hid hb1
    clear ho1 hb1
    go_wp2_with fail
    refine (HPTS.out w1).mono ?_
    rintro e w3 ⟨v3, rfl, ho3, hb3⟩
    have HB3 := Lib.hid hb3
    obtain ⟨A, ad, c, rfl, hA, hac⟩ := (Arr.of_own ho3 (Nat.le_refl _)).dest
    go_wp2_with fail
    obtain ⟨l, hl⟩ : ∃ l, pts t 0 = l := ⟨_, rfl⟩
    have hsm : ∀ p ∈ l, p ≤ 1114111 := by rw [← hl]; exact pts_small t 0
    have hll := pts_len t 0
    have hasl : asciiR t 0 = asciiL l := by rw [← hl]; rfl
    rw [hasl] at hal
    have HASL := Lib.hid hasl
    rw [hl] at hA hac hll ⊢
    rw [cellsN_length] at hA ⊢
    have HL := Lib.hid hsm
    have HA := Lib.hid hA
    have HAC := Lib.hid hac
    clear hsm hA hac hb3 ho3 hst hl hasl
    go_loopw [6, 8] (fun b i wr => ∃ k : Nat, i = .int .i64 k ∧ k ≤ l.length ∧ wr.ownsRow w3.heap.size 5 1 b (asciiL (l.take k)).length (Lib.byteCells (asciiL (l.take k))) ∧ Below w3.heap.size w3 wr) (fun _ i _ => l.length - (intOf i).toNat)
    case atStart => exact ⟨0, rfl, Nat.zero_le _, World.ownsRow_nil _ _ _ _, Below.refl _ _⟩
    case round =>
      obtain ⟨k, rfl, hk, hown, hb⟩ := hrel
      have hbz := hb.size
      by_cases hlt : k < l.length
      · obtain ⟨rfl, hadb⟩ := HA.out (by omega)
        obtain ⟨p, hp⟩ : ∃ p, l[k] = p := ⟨_, rfl⟩
        have hpm := HL.out p (by rw [← hp]; exact List.getElem_mem hlt)
        have hcell : wr.cell? (ad.add k) = some (.int .i64 (p : Int)) := by
          rw [hb.cell (p := ad.add k) (by rw [add_block]; exact hadb)]
          exact HAC.out k _ (by unfold cellsN; simp [hlt, hp])
        obtain ⟨L, hL⟩ : ∃ L, asciiL (l.take k) = L := ⟨_, rfl⟩
        have hnx : asciiL (l.take (k + 1)) = L ++ escA p := by
          rw [List.take_succ_eq_append_getElem hlt, hp, ← hL]
          unfold asciiL
          rw [List.flatMap_append]
          simp
        have hLl : L.length ≤ 12 * t.size := by
          rw [← hL]
          have := flat_len escA 12 escA_len (l.take k)
          rw [List.length_take] at this
          unfold asciiL
          have h2 : min k l.length ≤ t.size := by omega
          have h3 := Nat.mul_le_mul_left 12 h2
          omega
        rw [hL] at hown
        have HNX := Lib.hid hnx
        have HOW := Lib.hid hown
        have HB := Lib.hid hb
        have i0 : (0 : Int) ≤ (k : Int) := by omega
        have i1 : (k : Int) < (l.length : Int) := by omega
        have hL40 : L.length ≤ 1099511627776 := by omega
        clear hnx hown hb hL hp
        by_cases h7 : p < 128
        · have ep : escA p = [p.toUInt8] := by unfold escA; rw [if_pos (by omega)]
          have ec : ((p.toUInt8.toNat : Nat) : Int) = (p : Int) := by rw [UInt8.toNat_ofNat']; omega
          have HEP := Lib.hid ep
          have HEC := Lib.hid ec
          have d0 : decide ((p : Int) < 128) = true := by simp; omega
          have hp0 : (0 : Int) ≤ (p : Int) := by omega
          have hp1 : (p : Int) ≤ 127 := by omega
          clear ep ec hpm h7
          go_wp2_with (at_builtin; refine app_one rfl _ _ _ rfl w3.heap.size 5 _ 1 Tryz.underlying56 infoU8 rfl _ _ _ rfl (by exact HOW.out) rfl rfl ?c1 ?c2 hbz ?_)
          case c1 => unfold maxLen; omega
          case c2 => omega
          intro v' w4 hown4 hg4 hb4
          go_wp2_with fail
          go_roundw
          case rel =>
            refine ⟨k + 1, by go_num, by omega, ?_, HB.out.trans hb4⟩
            have e1 : Lib.byteCells [p.toUInt8] = [Value.int .u8 (p : Int)] := by show [Value.int .u8 ((p.toUInt8.toNat : Nat) : Int)] = _; rw [HEC.out]
            rw [HNX.out, HEP.out, List.length_append, Lib.byteCells_append, e1]
            exact hown4
          case measure => simp [intOf]; omega
        by_cases h6 : p < 65536
        · have ep : escA p = unitT p := by unfold escA; rw [if_neg (by omega), if_pos h6]
          have hun := refUnit_any p h6 w3.heap.size L hL40 _ wr HOW.out hbz
          have HUN := Lib.hid hun
          have HEP := Lib.hid ep
          have d0 : decide ((p : Int) < 128) = false := by simp; omega
          have d1 : decide ((p : Int) < 65536) = true := by simp; omega
          clear ep hpm h7 h6 hun
          go_wp2_with fail
          refine HUN.out.mono ?_
          rintro e w4 ⟨v4, rfl, ho4, hb4⟩
          go_wp2_with fail
          go_roundw
          case rel => exact ⟨k + 1, by go_num, by omega, by rw [HNX.out, HEP.out]; exact ho4, HB.out.trans hb4⟩
          case measure => simp [intOf]; omega
        · obtain ⟨j, rfl⟩ : ∃ j, p = j + 65536 := ⟨p - 65536, by omega⟩
          have ep : escA (j + 65536) = unitT (55296 + j / 1024) ++ unitT (56320 + j % 1024) := by
            unfold escA
            rw [if_neg (by omega), if_neg h6, show j + 65536 - 65536 = j by omega]
          have HEP := Lib.hid ep
          have hun := refUnit_at (55296 + j / 1024) (55296 + (j : Int) / 1024) (by omega) (by omega) w3.heap.size L hL40 _ wr HOW.out hbz
          have hun2 := fun v W hO hB => refUnit_at (56320 + j % 1024) (56320 + ((j % 1024 : Nat) : Int)) (by omega) (by omega) w3.heap.size (L ++ unitT (55296 + j / 1024)) (by simp [unitT]; omega) v W hO hB
          have HUN := Lib.hid hun
          have HUN2 := Lib.hid hun2
          have hand : bits .and .i64 (j : Int) 1023 = ((j % 1024 : Nat) : Int) := by
            have := bits_mask .i64 40 (by decide) (fun n h0 h1 => by rw [IntKind.wrap_i64]; omega) 10 (by omega) (j : Int) (by omega) (by omega)
            rw [show ((2 : Int) ^ 10 - 1) = 1023 by decide] at this
            rw [this]
            omega
          have hj1 : j ≤ 1048575 := by omega
          have hj0 : (0 : Int) ≤ (j : Int) := by omega
          have d0 : decide ((j : Int) + 65536 < 128) = false := by simp; omega
          have d1 : decide ((j : Int) + 65536 < 65536) = false := by simp; omega
          have e2 : ((j + 65536 : Nat) : Int) = (j : Int) + 65536 := by omega
          rw [e2] at hcell
          clear ep hpm h7 h6 hun hun2 e2
          go_wp2_with fail
          refine HUN.out.mono ?_
          rintro e w4 ⟨v4, rfl, ho4, hb4⟩
          have hcell4 : w4.cell? (ad.add k) = wr.cell? (ad.add k) := hb4.cell (p := ad.add k) (by rw [add_block]; exact hadb)
          go_wp2_with fail
          refine (HUN2.out _ _ ho4 (by have := hb4.size; omega)).mono ?_
          rintro e w5 ⟨v5, rfl, ho5, hb5⟩
          go_wp2_with fail
          go_roundw
          case rel => exact ⟨k + 1, by go_num, by omega, by rw [HNX.out, HEP.out, ← List.append_assoc]; exact ho5, HB.out.trans (hb4.trans hb5)⟩
          case measure => simp [intOf]; omega
      · obtain rfl : k = l.length := by omega
        rw [List.take_length] at hown
        have dk : decide ((l.length : Int) < (l.length : Int)) = false := by simp
        have HOW := Lib.hid hown
        have HB := Lib.hid hb
        clear hown hb
        go_wp2_with fail
        go_ret
        have hz3 := HB3.out.size
        have hz1 := HB1.out.size
        refine ⟨_, rfl, ?_, ?_⟩
        · rw [HASL.out]; exact own_lower HOW.out (by omega)
        · exact HB1.out.trans ((HB3.out.mono hz1).trans (HB.out.mono (by omega)))
end Go.Proofs.YtmicpdibnkmekaaGreatDoor

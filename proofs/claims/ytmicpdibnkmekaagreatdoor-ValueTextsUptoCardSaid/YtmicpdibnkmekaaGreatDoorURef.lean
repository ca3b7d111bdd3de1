/- The digits of a double: the document's walk. -/
import Derived.Test.YtmicpdibnkmekaaGreatDoorUText
namespace Go.Proofs.YtmicpdibnkmekaaGreatDoor
open Go Go.RowKit

theorem filt_out (l : List UInt8) (h : (46 : UInt8) ∉ l) : (l.take 1 ++ (if l.length ≤ 1 then [] else 46 :: l.drop 1)).filter (· != 46) = l := by
  have hf : ∀ m : List UInt8, (∀ c ∈ m, c ∈ l) → m.filter (· != 46) = m := by
    intro m hm
    rw [List.filter_eq_self]
    intro c hc
    rw [bne_iff_ne]
    intro e
    exact h (by rw [← e]; exact hm c hc)
  rw [List.filter_append, hf _ (fun c hc => List.mem_of_mem_take hc)]
  split
  · rename_i h1
    rw [List.filter_nil, List.append_nil, List.take_of_length_le h1]
  · rw [List.filter_cons_of_neg (by simp), hf _ (fun c hc => List.mem_of_mem_drop hc), List.take_append_drop]
theorem zero_is (b : Nat) : zeroB (szB b) ↔ szB b = 0 := by
  have hlt : szB b < 9223372036854775808 := Nat.mod_lt _ (by omega)
  unfold zeroB exB mtB
  omega
theorem eq_zero (b : Nat) : (FloatKind.f64.format.order b 0 == some .eq) = decide (szB b = 0) := by
  rw [eq_cmp b 0 (by decide), decide_eq_decide]
  have s0 : sv 0 = 0 := by decide
  rw [s0]
  unfold sv
  split <;> omega

set_option maxRecDepth 100000 in
set_option maxHeartbeats 2000000 in
theorem refDigits_nz (b : Nat) (hb : b < 18446744073709551616) (hf : szB b < 9218868437227405312) (hz : szB b ≠ 0) (w : World) (hW : NumW w) :
    Calls Tryz.prog 118 #[.float .f64 b] w fun e w' => e = .returned (.tuple #[.string ⟨(digF b).toArray⟩, .int .i64 (expF b)]) ∧ Below w.heap.size w w' := by
  obtain ⟨p1, p2, p3, p4, p5, p6, p7⟩ := parts_of b hf
  have hno := pre_no b hf
  obtain ⟨l1, l2⟩ := pre_len b hf
  have hat := (exp_reads _ p6 p7).1
  have hlt : szB b < 9223372036854775808 := Nat.mod_lt _ (by omega)
  have hx : exB (szB b) ≤ 2046 := by unfold exB; omega
  have z1 := eq_zero b
  have z2 : decide (szB b = 0) = false := decide_eq_false hz
  have z3 : decide (9218868437227405312 < szB b) = false := decide_eq_false (by omega)
  have z4 : decide (szB b = 9218868437227405312) = false := decide_eq_false (by omega)
  have hAbs := Abs_any b
  rw [absB_is b hb] at hAbs
  have hfo : (preF b).filter (· != 46) = digF b := filt_out (digF b) (contains_low p4 46 (.inl (by decide)))
  go_enter Tryz.func118, Tryz.ntmps118
  go_wp2_with fail
  refine (IsNaN_any b w).mono ?_
  rintro e w0 ⟨rfl, rfl⟩
  go_wp2_with fail
  refine (IsInf_any b hb w).mono ?_
  rintro e w0 ⟨rfl, rfl⟩
  go_wp2_with fail
  refine (hAbs w).mono ?_
  rintro e w0 ⟨rfl, rfl⟩
  go_wp2_with fail
  refine (form_e (szB b) (by omega) hx w hW.tabs).mono ?_
  rintro e w1 ⟨rfl, hb1⟩
  rw [p1]
  have k0 : Wr w w1 5 w.heap.size 0 [] (.slice none 0 0) [] := ⟨World.ownsRow_nil _ _ _ _, (by intro h; cases h), fun j hj => absurd hj (by simp), by have := hb1.size; have := hW.tabs.size; omega, hb1.size, hb1⟩
  obtain ⟨S, hS⟩ : ∃ S : ByteArray, (⟨(preF b ++ 101 :: postF b).toArray⟩ : ByteArray) = S := ⟨_, rfl⟩
  rw [hS]
  go_wp2_with fail
  go_loopw [5, 6] (fun v i wr => ∃ q : Nat, i = .int .i64 q ∧ q ≤ (preF b).length ∧ Wr w wr 5 w.heap.size 0 [] v (((preF b).take q).filter (· != 46))) (fun _ i _ => (preF b).length + 1 - (Go.RowKit.intOf i).toNat)
  case atStart => exact ⟨0, rfl, Nat.zero_le _, by simpa using k0⟩
  case round =>
    obtain ⟨q, rfl, hq, kq⟩ := hrel
    have hSz : S.size = (preF b).length + 1 + (postF b).length := by rw [← hS]; simp [ByteArray.size]; omega
    have i0 : (0 : Int) ≤ (q : Int) := by omega
    have i1 : (q : Int) < (S.size : Int) := by omega
    have hchar : ∀ x, (preF b ++ 101 :: postF b)[q]? = some x → ((S[q]'(by omega)) = x) := by
      intro x hx
      subst hS
      rw [List.getElem?_eq_some_iff] at hx
      obtain ⟨h1, h2⟩ := hx
      rw [← h2]
      rfl
    by_cases hlt : q < (preF b).length
    · obtain ⟨x, hxx⟩ : ∃ x, (preF b)[q] = x := ⟨_, rfl⟩
      have hc := hchar x (by rw [List.getElem?_append_left hlt, List.getElem?_eq_getElem hlt, hxx])
      have hx1 : x ≠ 101 := fun e => hno (by rw [← e, ← hxx]; exact List.getElem_mem hlt)
      have n1 : ((x.toNat : Int) == 101) = false := by
        rw [beq_eq_false_iff_ne]
        intro e
        exact hx1 (UInt8.toNat_inj.1 (by have : x.toNat = 101 := by omega
                                         rw [this]; rfl))
      have ht : (preF b).take (q + 1) = (preF b).take q ++ [x] := by rw [List.take_succ_eq_append_getElem hlt, hxx]
      by_cases hx46 : x = 46
      · have n2 : ((x.toNat : Int) == 46) = true := by rw [hx46]; rfl
        go_wp2_with fail
        go_roundw
        case rel => exact ⟨q + 1, by go_num, by omega, by rw [ht, List.filter_append, List.filter_cons_of_neg (by rw [hx46]; simp), List.filter_nil, List.append_nil]; exact kq⟩
        case measure => simp [Go.RowKit.intOf]; omega
      · have n2 : ((x.toNat : Int) == 46) = false := by
          rw [beq_eq_false_iff_ne]
          intro e
          exact hx46 (UInt8.toNat_inj.1 (by have : x.toNat = 46 := by omega
                                            rw [this]; rfl))
        go_wp2_with (at_builtin; refine wr_lit rfl _ _ _ rfl Tryz.underlying56 infoByte [x] 1 kq rfl rfl rfl rfl (by have := List.length_filter_le (· != 46) ((preF b).take q); rw [List.length_take] at this; omega) ?_)
        intro v2 w2 k2
        go_wp2_with fail
        go_roundw
        case rel => exact ⟨q + 1, by go_num, by omega, by rw [ht, List.filter_append, List.filter_cons_of_pos (by simpa using hx46), List.filter_nil]; exact k2⟩
        case measure => simp [Go.RowKit.intOf]; omega
    · obtain rfl : q = (preF b).length := by omega
      have hc := hchar 101 (by rw [List.getElem?_append_right (Nat.le_refl _), Nat.sub_self]; rfl)
      clear hchar hno
      rw [List.take_length, hfo] at kq
      have j1 : ((preF b).length : Int) + 1 ≤ (S.size : Int) := by omega
      have j0 : (0 : Int) ≤ ((preF b).length : Int) + 1 := by omega
      go_wp2_with fail
      have hex : (S.extract ((preF b).length + 1) ((preF b).length + 1 + (postF b).length)).data.toList = postF b := by
        rw [← hS]
        simp [ByteArray.data_extract]
      obtain ⟨T, hT⟩ : ∃ T, S.extract ((preF b).length + 1) ((preF b).length + 1 + (postF b).length) = T := ⟨_, rfl⟩
      rw [hT] at hex ⊢
      have hTs : T.size ≤ 18 := by
        have : T.size = (postF b).length := by rw [← hex]; exact (Array.length_toList).symm
        omega
      refine (Tryz.strconv_Atoi T (expF b) hTs (by rw [hex]; exact hat) _).mono ?_
      rintro e w3 ⟨rfl, t3, rfl⟩
      have hb3 := Lib.bytesWorld_below wr 5 t3
      have hown := own_below kq.own hb3
      have hbel := kq.bel.trans (hb3.mono kq.base)
      obtain ⟨W, hWe⟩ : ∃ W, Lib.bytesWorld wr 5 t3 = W := ⟨_, rfl⟩
      rw [hWe] at hown hbel ⊢
      clear hWe hb3 kq hT hex hTs hS
      have hst := arr_string (P := Tryz.prog) (Arr.of_own hown (Nat.le_refl _)) 56 9 5 Tryz.underlying56 Tryz.underlying5 Tryz.underlying9
      go_wp2_with fail
      rcases hown.2 with ⟨hv, hn⟩ | ⟨g, cap, cur, hv, hgb, hh, hcap⟩
      · omega
      · subst hv
        have hcells := hown.cells (g := g) rfl
        obtain ⟨n, hnl⟩ : ∃ n, (digF b).length = n + 1 := ⟨(digF b).length - 1, by omega⟩
        rw [hnl] at hst ⊢
        refine wp_loop_rounds 1 ?_
        rw [rounds_succ]
        rcases p5 with h48 | ⟨p, c, hpc, hc48⟩
        · have hn0 : n = 0 := by rw [h48] at hnl; simpa using hnl.symm
          subst hn0
          clear hcells hh hcap hown
          go_wp2_with fail
          go_ret2
          exact ⟨by rw [h48]; rfl, hbel⟩
        · have hpn : p.length = n := by rw [hpc] at hnl; simpa using hnl
          have hcell : W.cell? ⟨g, n, none⟩ = some (.int .u8 (c.toNat : Int)) := by
            have := hcells n (.int .u8 (c.toNat : Int)) (by rw [hpc, ← hpn]; simp [Lib.byteCells])
            by_cases hz0 : n = 0
            · subst hz0; simpa [Addr.add] using this
            · simpa [Addr.add, hz0] using this
          have n48 : ((c.toNat : Int) == 48) = false := by
            rw [beq_eq_false_iff_ne]
            intro e
            exact hc48 (UInt8.toNat_inj.1 (by have : c.toNat = 48 := by omega
                                              rw [this]; rfl))
          clear hcells hh hcap hown hpc
          by_cases hn0 : n = 0
          · subst hn0
            go_wp2_with fail
            go_ret2
            exact ⟨rfl, hbel⟩
          · have g1 : decide ((1 : Int) < (n : Int) + 1) = true := decide_eq_true (by omega)
            go_wp2_with fail
            go_ret2
            exact ⟨rfl, hbel⟩
theorem refDigits_any (b : Nat) (hb : b < 18446744073709551616) (w : World) (hW : NumW w) :
    Calls Tryz.prog 118 #[.float .f64 b] w fun e w' => e = .returned (.tuple #[.string ⟨(digA b).toArray⟩, .int .i64 (expA b)]) ∧ Below w.heap.size w w' := by
  unfold digA expA
  have z1 := eq_zero b
  by_cases hf : szB b < 9218868437227405312
  · rw [if_pos hf, if_pos hf]
    by_cases hz : szB b = 0
    · have hzz := (zero_is b).2 hz
      have e1 : digF b = [48] := by unfold digF; rw [if_pos hzz]
      have e2 : expF b = 0 := by unfold expF; rw [if_pos hzz]
      rw [e1, e2]
      have z2 : decide (szB b = 0) = true := decide_eq_true hz
      go_enter Tryz.func118, Tryz.ntmps118
      go_wp2_with fail
      go_ret2
      exact ⟨rfl, Below.refl _ _⟩
    · exact refDigits_nz b hb hf hz w hW
  · rw [if_neg hf, if_neg hf]
    have z2 : decide (szB b = 0) = false := decide_eq_false (by omega)
    by_cases hn : 9218868437227405312 < szB b
    · have z3 : decide (9218868437227405312 < szB b) = true := decide_eq_true hn
      go_enter Tryz.func118, Tryz.ntmps118
      go_wp2_with fail
      refine (IsNaN_any b w).mono ?_
      rintro e w0 ⟨rfl, rfl⟩
      go_wp2_with fail
      go_ret2
      exact ⟨rfl, Below.refl _ _⟩
    · have z3 : decide (9218868437227405312 < szB b) = false := decide_eq_false hn
      have z4 : decide (szB b = 9218868437227405312) = true := decide_eq_true (by omega)
      go_enter Tryz.func118, Tryz.ntmps118
      go_wp2_with fail
      refine (IsNaN_any b w).mono ?_
      rintro e w0 ⟨rfl, rfl⟩
      go_wp2_with fail
      refine (IsInf_any b hb w).mono ?_
      rintro e w0 ⟨rfl, rfl⟩
      go_wp2_with fail
      go_ret2
      exact ⟨rfl, Below.refl _ _⟩
end Go.Proofs.YtmicpdibnkmekaaGreatDoor
namespace Go.Proofs.YtmicpdibnkmekaaGreatDoor
open Go Go.RowKit

/-- A text of these bytes. -/
def str (l : List UInt8) : ByteArray := ⟨l.toArray⟩
theorem str_app (l m : List UInt8) : str l ++ str m = str (l ++ m) := by
  apply ByteArray.ext
  simp [str, ByteArray.data_append]
set_option maxHeartbeats 1000000 in
theorem zeros_any (n : Nat) (hn : n ≤ 1000) (w : World) : Calls Tryz.prog 120 #[.int .i64 n] w fun e w' => e = .returned (.string (str (List.replicate n 48))) ∧ Below w.heap.size w w' := by
  go_enter Tryz.func120, Tryz.ntmps120
  go_wp2_with fail
  go_loopw [3, 4] (fun v i wr => ∃ q : Nat, v = .string (str (List.replicate q 48)) ∧ i = .int .i64 q ∧ q ≤ n ∧ Below w.heap.size w wr) (fun _ i _ => n - (Go.RowKit.intOf i).toNat)
  case atStart => exact ⟨0, rfl, rfl, Nat.zero_le _, Below.refl _ _⟩
  case round =>
    obtain ⟨q, rfl, rfl, hq, hb⟩ := hrel
    by_cases hlt : q < n
    · have i1 : (q : Int) < (n : Int) := by omega
      have hs : (str (List.replicate q 48)).size = q := by simp [str, ByteArray.size]
      have hq63 : q ≤ 1000 := by omega
      have h1 : (⟨#[48]⟩ : ByteArray).size = 1 := rfl
      have hle : (str (List.replicate q 48)).size + (⟨#[48]⟩ : ByteArray).size ≤ 9223372036854775807 := by omega
      go_wp2_with fail
      go_roundw
      case rel => exact ⟨q + 1, by rw [show (⟨#[48]⟩ : ByteArray) = str [48] from rfl, str_app, ← List.replicate_succ'], by go_num, by omega, hb⟩
      case measure => simp [Go.RowKit.intOf]; omega
    · obtain rfl : n = q := by omega
      go_wp2_with fail
      go_ret
      exact ⟨rfl, hb⟩
theorem expD_is (k : Nat) (h : k < 500) : expD k = if k < 10 then 48 :: Lib.decDigits k else Lib.decDigits k := by
  unfold expD
  by_cases h1 : k < 10
  · rw [if_pos h1, if_pos h1, Lib.decDigits_one h1]
  · rw [if_neg h1, if_neg h1]
    by_cases h2 : k < 100
    · rw [if_pos h2, Lib.decDigits_two h1 h2]
    · rw [if_neg h2, Lib.decDigits, dif_neg h1, Lib.decDigits_two (by omega) (by omega)]
      have e : k / 10 / 10 = k / 100 := by omega
      rw [e]
      rfl
end Go.Proofs.YtmicpdibnkmekaaGreatDoor
namespace Go.Proofs.YtmicpdibnkmekaaGreatDoor
open Go Go.RowKit

theorem str_size (l : List UInt8) : (str l).size = l.length := by simp [str, ByteArray.size]
theorem str_take (l : List UInt8) (j : Nat) : (str l).extract 0 j = str (l.take j) := by
  apply ByteArray.ext
  simp [str, ByteArray.data_extract]
theorem str_drop (l : List UInt8) (j n : Nat) (h : l.length = n) : (str l).extract j n = str (l.drop j) := by
  apply ByteArray.ext
  subst h
  simp [str, ByteArray.data_extract]
  rw [List.take_of_length_le (by simp)]
theorem lit0 : (⟨#[]⟩ : ByteArray) = str [] := rfl
theorem lit45 : (⟨#[45]⟩ : ByteArray) = str [45] := rfl
theorem lit43 : (⟨#[43]⟩ : ByteArray) = str [43] := rfl
theorem lit46 : (⟨#[46]⟩ : ByteArray) = str [46] := rfl
theorem lit48 : (⟨#[48]⟩ : ByteArray) = str [48] := rfl
theorem lit101 : (⟨#[101]⟩ : ByteArray) = str [101] := rfl
theorem lit4846 : (⟨#[48, 46]⟩ : ByteArray) = str [48, 46] := rfl
set_option maxRecDepth 100000 in
set_option maxHeartbeats 2000000 in
theorem refText_A_p_fin (b : Nat) (hb : b < 18446744073709551616) (hf : szB b < 9218868437227405312) (hz : szB b ≠ 0) (hN : negB b = false) (d : List UInt8) (x : Int) (n : Nat) (hd : digF b = d) (hx : expF b = x) (hn : d.length = n) (hn0 : 1 ≤ n) (hn2 : n ≤ 20) (k : Nat) (h3 : x - (n : Int) + 1 = (k : Int)) (hk : k ≤ 1000) (h1 : -4 ≤ x) (h2 : x ≤ (n : Int) + 14) (w : World) (hW : NumW w) :
    Calls Tryz.prog 70 #[.float .f64 b] w fun e w' => e = .returned (.string (str ([] ++ (d ++ List.replicate k 48)))) ∧ Below w.heap.size w w' := by
  have z1 := eq_zero b
  have z2 : decide (szB b = 0) = false := decide_eq_false (by omega)
  have z3 : decide (9218868437227405312 < szB b) = false := decide_eq_false (by omega)
  have z4 : decide (szB b = 9218868437227405312) = false := decide_eq_false (by omega)
  have hD := refDigits_nz b hb hf hz w hW
  rw [hd, hx] at hD
  have e1 : (⟨d.toArray⟩ : ByteArray) = str d := rfl
  rw [e1] at hD
  have hs := str_size d
  rw [hn] at hs
  have g1 : (n : Int) - 1 ≤ x := by omega
  have hr : (str (List.replicate k 48)).size = k := by rw [str_size, List.length_replicate]
  go_enter Tryz.func70, Tryz.ntmps70
  go_wp2_with fail
  refine (IsNaN_any b w).mono ?_
  rintro e w0 ⟨rfl, rfl⟩
  go_wp2_with fail
  refine (Signbit_any b hb w).mono ?_
  rintro e w0 ⟨rfl, rfl⟩
  rw [hN]
  go_wp2_with fail
  refine (IsInf_any b hb w).mono ?_
  rintro e w0 ⟨rfl, rfl⟩
  go_wp2_with fail
  refine hD.mono ?_
  rintro e w1 ⟨rfl, hb1⟩
  clear hD
  go_wp2_with fail
  refine (zeros_any k hk w1).mono ?_
  rintro e w2 ⟨rfl, hb2⟩
  go_wp2_with fail
  go_ret
  refine ⟨?_, hb1.trans (hb2.mono hb1.size)⟩
  simp only [lit0, str_app, List.nil_append]
  rfl
set_option maxRecDepth 100000 in
set_option maxHeartbeats 2000000 in
theorem refText_B_p_fin (b : Nat) (hb : b < 18446744073709551616) (hf : szB b < 9218868437227405312) (hz : szB b ≠ 0) (hN : negB b = false) (d : List UInt8) (x : Int) (n : Nat) (hd : digF b = d) (hx : expF b = x) (hn : d.length = n) (hn0 : 1 ≤ n) (hn2 : n ≤ 20) (k : Nat) (h3 : x = (k : Int)) (hk : k + 1 < n) (w : World) (hW : NumW w) :
    Calls Tryz.prog 70 #[.float .f64 b] w fun e w' => e = .returned (.string (str ([] ++ (d.take (k + 1) ++ [46] ++ d.drop (k + 1))))) ∧ Below w.heap.size w w' := by
  have z1 := eq_zero b
  have z2 : decide (szB b = 0) = false := decide_eq_false (by omega)
  have z3 : decide (9218868437227405312 < szB b) = false := decide_eq_false (by omega)
  have z4 : decide (szB b = 9218868437227405312) = false := decide_eq_false (by omega)
  have hD := refDigits_nz b hb hf hz w hW
  rw [hd, hx] at hD
  have e1 : (⟨d.toArray⟩ : ByteArray) = str d := rfl
  rw [e1] at hD
  have hs := str_size d
  rw [hn] at hs
  subst h3
  have g1 : (k : Int) < (n : Int) - 1 := by omega
  have g2 : (k : Int) ≤ (n : Int) + 14 := by omega
  have g3 : (0 : Int) ≤ (k : Int) := by omega
  have g4 : (k : Int) + 1 ≤ (n : Int) := by omega
  go_enter Tryz.func70, Tryz.ntmps70
  go_wp2_with fail
  refine (IsNaN_any b w).mono ?_
  rintro e w0 ⟨rfl, rfl⟩
  go_wp2_with fail
  refine (Signbit_any b hb w).mono ?_
  rintro e w0 ⟨rfl, rfl⟩
  rw [hN]
  go_wp2_with fail
  refine (IsInf_any b hb w).mono ?_
  rintro e w0 ⟨rfl, rfl⟩
  go_wp2_with fail
  refine hD.mono ?_
  rintro e w1 ⟨rfl, hb1⟩
  clear hD
  go_wp2_with fail
  go_quiet (fail)
  go_wp2_with fail
  go_ret
  refine ⟨?_, hb1.trans ⟨rfl, rfl, rfl, Nat.le_refl _, fun _ _ => rfl⟩⟩
  simp only [lit0, lit46, str_app, str_take, str_drop d _ n hn, List.nil_append, List.append_assoc]
  rfl
set_option maxRecDepth 100000 in
set_option maxHeartbeats 2000000 in
theorem refText_C_p_fin (b : Nat) (hb : b < 18446744073709551616) (hf : szB b < 9218868437227405312) (hz : szB b ≠ 0) (hN : negB b = false) (d : List UInt8) (x : Int) (n : Nat) (hd : digF b = d) (hx : expF b = x) (hn : d.length = n) (hn0 : 1 ≤ n) (hn2 : n ≤ 20) (k : Nat) (h3 : -x - 1 = (k : Int)) (hk : k ≤ 1000) (h1 : -4 ≤ x) (_h2 : x < 0) (w : World) (hW : NumW w) :
    Calls Tryz.prog 70 #[.float .f64 b] w fun e w' => e = .returned (.string (str ([] ++ ([48, 46] ++ List.replicate k 48 ++ d)))) ∧ Below w.heap.size w w' := by
  have z1 := eq_zero b
  have z2 : decide (szB b = 0) = false := decide_eq_false (by omega)
  have z3 : decide (9218868437227405312 < szB b) = false := decide_eq_false (by omega)
  have z4 : decide (szB b = 9218868437227405312) = false := decide_eq_false (by omega)
  have hD := refDigits_nz b hb hf hz w hW
  rw [hd, hx] at hD
  have e1 : (⟨d.toArray⟩ : ByteArray) = str d := rfl
  rw [e1] at hD
  have hs := str_size d
  rw [hn] at hs
  have g1 : x < (n : Int) - 1 := by omega
  have g2 : x ≤ (n : Int) + 14 := by omega
  have hr : (str (List.replicate k 48)).size = k := by rw [str_size, List.length_replicate]
  go_enter Tryz.func70, Tryz.ntmps70
  go_wp2_with fail
  refine (IsNaN_any b w).mono ?_
  rintro e w0 ⟨rfl, rfl⟩
  go_wp2_with fail
  refine (Signbit_any b hb w).mono ?_
  rintro e w0 ⟨rfl, rfl⟩
  rw [hN]
  go_wp2_with fail
  refine (IsInf_any b hb w).mono ?_
  rintro e w0 ⟨rfl, rfl⟩
  go_wp2_with fail
  refine hD.mono ?_
  rintro e w1 ⟨rfl, hb1⟩
  clear hD
  go_wp2_with fail
  refine (zeros_any k hk w1).mono ?_
  rintro e w2 ⟨rfl, hb2⟩
  go_wp2_with fail
  go_ret
  refine ⟨?_, hb1.trans (hb2.mono hb1.size)⟩
  simp only [lit0, lit4846, str_app, List.nil_append, List.append_assoc]
  rfl
set_option maxRecDepth 100000 in
set_option maxHeartbeats 2000000 in
theorem refText_A_m_fin (b : Nat) (hb : b < 18446744073709551616) (hf : szB b < 9218868437227405312) (hz : szB b ≠ 0) (hN : negB b = true) (d : List UInt8) (x : Int) (n : Nat) (hd : digF b = d) (hx : expF b = x) (hn : d.length = n) (hn0 : 1 ≤ n) (hn2 : n ≤ 20) (k : Nat) (h3 : x - (n : Int) + 1 = (k : Int)) (hk : k ≤ 1000) (h1 : -4 ≤ x) (h2 : x ≤ (n : Int) + 14) (w : World) (hW : NumW w) :
    Calls Tryz.prog 70 #[.float .f64 b] w fun e w' => e = .returned (.string (str ([45] ++ (d ++ List.replicate k 48)))) ∧ Below w.heap.size w w' := by
  have z1 := eq_zero b
  have z2 : decide (szB b = 0) = false := decide_eq_false (by omega)
  have z3 : decide (9218868437227405312 < szB b) = false := decide_eq_false (by omega)
  have z4 : decide (szB b = 9218868437227405312) = false := decide_eq_false (by omega)
  have hD := refDigits_nz b hb hf hz w hW
  rw [hd, hx] at hD
  have e1 : (⟨d.toArray⟩ : ByteArray) = str d := rfl
  rw [e1] at hD
  have hs := str_size d
  rw [hn] at hs
  have g1 : (n : Int) - 1 ≤ x := by omega
  have hr : (str (List.replicate k 48)).size = k := by rw [str_size, List.length_replicate]
  go_enter Tryz.func70, Tryz.ntmps70
  go_wp2_with fail
  refine (IsNaN_any b w).mono ?_
  rintro e w0 ⟨rfl, rfl⟩
  go_wp2_with fail
  refine (Signbit_any b hb w).mono ?_
  rintro e w0 ⟨rfl, rfl⟩
  rw [hN]
  go_wp2_with fail
  refine (IsInf_any b hb w).mono ?_
  rintro e w0 ⟨rfl, rfl⟩
  go_wp2_with fail
  refine hD.mono ?_
  rintro e w1 ⟨rfl, hb1⟩
  clear hD
  go_wp2_with fail
  refine (zeros_any k hk w1).mono ?_
  rintro e w2 ⟨rfl, hb2⟩
  go_wp2_with fail
  go_ret
  refine ⟨?_, hb1.trans (hb2.mono hb1.size)⟩
  simp only [lit45, str_app, List.append_assoc]
  rfl
set_option maxRecDepth 100000 in
set_option maxHeartbeats 2000000 in
theorem refText_B_m_fin (b : Nat) (hb : b < 18446744073709551616) (hf : szB b < 9218868437227405312) (hz : szB b ≠ 0) (hN : negB b = true) (d : List UInt8) (x : Int) (n : Nat) (hd : digF b = d) (hx : expF b = x) (hn : d.length = n) (hn0 : 1 ≤ n) (hn2 : n ≤ 20) (k : Nat) (h3 : x = (k : Int)) (hk : k + 1 < n) (w : World) (hW : NumW w) :
    Calls Tryz.prog 70 #[.float .f64 b] w fun e w' => e = .returned (.string (str ([45] ++ (d.take (k + 1) ++ [46] ++ d.drop (k + 1))))) ∧ Below w.heap.size w w' := by
  have z1 := eq_zero b
  have z2 : decide (szB b = 0) = false := decide_eq_false (by omega)
  have z3 : decide (9218868437227405312 < szB b) = false := decide_eq_false (by omega)
  have z4 : decide (szB b = 9218868437227405312) = false := decide_eq_false (by omega)
  have hD := refDigits_nz b hb hf hz w hW
  rw [hd, hx] at hD
  have e1 : (⟨d.toArray⟩ : ByteArray) = str d := rfl
  rw [e1] at hD
  have hs := str_size d
  rw [hn] at hs
  subst h3
  have g1 : (k : Int) < (n : Int) - 1 := by omega
  have g2 : (k : Int) ≤ (n : Int) + 14 := by omega
  have g3 : (0 : Int) ≤ (k : Int) := by omega
  have g4 : (k : Int) + 1 ≤ (n : Int) := by omega
  go_enter Tryz.func70, Tryz.ntmps70
  go_wp2_with fail
  refine (IsNaN_any b w).mono ?_
  rintro e w0 ⟨rfl, rfl⟩
  go_wp2_with fail
  refine (Signbit_any b hb w).mono ?_
  rintro e w0 ⟨rfl, rfl⟩
  rw [hN]
  go_wp2_with fail
  refine (IsInf_any b hb w).mono ?_
  rintro e w0 ⟨rfl, rfl⟩
  go_wp2_with fail
  refine hD.mono ?_
  rintro e w1 ⟨rfl, hb1⟩
  clear hD
  go_wp2_with fail
  go_quiet (fail)
  go_wp2_with fail
  go_ret
  refine ⟨?_, hb1.trans ⟨rfl, rfl, rfl, Nat.le_refl _, fun _ _ => rfl⟩⟩
  simp only [lit45, lit46, str_app, str_take, str_drop d _ n hn, List.append_assoc]
  rfl
set_option maxRecDepth 100000 in
set_option maxHeartbeats 2000000 in
theorem refText_C_m_fin (b : Nat) (hb : b < 18446744073709551616) (hf : szB b < 9218868437227405312) (hz : szB b ≠ 0) (hN : negB b = true) (d : List UInt8) (x : Int) (n : Nat) (hd : digF b = d) (hx : expF b = x) (hn : d.length = n) (hn0 : 1 ≤ n) (hn2 : n ≤ 20) (k : Nat) (h3 : -x - 1 = (k : Int)) (hk : k ≤ 1000) (h1 : -4 ≤ x) (_h2 : x < 0) (w : World) (hW : NumW w) :
    Calls Tryz.prog 70 #[.float .f64 b] w fun e w' => e = .returned (.string (str ([45] ++ ([48, 46] ++ List.replicate k 48 ++ d)))) ∧ Below w.heap.size w w' := by
  have z1 := eq_zero b
  have z2 : decide (szB b = 0) = false := decide_eq_false (by omega)
  have z3 : decide (9218868437227405312 < szB b) = false := decide_eq_false (by omega)
  have z4 : decide (szB b = 9218868437227405312) = false := decide_eq_false (by omega)
  have hD := refDigits_nz b hb hf hz w hW
  rw [hd, hx] at hD
  have e1 : (⟨d.toArray⟩ : ByteArray) = str d := rfl
  rw [e1] at hD
  have hs := str_size d
  rw [hn] at hs
  have g1 : x < (n : Int) - 1 := by omega
  have g2 : x ≤ (n : Int) + 14 := by omega
  have hr : (str (List.replicate k 48)).size = k := by rw [str_size, List.length_replicate]
  go_enter Tryz.func70, Tryz.ntmps70
  go_wp2_with fail
  refine (IsNaN_any b w).mono ?_
  rintro e w0 ⟨rfl, rfl⟩
  go_wp2_with fail
  refine (Signbit_any b hb w).mono ?_
  rintro e w0 ⟨rfl, rfl⟩
  rw [hN]
  go_wp2_with fail
  refine (IsInf_any b hb w).mono ?_
  rintro e w0 ⟨rfl, rfl⟩
  go_wp2_with fail
  refine hD.mono ?_
  rintro e w1 ⟨rfl, hb1⟩
  clear hD
  go_wp2_with fail
  refine (zeros_any k hk w1).mono ?_
  rintro e w2 ⟨rfl, hb2⟩
  go_wp2_with fail
  go_ret
  refine ⟨?_, hb1.trans (hb2.mono hb1.size)⟩
  simp only [lit45, lit4846, str_app, List.append_assoc]
  rfl
set_option maxRecDepth 100000 in
set_option maxHeartbeats 2000000 in
theorem refText_A_p_inf (b : Nat) (hb : b < 18446744073709551616) (hf : szB b = 9218868437227405312) (hN : negB b = false) (d : List UInt8) (x : Int) (n : Nat) (hd : digF 9218868437227405311 = d) (hx : expF 9218868437227405311 = x) (hn : d.length = n) (hn0 : 1 ≤ n) (hn2 : n ≤ 20) (k : Nat) (h3 : x - (n : Int) + 1 = (k : Int)) (hk : k ≤ 1000) (h1 : -4 ≤ x) (h2 : x ≤ (n : Int) + 14) (w : World) (hW : NumW w) :
    Calls Tryz.prog 70 #[.float .f64 b] w fun e w' => e = .returned (.string (str ([] ++ (d ++ List.replicate k 48)))) ∧ Below w.heap.size w w' := by
  have z1 := eq_zero b
  have z2 : decide (szB b = 0) = false := decide_eq_false (by omega)
  have z3 : decide (9218868437227405312 < szB b) = false := decide_eq_false (by omega)
  have z4 : decide (szB b = 9218868437227405312) = true := decide_eq_true hf
  have hD := refDigits_nz 9218868437227405311 (by omega) (by decide) (by decide) w hW
  rw [hd, hx] at hD
  have e1 : (⟨d.toArray⟩ : ByteArray) = str d := rfl
  rw [e1] at hD
  have hs := str_size d
  rw [hn] at hs
  have g1 : (n : Int) - 1 ≤ x := by omega
  have hr : (str (List.replicate k 48)).size = k := by rw [str_size, List.length_replicate]
  go_enter Tryz.func70, Tryz.ntmps70
  go_wp2_with fail
  refine (IsNaN_any b w).mono ?_
  rintro e w0 ⟨rfl, rfl⟩
  go_wp2_with fail
  refine (Signbit_any b hb w).mono ?_
  rintro e w0 ⟨rfl, rfl⟩
  rw [hN]
  go_wp2_with fail
  refine (IsInf_any b hb w).mono ?_
  rintro e w0 ⟨rfl, rfl⟩
  go_wp2_with fail
  refine hD.mono ?_
  rintro e w1 ⟨rfl, hb1⟩
  clear hD
  go_wp2_with fail
  refine (zeros_any k hk w1).mono ?_
  rintro e w2 ⟨rfl, hb2⟩
  go_wp2_with fail
  go_ret
  refine ⟨?_, hb1.trans (hb2.mono hb1.size)⟩
  simp only [lit0, str_app, List.nil_append]
  rfl
set_option maxRecDepth 100000 in
set_option maxHeartbeats 2000000 in
theorem refText_B_p_inf (b : Nat) (hb : b < 18446744073709551616) (hf : szB b = 9218868437227405312) (hN : negB b = false) (d : List UInt8) (x : Int) (n : Nat) (hd : digF 9218868437227405311 = d) (hx : expF 9218868437227405311 = x) (hn : d.length = n) (hn0 : 1 ≤ n) (hn2 : n ≤ 20) (k : Nat) (h3 : x = (k : Int)) (hk : k + 1 < n) (w : World) (hW : NumW w) :
    Calls Tryz.prog 70 #[.float .f64 b] w fun e w' => e = .returned (.string (str ([] ++ (d.take (k + 1) ++ [46] ++ d.drop (k + 1))))) ∧ Below w.heap.size w w' := by
  have z1 := eq_zero b
  have z2 : decide (szB b = 0) = false := decide_eq_false (by omega)
  have z3 : decide (9218868437227405312 < szB b) = false := decide_eq_false (by omega)
  have z4 : decide (szB b = 9218868437227405312) = true := decide_eq_true hf
  have hD := refDigits_nz 9218868437227405311 (by omega) (by decide) (by decide) w hW
  rw [hd, hx] at hD
  have e1 : (⟨d.toArray⟩ : ByteArray) = str d := rfl
  rw [e1] at hD
  have hs := str_size d
  rw [hn] at hs
  subst h3
  have g1 : (k : Int) < (n : Int) - 1 := by omega
  have g2 : (k : Int) ≤ (n : Int) + 14 := by omega
  have g3 : (0 : Int) ≤ (k : Int) := by omega
  have g4 : (k : Int) + 1 ≤ (n : Int) := by omega
  go_enter Tryz.func70, Tryz.ntmps70
  go_wp2_with fail
  refine (IsNaN_any b w).mono ?_
  rintro e w0 ⟨rfl, rfl⟩
  go_wp2_with fail
  refine (Signbit_any b hb w).mono ?_
  rintro e w0 ⟨rfl, rfl⟩
  rw [hN]
  go_wp2_with fail
  refine (IsInf_any b hb w).mono ?_
  rintro e w0 ⟨rfl, rfl⟩
  go_wp2_with fail
  refine hD.mono ?_
  rintro e w1 ⟨rfl, hb1⟩
  clear hD
  go_wp2_with fail
  go_quiet (fail)
  go_wp2_with fail
  go_ret
  refine ⟨?_, hb1.trans ⟨rfl, rfl, rfl, Nat.le_refl _, fun _ _ => rfl⟩⟩
  simp only [lit0, lit46, str_app, str_take, str_drop d _ n hn, List.nil_append, List.append_assoc]
  rfl
set_option maxRecDepth 100000 in
set_option maxHeartbeats 2000000 in
theorem refText_C_p_inf (b : Nat) (hb : b < 18446744073709551616) (hf : szB b = 9218868437227405312) (hN : negB b = false) (d : List UInt8) (x : Int) (n : Nat) (hd : digF 9218868437227405311 = d) (hx : expF 9218868437227405311 = x) (hn : d.length = n) (hn0 : 1 ≤ n) (hn2 : n ≤ 20) (k : Nat) (h3 : -x - 1 = (k : Int)) (hk : k ≤ 1000) (h1 : -4 ≤ x) (_h2 : x < 0) (w : World) (hW : NumW w) :
    Calls Tryz.prog 70 #[.float .f64 b] w fun e w' => e = .returned (.string (str ([] ++ ([48, 46] ++ List.replicate k 48 ++ d)))) ∧ Below w.heap.size w w' := by
  have z1 := eq_zero b
  have z2 : decide (szB b = 0) = false := decide_eq_false (by omega)
  have z3 : decide (9218868437227405312 < szB b) = false := decide_eq_false (by omega)
  have z4 : decide (szB b = 9218868437227405312) = true := decide_eq_true hf
  have hD := refDigits_nz 9218868437227405311 (by omega) (by decide) (by decide) w hW
  rw [hd, hx] at hD
  have e1 : (⟨d.toArray⟩ : ByteArray) = str d := rfl
  rw [e1] at hD
  have hs := str_size d
  rw [hn] at hs
  have g1 : x < (n : Int) - 1 := by omega
  have g2 : x ≤ (n : Int) + 14 := by omega
  have hr : (str (List.replicate k 48)).size = k := by rw [str_size, List.length_replicate]
  go_enter Tryz.func70, Tryz.ntmps70
  go_wp2_with fail
  refine (IsNaN_any b w).mono ?_
  rintro e w0 ⟨rfl, rfl⟩
  go_wp2_with fail
  refine (Signbit_any b hb w).mono ?_
  rintro e w0 ⟨rfl, rfl⟩
  rw [hN]
  go_wp2_with fail
  refine (IsInf_any b hb w).mono ?_
  rintro e w0 ⟨rfl, rfl⟩
  go_wp2_with fail
  refine hD.mono ?_
  rintro e w1 ⟨rfl, hb1⟩
  clear hD
  go_wp2_with fail
  refine (zeros_any k hk w1).mono ?_
  rintro e w2 ⟨rfl, hb2⟩
  go_wp2_with fail
  go_ret
  refine ⟨?_, hb1.trans (hb2.mono hb1.size)⟩
  simp only [lit0, lit4846, str_app, List.nil_append, List.append_assoc]
  rfl
set_option maxRecDepth 100000 in
set_option maxHeartbeats 2000000 in
theorem refText_A_m_inf (b : Nat) (hb : b < 18446744073709551616) (hf : szB b = 9218868437227405312) (hN : negB b = true) (d : List UInt8) (x : Int) (n : Nat) (hd : digF 9218868437227405311 = d) (hx : expF 9218868437227405311 = x) (hn : d.length = n) (hn0 : 1 ≤ n) (hn2 : n ≤ 20) (k : Nat) (h3 : x - (n : Int) + 1 = (k : Int)) (hk : k ≤ 1000) (h1 : -4 ≤ x) (h2 : x ≤ (n : Int) + 14) (w : World) (hW : NumW w) :
    Calls Tryz.prog 70 #[.float .f64 b] w fun e w' => e = .returned (.string (str ([45] ++ (d ++ List.replicate k 48)))) ∧ Below w.heap.size w w' := by
  have z1 := eq_zero b
  have z2 : decide (szB b = 0) = false := decide_eq_false (by omega)
  have z3 : decide (9218868437227405312 < szB b) = false := decide_eq_false (by omega)
  have z4 : decide (szB b = 9218868437227405312) = true := decide_eq_true hf
  have hD := refDigits_nz 9218868437227405311 (by omega) (by decide) (by decide) w hW
  rw [hd, hx] at hD
  have e1 : (⟨d.toArray⟩ : ByteArray) = str d := rfl
  rw [e1] at hD
  have hs := str_size d
  rw [hn] at hs
  have g1 : (n : Int) - 1 ≤ x := by omega
  have hr : (str (List.replicate k 48)).size = k := by rw [str_size, List.length_replicate]
  go_enter Tryz.func70, Tryz.ntmps70
  go_wp2_with fail
  refine (IsNaN_any b w).mono ?_
  rintro e w0 ⟨rfl, rfl⟩
  go_wp2_with fail
  refine (Signbit_any b hb w).mono ?_
  rintro e w0 ⟨rfl, rfl⟩
  rw [hN]
  go_wp2_with fail
  refine (IsInf_any b hb w).mono ?_
  rintro e w0 ⟨rfl, rfl⟩
  go_wp2_with fail
  refine hD.mono ?_
  rintro e w1 ⟨rfl, hb1⟩
  clear hD
  go_wp2_with fail
  refine (zeros_any k hk w1).mono ?_
  rintro e w2 ⟨rfl, hb2⟩
  go_wp2_with fail
  go_ret
  refine ⟨?_, hb1.trans (hb2.mono hb1.size)⟩
  simp only [lit45, str_app, List.append_assoc]
  rfl
set_option maxRecDepth 100000 in
set_option maxHeartbeats 2000000 in
theorem refText_B_m_inf (b : Nat) (hb : b < 18446744073709551616) (hf : szB b = 9218868437227405312) (hN : negB b = true) (d : List UInt8) (x : Int) (n : Nat) (hd : digF 9218868437227405311 = d) (hx : expF 9218868437227405311 = x) (hn : d.length = n) (hn0 : 1 ≤ n) (hn2 : n ≤ 20) (k : Nat) (h3 : x = (k : Int)) (hk : k + 1 < n) (w : World) (hW : NumW w) :
    Calls Tryz.prog 70 #[.float .f64 b] w fun e w' => e = .returned (.string (str ([45] ++ (d.take (k + 1) ++ [46] ++ d.drop (k + 1))))) ∧ Below w.heap.size w w' := by
  have z1 := eq_zero b
  have z2 : decide (szB b = 0) = false := decide_eq_false (by omega)
  have z3 : decide (9218868437227405312 < szB b) = false := decide_eq_false (by omega)
  have z4 : decide (szB b = 9218868437227405312) = true := decide_eq_true hf
  have hD := refDigits_nz 9218868437227405311 (by omega) (by decide) (by decide) w hW
  rw [hd, hx] at hD
  have e1 : (⟨d.toArray⟩ : ByteArray) = str d := rfl
  rw [e1] at hD
  have hs := str_size d
  rw [hn] at hs
  subst h3
  have g1 : (k : Int) < (n : Int) - 1 := by omega
  have g2 : (k : Int) ≤ (n : Int) + 14 := by omega
  have g3 : (0 : Int) ≤ (k : Int) := by omega
  have g4 : (k : Int) + 1 ≤ (n : Int) := by omega
  go_enter Tryz.func70, Tryz.ntmps70
  go_wp2_with fail
  refine (IsNaN_any b w).mono ?_
  rintro e w0 ⟨rfl, rfl⟩
  go_wp2_with fail
  refine (Signbit_any b hb w).mono ?_
  rintro e w0 ⟨rfl, rfl⟩
  rw [hN]
  go_wp2_with fail
  refine (IsInf_any b hb w).mono ?_
  rintro e w0 ⟨rfl, rfl⟩
  go_wp2_with fail
  refine hD.mono ?_
  rintro e w1 ⟨rfl, hb1⟩
  clear hD
  go_wp2_with fail
  go_quiet (fail)
  go_wp2_with fail
  go_ret
  refine ⟨?_, hb1.trans ⟨rfl, rfl, rfl, Nat.le_refl _, fun _ _ => rfl⟩⟩
  simp only [lit45, lit46, str_app, str_take, str_drop d _ n hn, List.append_assoc]
  rfl
set_option maxRecDepth 100000 in
set_option maxHeartbeats 2000000 in
theorem refText_C_m_inf (b : Nat) (hb : b < 18446744073709551616) (hf : szB b = 9218868437227405312) (hN : negB b = true) (d : List UInt8) (x : Int) (n : Nat) (hd : digF 9218868437227405311 = d) (hx : expF 9218868437227405311 = x) (hn : d.length = n) (hn0 : 1 ≤ n) (hn2 : n ≤ 20) (k : Nat) (h3 : -x - 1 = (k : Int)) (hk : k ≤ 1000) (h1 : -4 ≤ x) (_h2 : x < 0) (w : World) (hW : NumW w) :
    Calls Tryz.prog 70 #[.float .f64 b] w fun e w' => e = .returned (.string (str ([45] ++ ([48, 46] ++ List.replicate k 48 ++ d)))) ∧ Below w.heap.size w w' := by
  have z1 := eq_zero b
  have z2 : decide (szB b = 0) = false := decide_eq_false (by omega)
  have z3 : decide (9218868437227405312 < szB b) = false := decide_eq_false (by omega)
  have z4 : decide (szB b = 9218868437227405312) = true := decide_eq_true hf
  have hD := refDigits_nz 9218868437227405311 (by omega) (by decide) (by decide) w hW
  rw [hd, hx] at hD
  have e1 : (⟨d.toArray⟩ : ByteArray) = str d := rfl
  rw [e1] at hD
  have hs := str_size d
  rw [hn] at hs
  have g1 : x < (n : Int) - 1 := by omega
  have g2 : x ≤ (n : Int) + 14 := by omega
  have hr : (str (List.replicate k 48)).size = k := by rw [str_size, List.length_replicate]
  go_enter Tryz.func70, Tryz.ntmps70
  go_wp2_with fail
  refine (IsNaN_any b w).mono ?_
  rintro e w0 ⟨rfl, rfl⟩
  go_wp2_with fail
  refine (Signbit_any b hb w).mono ?_
  rintro e w0 ⟨rfl, rfl⟩
  rw [hN]
  go_wp2_with fail
  refine (IsInf_any b hb w).mono ?_
  rintro e w0 ⟨rfl, rfl⟩
  go_wp2_with fail
  refine hD.mono ?_
  rintro e w1 ⟨rfl, hb1⟩
  clear hD
  go_wp2_with fail
  refine (zeros_any k hk w1).mono ?_
  rintro e w2 ⟨rfl, hb2⟩
  go_wp2_with fail
  go_ret
  refine ⟨?_, hb1.trans (hb2.mono hb1.size)⟩
  simp only [lit45, lit4846, str_app, List.append_assoc]
  rfl
end Go.Proofs.YtmicpdibnkmekaaGreatDoor

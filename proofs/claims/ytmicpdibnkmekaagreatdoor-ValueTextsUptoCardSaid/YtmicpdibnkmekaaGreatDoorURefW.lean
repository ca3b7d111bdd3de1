/- The document's Text. -/
import Derived.Test.YtmicpdibnkmekaaGreatDoorUQK
import Derived.Test.YtmicpdibnkmekaaGreatDoorURefU
import Derived.Test.YtmicpdibnkmekaaGreatDoorUSca
import Derived.Test.YtmicpdibnkmekaaGreatDoorUJoin
import Derived.Deep.Cut
import Derived.Deep.CutRange
import Derived.Deep.DeepCutAuto
namespace Go.Proofs.YtmicpdibnkmekaaGreatDoor
open Go Go.RowKit

/-- What the document's write promises, of all values of at most m levels that lie below w0. -/
def WriteC (w0 : World) (m : Nat) : Prop := ∀ (v : V) (lv kv : Value) (d : Nat) (pre : List UInt8) (pv : Value) (w : World), rightV d v = true → At w0 w0.heap.size m v lv kv → Below w0.heap.size w0 w → w.ownsRow w0.heap.size 5 1 pv pre.length (Lib.byteCells pre) → (pre ++ textV m v).length ≤ 1099511627776 →
    Calls Tryz.prog 32 #[pv, .agg (cellsV v lv kv)] w fun e w' => ∃ v', e = .returned v' ∧ w'.ownsRow w0.heap.size 5 1 v' (pre ++ textV m v).length (Lib.byteCells (pre ++ textV m v)) ∧ KS w0.heap.size w w'
theorem WriteC.cells {w0 : World} {m : Nat} (hC : WriteC w0 m) (v : V) (a1 a2 : Option Addr) (n1 k1 n2 k2 : Nat) (d : Nat) (pre : List UInt8) (pv : Value) (w : World) (hr : rightV d v = true) (h : At w0 w0.heap.size m v (.slice a1 n1 k1) (.slice a2 n2 k2)) (hbel : Below w0.heap.size w0 w) (ho : w.ownsRow w0.heap.size 5 1 pv pre.length (Lib.byteCells pre)) (hlen : (pre ++ textV m v).length ≤ 1099511627776) :
    Calls Tryz.prog 32 #[pv, .agg #[.int .i64 v.k, .float .f64 v.f, .string v.s, .slice a1 n1 k1, .slice a2 n2 k2]] w fun e w' => ∃ v', e = .returned v' ∧ w'.ownsRow w0.heap.size 5 1 v' (pre ++ textV m v).length (Lib.byteCells (pre ++ textV m v)) ∧ KS w0.heap.size w w' := hC v _ _ d pre pv w hr h hbel ho hlen
set_option maxRecDepth 100000 in
set_option maxHeartbeats 8000000 in
/-- Null, false, true. -/
theorem write_low (B : Nat) (k : Int) (T : ByteArray) (hk : (k = 0 ∧ T = ⟨#[110, 117, 108, 108]⟩) ∨ (k = 1 ∧ T = ⟨#[102, 97, 108, 115, 101]⟩) ∨ (k = 2 ∧ T = ⟨#[116, 114, 117, 101]⟩)) (f : Nat) (s : ByteArray) (a1 a2 : Option Addr) (n1 k1 n2 k2 : Nat) (pre : List UInt8) (hp : pre.length ≤ 1099511627776) (pv : Value) (w : World) (hB : B ≤ w.heap.size) (ho : w.ownsRow B 5 1 pv pre.length (Lib.byteCells pre)) :
    Calls Tryz.prog 32 #[pv, .agg #[.int .i64 k, .float .f64 f, .string s, .slice a1 n1 k1, .slice a2 n2 k2]] w fun e w' => ∃ v', e = .returned v' ∧ w'.ownsRow B 5 1 v' (pre ++ T.data.toList).length (Lib.byteCells (pre ++ T.data.toList)) ∧ KS B w w' := by
  have hsf := run_store_float Tryz.prog
  obtain ⟨i0, hi, hz0, hz1, hz2⟩ := info_parts infoU8
  have HO := Lib.hid ho
  clear ho
  rcases hk with ⟨rfl, rfl⟩ | ⟨rfl, rfl⟩ | ⟨rfl, rfl⟩
  all_goals
    go_enter Tryz.func32, Tryz.ntmps32
    go_wp2_with (at_builtin; refine Lib.wpList_append_own_string _ rfl _ _ 56 9 rfl B 5 i0 Tryz.underlying56 Tryz.underlying9 hi hz0 hz1 hz2 _ _ _ rfl (HO.out.alloc _) _ rfl ?c3 ?c4 ?c5 ?_)
    case c3 => unfold maxLen; simp [ByteArray.size]; omega
    case c4 => simp [ByteArray.size]; omega
    case c5 => simp; omega
    intro v' w2 hown2 hg _
    have hb2 : KS B w w2 := (KS.alloc w hB _).trans (KS.grow0 (HO.out.alloc _) hg (by simp; omega))
    have HB2 := Lib.hid hb2
    have HO2 := Lib.hid hown2
    clear hown2 hg hb2
    go_wp2_with fail
    go_ret
    refine ⟨_, rfl, ?_, HB2.out⟩
    have h9 := HO2.out
    rw [str_bytes] at h9
    rw [List.length_append, Lib.byteCells_append]
    exact h9
set_option maxRecDepth 100000 in
set_option maxHeartbeats 8000000 in
/-- A number. -/
theorem write_num (B : Nat) (f : Nat) (hf : f < 18446744073709551616) (s : ByteArray) (a1 a2 : Option Addr) (n1 k1 n2 k2 : Nat) (pre : List UInt8) (hp : pre.length ≤ 1099511627776) (pv : Value) (w : World) (hN : NumW w) (hB : B ≤ w.heap.size) (ho : w.ownsRow B 5 1 pv pre.length (Lib.byteCells pre)) :
    Calls Tryz.prog 32 #[pv, .agg #[.int .i64 3, .float .f64 f, .string s, .slice a1 n1 k1, .slice a2 n2 k2]] w fun e w' => ∃ v', e = .returned v' ∧ w'.ownsRow B 5 1 v' (pre ++ textB f).length (Lib.byteCells (pre ++ textB f)) ∧ KS B w w' := by
  have hsf := run_store_float Tryz.prog
  obtain ⟨i0, hi, hz0, hz1, hz2⟩ := info_parts infoU8
  obtain ⟨T, hT⟩ : ∃ T : ByteArray, str (textB f) = T := ⟨_, rfl⟩
  have hTL : T.data.toList = textB f := by rw [← hT]; simp [str]
  have hTz : T.size ≤ 1000 := by
    have h1 := textB_len f hf
    have h2 : T.data.toList.length = (textB f).length := by rw [hTL]
    simp at h2
    omega
  have htx := fun W hW => refText_any f hf W hW
  rw [hT] at htx
  rw [← hTL]
  have HTX := Lib.hid htx
  have HO := Lib.hid ho
  have HN := Lib.hid hN
  have HTL := Lib.hid (show T.data.toList.length = T.size by simp)
  clear ho htx hTL hT hN
  go_enter Tryz.func32, Tryz.ntmps32
  go_wp2_with fail
  have hb1 : KS B w (w.alloc (.cells #[.int .i64 3, .float .f64 f, .string s, .slice a1 n1 k1, .slice a2 n2 k2] 27)) := KS.alloc w hB _
  have hbl : Below w.heap.size w (w.alloc (.cells #[.int .i64 3, .float .f64 f, .string s, .slice a1 n1 k1, .slice a2 n2 k2] 27)) := (Below.refl _ w).alloc (Nat.le_refl _) _
  refine (HTX.out _ (HN.out.below hbl)).mono ?_
  rintro e w2 ⟨rfl, hb2⟩
  have ho2 := own_belowV (HO.out.alloc (.cells #[.int .i64 3, .float .f64 f, .string s, .slice a1 n1 k1, .slice a2 n2 k2] 27)) hb2
  have hz2' : B ≤ w2.heap.size := Nat.le_trans hb1.bel.size hb2.size |> fun h => by have := hb1.bel.size; omega
  have HO2 := Lib.hid ho2
  have HB2 := Lib.hid (hb1.trans (KS.of_below hb2 (by simp; omega)))
  clear hb1 hbl hb2 ho2
  go_wp2_with (at_builtin; refine Lib.wpList_append_own_string _ rfl _ _ 56 9 rfl B 5 i0 Tryz.underlying56 Tryz.underlying9 hi hz0 hz1 hz2 _ _ _ rfl (by exact HO2.out) _ rfl ?c3 ?c4 ?c5 ?_)
  case c3 => unfold maxLen; omega
  case c4 => omega
  case c5 => exact hz2'
  intro v' w3 hown3 hg _
  have HB3 := Lib.hid (HB2.out.trans (KS.grow0 HO2.out hg hz2'))
  have HO3 := Lib.hid hown3
  clear hown3 hg
  go_wp2_with fail
  go_ret
  refine ⟨_, rfl, ?_, HB3.out⟩
  have h9 := HO3.out
  rw [str_bytes] at h9
  rw [List.length_append, Lib.byteCells_append, HTL.out]
  exact h9
set_option maxRecDepth 100000 in
set_option maxHeartbeats 8000000 in
/-- A string. -/
theorem write_str (B : Nat) (f : Nat) (s : ByteArray) (hs : s.size ≤ 1048576) (hv : allGood s 0 = true) (a1 a2 : Option Addr) (n1 k1 n2 k2 : Nat) (pre : List UInt8) (hp : pre.length ≤ 1099511627776) (pv : Value) (w : World) (hB : B ≤ w.heap.size) (ho : w.ownsRow B 5 1 pv pre.length (Lib.byteCells pre)) :
    Calls Tryz.prog 32 #[pv, .agg #[.int .i64 4, .float .f64 f, .string s, .slice a1 n1 k1, .slice a2 n2 k2]] w fun e w' => ∃ v', e = .returned v' ∧ w'.ownsRow B 5 1 v' (pre ++ quoteR s).length (Lib.byteCells (pre ++ quoteR s)) ∧ KS B w w' := by
  have hsf := run_store_float Tryz.prog
  have hq := fun o => refQuoteK s (by omega) B pre hp pv (w.alloc o) (ho.alloc o) (by simp; omega)
  rw [quote_eq s hv] at hq
  have HQ := Lib.hid hq
  clear hq ho
  go_enter Tryz.func32, Tryz.ntmps32
  go_wp2_with fail
  refine (HQ.out _).mono ?_
  rintro e w2 ⟨v2, rfl, ho2, hb2⟩
  have HO2 := Lib.hid ho2
  have HB2 := Lib.hid ((KS.alloc w hB _).trans hb2)
  clear ho2 hb2
  go_wp2_with fail
  go_ret
  exact ⟨_, rfl, HO2.out, HB2.out⟩
end Go.Proofs.YtmicpdibnkmekaaGreatDoor
namespace Go.Proofs.YtmicpdibnkmekaaGreatDoor
open Go Go.RowKit

set_option maxRecDepth 100000 in
set_option maxHeartbeats 16000000 in
theorem write_arr (w0 : World) (m : Nat) (hC : WriteC w0 m) (v : V) (d : Nat) (hr : rightV d v = true) (f : Nat) (s : ByteArray) (a : Option Addr) (c B o : Nat) (a2 : Option Addr) (n2 k2 : Nat) (hls : v.l.length ≤ 1048576)
    (hab : 0 < v.l.length → a = some ⟨B, o, none⟩ ∧ B < w0.heap.size) (hi : ∀ i (h : i < v.l.length), ∃ lv' kv', FiveAt w0 B (o + i * 5) (v.l[i]) lv' kv' ∧ At w0 w0.heap.size m (v.l[i]) lv' kv') (pre : List UInt8) (pv : Value) (w : World) (hbel : Below w0.heap.size w0 w) (ho : w.ownsRow w0.heap.size 5 1 pv pre.length (Lib.byteCells pre))
    (hlen : (pre ++ 91 :: (rowB (fun i => textV m (v.l.getD i default)) v.l.length ++ [93])).length ≤ 1099511627776) :
    Calls Tryz.prog 32 #[pv, .agg #[.int .i64 5, .float .f64 f, .string s, .slice a v.l.length c, .slice a2 n2 k2]] w fun e w' => ∃ v', e = .returned v' ∧ w'.ownsRow w0.heap.size 5 1 v' (pre ++ 91 :: (rowB (fun i => textV m (v.l.getD i default)) v.l.length ++ [93])).length (Lib.byteCells (pre ++ 91 :: (rowB (fun i => textV m (v.l.getD i default)) v.l.length ++ [93]))) ∧ KS w0.heap.size w w' := by
  have hsf := run_store_float Tryz.prog
  obtain ⟨T, hT⟩ : ∃ T : Nat → List UInt8, (fun i => textV m (v.l.getD i default)) = T := ⟨_, rfl⟩
  rw [hT] at hlen ⊢
  have hTj : ∀ j (hj : j < v.l.length), textV m v.l[j] = T j := fun j hj => by rw [← hT]; simp [List.getD, hj]
  have hln : (pre ++ 91 :: (rowB T v.l.length ++ [93])).length = pre.length + (rowB T v.l.length).length + 2 := by simp; omega
  rw [hln] at hlen
  have hZ := hbel.size
  have HO := Lib.hid ho
  have HC := Lib.hid hC
  have HI := Lib.hid hi
  have HAB := Lib.hid hab
  have HR := Lib.hid hr
  have HTJ := Lib.hid hTj
  have HBEL := Lib.hid hbel
  clear ho hC hi hab hr hTj hT hbel hln
  go_enter Tryz.func32, Tryz.ntmps32
  go_upto_region 13 with fail
  have HOA := Lib.hid (HO.out.alloc (.cells #[.int .i64 5, .float .f64 f, .string s, .slice a v.l.length c, .slice a2 n2 k2] 27))
  have HRA := Lib.hid (heap_alloc_new w (.cells #[.int .i64 5, .float .f64 f, .string s, .slice a v.l.length c, .slice a2 n2 k2] 27))
  have HKA := Lib.hid (KS.alloc w hZ (.cells #[.int .i64 5, .float .f64 f, .string s, .slice a v.l.length c, .slice a2 n2 k2] 27))
  have hZ1 : w0.heap.size ≤ (w.alloc (.cells #[.int .i64 5, .float .f64 f, .string s, .slice a v.l.length c, .slice a2 n2 k2] 27)).heap.size := by simp; omega
  generalize (w.alloc (.cells #[.int .i64 5, .float .f64 f, .string s, .slice a v.l.length c, .slice a2 n2 k2] 27)) = w01 at HOA HRA HKA hZ1 ⊢
  go_wp2_with (at_builtin; refine app_one rfl _ _ _ rfl w0.heap.size 5 _ 1 Tryz.underlying56 infoU8 rfl _ _ _ rfl (by exact HOA.out) rfl rfl ?c1 ?c2 hZ1 ?_)
  case c1 => unfold maxLen; omega
  case c2 => omega
  intro v1 w1 hown1 hg1 hb1'
  have hks0 := KS.grow HOA.out hg1 hZ1
  have HROW := Lib.hid (hks0.block HRA.out (by decide))
  have HKS := Lib.hid (HKA.out.trans hks0)
  have HO1 := Lib.hid hown1
  clear hown1 hg1 hb1' hks0 HO HOA HRA HKA
  go_wp2_with fail
  go_loopw [0, 5] (fun bv i W => ∃ j : Nat, i = .int .i64 j ∧ j ≤ v.l.length ∧ W.ownsRow w0.heap.size 5 1 bv (pre ++ 91 :: rowB T j).length (Lib.byteCells (pre ++ 91 :: rowB T j)) ∧ KS w0.heap.size w1 W) (fun _ i _ => v.l.length - (intOf i).toNat)
  case atStart =>
    refine ⟨0, rfl, Nat.zero_le _, ?_, KS.refl _ _⟩
    have := HO1.out
    have e1 : rowB T 0 = [] := rfl
    rw [e1, List.length_append, Lib.byteCells_append]
    exact this
  case round =>
    obtain ⟨j, rfl, hj, hown, hks⟩ := hrel
    have hm := rowB_mono T hj
    have hz := hks.bel.size
    have hZr : w0.heap.size ≤ wr.heap.size := by have := HKS.out.bel.size; omega
    have hrow := hks.block HROW.out (by decide)
    obtain ⟨e0, e1, e2, e3, e4, _⟩ := row5' hrow
    have HOW := Lib.hid hown
    have HKR := Lib.hid hks
    have HRW := Lib.hid hrow
    clear hown hks hrow HO1
    by_cases hlt : j < v.l.length
    · have hm1 := rowB_mono T (show j + 1 ≤ v.l.length by omega)
      have dj : decide ((j : Int) < (v.l.length : Int)) = true := decide_eq_true (by omega)
      have i0 : (0 : Int) ≤ (j : Int) := by omega
      have i1 : (j : Int) < (v.l.length : Int) := by omega
      obtain ⟨lv', kv', h5, hAt⟩ := HI.out j hlt
      obtain ⟨rfl, hBw⟩ := HAB.out (by omega)
      obtain ⟨a1, n1, k1, a3, n3, k3, rfl, rfl⟩ := hAt.slices
      have H5 := Lib.hid h5
      have HAT := Lib.hid hAt
      have htj := HTJ.out j hlt
      have HTE := Lib.hid htj
      clear h5 hAt htj
      by_cases hj0 : j = 0
      · have d0 : decide ((0 : Int) < (j : Int)) = false := decide_eq_false (by omega)
        have d1 : decide (0 < j) = false := decide_eq_false (by omega)
        have hj1 : j ≤ 0 := by omega
        have hr1 : rowB T (j + 1) = rowB T j ++ T j := by show _ ++ (if j = 0 then T j else 44 :: T j) = _; rw [if_pos hj0]
        have hrl : (rowB T (j + 1)).length = (rowB T j).length + (T j).length := by rw [hr1, List.length_append]
        have hq : (pre ++ 91 :: rowB T j) ++ T j = pre ++ 91 :: rowB T (j + 1) := by rw [hr1]; simp
        obtain ⟨f0, f1, f2, f3, f4⟩ := H5.out.keep hBw (fun p hp => (HBEL.out.trans (HKS.out.bel.trans HKR.out.bel)).cell hp)
        have hcl := fun pv' ho' => HC.out.cells v.l[j] a1 a3 n1 k1 n3 k3 (d - 1) (pre ++ 91 :: rowB T j) pv' wr (right_sub HR.out hlt) HAT.out (HBEL.out.trans (HKS.out.bel.trans HKR.out.bel)) ho' (by rw [HTE.out, hq]; simp; omega)
        rw [HTE.out, hq] at hcl
        have HCL := Lib.hid (hcl _ HOW.out)
        clear hj0 hr1 hrl hq hcl
        go_wp2_with fail
        refine HCL.out.mono ?_
        rintro e w3 ⟨v3, rfl, ho3, hk3⟩
        have HO3 := Lib.hid ho3
        have HK3 := Lib.hid (HKR.out.trans hk3)
        clear ho3 hk3
        go_wp2_with fail
        go_roundw
        case rel => exact ⟨j + 1, by go_num, by omega, HO3.out, HK3.out⟩
        case measure => simp [intOf]; omega
      · have d0 : decide ((0 : Int) < (j : Int)) = true := decide_eq_true (by omega)
        have d1 : decide (0 < j) = true := decide_eq_true (by omega)
        have hj1 : 1 ≤ j := by omega
        have hr1 : rowB T (j + 1) = rowB T j ++ 44 :: T j := by show _ ++ (if j = 0 then T j else 44 :: T j) = _; rw [if_neg hj0]
        have hrl : (rowB T (j + 1)).length = (rowB T j).length + (T j).length + 1 := by rw [hr1, List.length_append, List.length_cons]; omega
        have hq : ((pre ++ 91 :: rowB T j) ++ [44]) ++ T j = pre ++ 91 :: rowB T (j + 1) := by rw [hr1]; simp
        have hpl : (pre ++ 91 :: rowB T j).length = pre.length + (rowB T j).length + 1 := by simp; omega
        have hcl := fun W pv' hB ho' => HC.out.cells v.l[j] a1 a3 n1 k1 n3 k3 (d - 1) ((pre ++ 91 :: rowB T j) ++ [44]) pv' W (right_sub HR.out hlt) HAT.out hB ho' (by rw [HTE.out, hq]; simp; omega)
        rw [HTE.out, hq] at hcl
        have HCL := Lib.hid hcl
        clear hj0 hr1 hrl hq hcl
        go_wp2_with (at_builtin; refine app_one rfl _ _ _ rfl w0.heap.size 5 _ 1 Tryz.underlying56 infoU8 rfl _ _ _ rfl (by exact HOW.out) rfl rfl ?c1 ?c2 hZr ?_)
        case c1 => (try rw [hpl]); unfold maxLen; omega
        case c2 => (try rw [hpl]); omega
        intro v2 w2 hown2 hg2 hb2'
        have hk2 := KS.grow HOW.out hg2 hZr
        have HK2 := Lib.hid (HKR.out.trans hk2)
        have hown2' : w2.ownsRow w0.heap.size 5 1 v2 ((pre ++ 91 :: rowB T j) ++ [44]).length (Lib.byteCells ((pre ++ 91 :: rowB T j) ++ [44])) := by
          rw [List.length_append, Lib.byteCells_append, hpl]; exact hown2
        have HO2 := Lib.hid hown2'
        have hrow2 := hk2.block HRW.out (by decide)
        clear hown2 hown2' hg2 hb2' hk2 e0 e1 e2 e3 e4 HOW HKR
        obtain ⟨e0, e1, e2, e3, e4, _⟩ := row5' hrow2
        obtain ⟨f0, f1, f2, f3, f4⟩ := H5.out.keep hBw (fun p hp => (HBEL.out.trans (HKS.out.bel.trans HK2.out.bel)).cell hp)
        clear hrow2
        go_wp2_with fail
        refine (HCL.out _ _ (HBEL.out.trans (HKS.out.bel.trans HK2.out.bel)) HO2.out).mono ?_
        rintro e w3 ⟨v3, rfl, ho3, hk3⟩
        have HO3 := Lib.hid ho3
        have HK3 := Lib.hid (HK2.out.trans hk3)
        clear ho3 hk3
        go_wp2_with fail
        go_roundw
        case rel => exact ⟨j + 1, by go_num, by omega, HO3.out, HK3.out⟩
        case measure => simp [intOf]; omega
    · obtain rfl : j = v.l.length := by omega
      have dj : decide ((v.l.length : Int) < (v.l.length : Int)) = false := by simp
      have dj2 : decide (v.l.length < v.l.length) = false := by simp
      have hpl : (pre ++ 91 :: rowB T v.l.length).length = pre.length + (rowB T v.l.length).length + 1 := by simp; omega
      clear hlt hj
      go_wp2_with (at_builtin; refine app_one rfl _ _ _ rfl w0.heap.size 5 _ 1 Tryz.underlying56 infoU8 rfl _ _ _ rfl (by exact HOW.out) rfl rfl ?c1 ?c2 hZr ?_)
      case c1 => (try rw [hpl]); unfold maxLen; omega
      case c2 => (try rw [hpl]); omega
      intro v2 w2 hown2 hg2 hb2'
      have HK2 := Lib.hid (HKS.out.trans (HKR.out.trans (KS.grow HOW.out hg2 hZr)))
      have hown2' : w2.ownsRow w0.heap.size 5 1 v2 ((pre ++ 91 :: rowB T v.l.length) ++ [93]).length (Lib.byteCells ((pre ++ 91 :: rowB T v.l.length) ++ [93])) := by
        rw [List.length_append, Lib.byteCells_append, hpl]; exact hown2
      have hq : (pre ++ 91 :: rowB T v.l.length) ++ [93] = pre ++ 91 :: (rowB T v.l.length ++ [93]) := by simp
      rw [hq] at hown2'
      have HO2 := Lib.hid hown2'
      clear hown2 hown2' hg2 hb2' hpl hq
      go_wp2_with fail
      go_ret
      exact ⟨_, rfl, HO2.out, HK2.out⟩
end Go.Proofs.YtmicpdibnkmekaaGreatDoor

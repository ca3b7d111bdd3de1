/- The document's Text: objects, every value. -/
import Derived.Test.YtmicpdibnkmekaaGreatDoorURefW
namespace Go.Proofs.YtmicpdibnkmekaaGreatDoor
open Go Go.RowKit

set_option maxRecDepth 100000 in
set_option maxHeartbeats 16000000 in
theorem write_obj (w0 : World) (m : Nat) (hC : WriteC w0 m) (v : V) (d : Nat) (hr : rightV d v = true) (f : Nat) (s : ByteArray) (a : Option Addr) (c B o : Nat) (kv : Value) (hls : v.l.length ≤ 1048576) (hk : KeysAt w0 w0.heap.size kv v.ks) (hkl : v.ks.length = v.l.length) (hkg : ∀ key ∈ v.ks, key.size ≤ 1048576 ∧ allGood key 0 = true)
    (hab : 0 < v.l.length → a = some ⟨B, o, none⟩ ∧ B < w0.heap.size) (hi : ∀ i (h : i < v.l.length), ∃ lv' kv', FiveAt w0 B (o + i * 5) (v.l[i]) lv' kv' ∧ At w0 w0.heap.size m (v.l[i]) lv' kv') (pre : List UInt8) (pv : Value) (w : World) (hbel : Below w0.heap.size w0 w) (ho : w.ownsRow w0.heap.size 5 1 pv pre.length (Lib.byteCells pre))
    (hlen : (pre ++ 123 :: (rowB (fun i => quoteR (v.ks.getD i default) ++ 58 :: textV m (v.l.getD i default)) v.l.length ++ [125])).length ≤ 1099511627776) :
    Calls Tryz.prog 32 #[pv, .agg #[.int .i64 6, .float .f64 f, .string s, .slice a v.l.length c, kv]] w fun e w' => ∃ v', e = .returned v' ∧ w'.ownsRow w0.heap.size 5 1 v' (pre ++ 123 :: (rowB (fun i => quoteR (v.ks.getD i default) ++ 58 :: textV m (v.l.getD i default)) v.l.length ++ [125])).length (Lib.byteCells (pre ++ 123 :: (rowB (fun i => quoteR (v.ks.getD i default) ++ 58 :: textV m (v.l.getD i default)) v.l.length ++ [125]))) ∧ KS w0.heap.size w w' := by
  have hsf := run_store_float Tryz.prog
  obtain ⟨T, hT⟩ : ∃ T : Nat → List UInt8, (fun i => quoteR (v.ks.getD i default) ++ 58 :: textV m (v.l.getD i default)) = T := ⟨_, rfl⟩
  rw [hT] at hlen ⊢
  have hTj : ∀ j (hj : j < v.l.length) (hj2 : j < v.ks.length), T j = quoteR (v.ks[j]'hj2) ++ 58 :: textV m v.l[j] := fun j hj hj2 => by
    rw [← hT]; simp [List.getD, hj, hj2]
  have hln : (pre ++ 123 :: (rowB T v.l.length ++ [125])).length = pre.length + (rowB T v.l.length).length + 2 := by simp; omega
  rw [hln] at hlen
  have hZ := hbel.size
  obtain ⟨A, ad, ck, rfl, hAD, hac⟩ := hk.1.dest
  rw [List.length_map] at hAD ⊢
  have HO := Lib.hid ho
  have HC := Lib.hid hC
  have HI := Lib.hid hi
  have HAB := Lib.hid hab
  have HAD := Lib.hid hAD
  have HAC := Lib.hid hac
  have HR := Lib.hid hr
  have HTJ := Lib.hid hTj
  have HBEL := Lib.hid hbel
  have HKL := Lib.hid hkl
  have HKG := Lib.hid hkg
  clear ho hC hi hab hr hTj hT hbel hln hAD hac hk hkl hkg
  go_enter Tryz.func32, Tryz.ntmps32
  go_upto_region 21 with fail
  have HOA := Lib.hid (HO.out.alloc (.cells #[.int .i64 6, .float .f64 f, .string s, .slice a v.l.length c, .slice A v.ks.length ck] 27))
  have HRA := Lib.hid (heap_alloc_new w (.cells #[.int .i64 6, .float .f64 f, .string s, .slice a v.l.length c, .slice A v.ks.length ck] 27))
  have HKA := Lib.hid (KS.alloc w hZ (.cells #[.int .i64 6, .float .f64 f, .string s, .slice a v.l.length c, .slice A v.ks.length ck] 27))
  have hZ1 : w0.heap.size ≤ (w.alloc (.cells #[.int .i64 6, .float .f64 f, .string s, .slice a v.l.length c, .slice A v.ks.length ck] 27)).heap.size := by simp; omega
  generalize (w.alloc (.cells #[.int .i64 6, .float .f64 f, .string s, .slice a v.l.length c, .slice A v.ks.length ck] 27)) = w01 at HOA HRA HKA hZ1 ⊢
  go_wp2_with (at_builtin; refine app_one rfl _ _ _ rfl w0.heap.size 5 _ 1 Tryz.underlying56 infoU8 rfl _ _ _ rfl (by exact HOA.out) rfl rfl ?c1 ?c2 hZ1 ?_)
  case c1 => unfold maxLen; omega
  case c2 => omega
  intro v1 w1 hown1 hg1 hb1'
  have hks0 := KS.grow HOA.out hg1 hZ1
  have HROW := Lib.hid (hks0.block HRA.out (by decide))
  have HKS := Lib.hid (HKA.out.trans hks0)
  have HO1 := Lib.hid hown1
  clear hown1 hg1 hb1' hks0 HO HOA HRA HKA
  go_wp2_with fail
  go_loopw [0, 6] (fun bv i W => ∃ j : Nat, i = .int .i64 j ∧ j ≤ v.l.length ∧ W.ownsRow w0.heap.size 5 1 bv (pre ++ 123 :: rowB T j).length (Lib.byteCells (pre ++ 123 :: rowB T j)) ∧ KS w0.heap.size w1 W) (fun _ i _ => v.l.length - (intOf i).toNat)
  case atStart =>
    refine ⟨0, rfl, Nat.zero_le _, ?_, KS.refl _ _⟩
    have := HO1.out
    have e1 : rowB T 0 = [] := rfl
    rw [e1, List.length_append, Lib.byteCells_append]
    exact this
  case round =>
    obtain ⟨j, rfl, hj, hown, hks⟩ := hrel
    have hm := rowB_mono T hj
    have hz := hks.bel.size
    have hZr : w0.heap.size ≤ wr.heap.size := by have := HKS.out.bel.size; omega
    have hrow := hks.block HROW.out (by decide)
    obtain ⟨e0, e1, e2, e3, e4, _⟩ := row5' hrow
    have HOW := Lib.hid hown
    have HKR := Lib.hid hks
    have HRW := Lib.hid hrow
    clear hown hks hrow HO1
    by_cases hlt : j < v.l.length
    · have hm1 := rowB_mono T (show j + 1 ≤ v.l.length by omega)
      have hjk : j < v.ks.length := by rw [HKL.out]; exact hlt
      have dj : decide ((j : Int) < (v.ks.length : Int)) = true := decide_eq_true (by omega)
      have hpl : (pre ++ 123 :: rowB T j).length = pre.length + (rowB T j).length + 1 := by simp; omega
      have HPL := Lib.hid hpl
      have hrr : (rowB T (j + 1)).length = (rowB T j).length + (T j).length + (if j = 0 then 0 else 1) := by
        show (rowB T j ++ _).length = _
        by_cases e : j = 0
        · rw [if_pos e, if_pos e, List.length_append]; rfl
        · rw [if_neg e, if_neg e, List.length_append, List.length_cons]; omega
      obtain ⟨lv', kv', h5, hAt⟩ := HI.out j hlt
      obtain ⟨rfl, hBw⟩ := HAB.out (by omega)
      obtain ⟨rfl, hAw⟩ := HAD.out (by omega)
      obtain ⟨a1, n1, k1, a3, n3, k3, rfl, rfl⟩ := hAt.slices
      have hck : w0.cell? (ad.add j) = some (.string (v.ks[j]'hjk)) := HAC.out j _ (by simp [hjk])
      have HCK := Lib.hid hck
      have H5 := Lib.hid h5
      have HAT := Lib.hid hAt
      clear h5 hAt hpl hck
      go_upto_if 72 with fail
      go_cut [0] from 72 to 75 (fun s0 wx => wx.ownsRow w0.heap.size 5 1 s0 (pre ++ 123 :: rowB T j ++ (if j = 0 then [] else [44])).length (Lib.byteCells (pre ++ 123 :: rowB T j ++ (if j = 0 then [] else [44]))) ∧ KS w0.heap.size wr wx)
      case first =>
        by_cases hj0 : j = 0
        · have d0 : decide ((0 : Int) < (j : Int)) = false := decide_eq_false (by omega)
          have d1 : decide (0 < j) = false := decide_eq_false (by omega)
          have hj1 : j ≤ 0 := by omega
          have HJ0 := Lib.hid hj0
          clear hj0 hrr
          go_wp2_with fail
          go_meet
          case rel => exact ⟨by rw [if_pos HJ0.out, List.append_nil]; exact HOW.out, KS.refl _ _⟩
        · have d0 : decide ((0 : Int) < (j : Int)) = true := decide_eq_true (by omega)
          have d1 : decide (0 < j) = true := decide_eq_true (by omega)
          have hj1 : 1 ≤ j := by omega
          have HJ0 := Lib.hid hj0
          clear hj0 hrr
          go_wp2_with (at_builtin; refine app_one rfl _ _ _ rfl w0.heap.size 5 _ 1 Tryz.underlying56 infoU8 rfl _ _ _ rfl (by exact HOW.out) rfl rfl ?c1 ?c2 hZr ?_)
          case c1 => (try rw [HPL.out]); unfold maxLen; omega
          case c2 => (try rw [HPL.out]); omega
          intro v2 w2 hown2 hg2 hb2'
          have HK2 := Lib.hid (KS.grow HOW.out hg2 hZr)
          have HO2 := Lib.hid hown2
          clear hown2 hg2 hb2'
          go_wp2_with fail
          go_meet
          case rel =>
            refine ⟨?_, HK2.out⟩
            have h9 := HO2.out
            have e9 : (pre ++ 123 :: rowB T j).length + [(44 : UInt8)].length = pre.length + ((rowB T j).length + 1) + 1 := by
              rw [HPL.out]
              show _ + 1 = _
              omega
            rw [if_neg HJ0.out, List.length_append (bs := [44]), Lib.byteCells_append, e9]
            exact h9
      case rest =>
        obtain ⟨hoc, hkc⟩ := hcut
        have hZc : w0.heap.size ≤ wc.heap.size := by have := hkc.bel.size; omega
        have HKC := Lib.hid (HKR.out.trans hkc)
        have HRC := Lib.hid (hkc.block HRW.out (by decide))
        clear e0 e1 e2 e3 e4 HOW HKR HRW hkc
        obtain ⟨e0, e1, e2, e3, e4, _⟩ := row5' HRC.out
        obtain ⟨P, hP⟩ : ∃ P, pre ++ 123 :: rowB T j ++ (if j = 0 then [] else [44]) = P := ⟨_, rfl⟩
        have hPl : P.length = pre.length + (rowB T j).length + 1 + (if j = 0 then 0 else 1) := by
          rw [← hP, List.length_append, HPL.out]
          by_cases e : j = 0
          · rw [if_pos e, if_pos e]; rfl
          · rw [if_neg e, if_neg e]; rfl
        rw [hP] at hoc
        have htj := HTJ.out j hlt hjk
        have htl : (T j).length = (quoteR (v.ks[j]'hjk)).length + 1 + (textV m v.l[j]).length := by rw [htj, List.length_append, List.length_cons]; omega
        have hqk := HKG.out _ (List.getElem_mem hjk)
        have hfull : P ++ quoteR (v.ks[j]'hjk) ++ [58] ++ textV m v.l[j] = pre ++ 123 :: rowB T (j + 1) := by
          rw [← hP]
          show _ = pre ++ 123 :: (rowB T j ++ (if j = 0 then T j else 44 :: T j))
          rw [htj]
          by_cases e : j = 0
          · rw [if_pos e, if_pos e]; simp [List.append_assoc]
          · rw [if_neg e, if_neg e]; simp [List.append_assoc]
        have hq := refQuoteK (v.ks[j]'hjk) (by omega) w0.heap.size P (by omega) _ wc hoc hZc
        rw [quote_eq _ hqk.2] at hq
        have i0 : (0 : Int) ≤ (j : Int) := by omega
        have i1 : (j : Int) < (v.l.length : Int) := by omega
        have i2 : (j : Int) < (v.ks.length : Int) := by omega
        have kc : wc.cell? (ad.add j) = some (.string (v.ks[j]'hjk)) := ((HBEL.out.trans (HKS.out.bel.trans HKC.out.bel)).cell (p := ad.add j) (by rw [add_block]; exact hAw)).trans HCK.out
        have hcl := fun W pv' hB ho' => HC.out.cells v.l[j] a1 a3 n1 k1 n3 k3 (d - 1) (P ++ quoteR (v.ks[j]'hjk) ++ [58]) pv' W (right_sub HR.out hlt) HAT.out hB ho' (by rw [hfull]; simp; omega)
        rw [hfull] at hcl
        obtain ⟨Q, hQ⟩ : ∃ Q, P ++ quoteR (v.ks[j]'hjk) = Q := ⟨_, rfl⟩
        rw [hQ] at hq hcl
        have hQl : Q.length ≤ 1099511627776 := by rw [← hQ, List.length_append]; omega
        have HQ := Lib.hid hq
        have HCL := Lib.hid hcl
        clear hoc hP hPl htj htl hqk hfull hq hcl hQ hrr
        go_wp2_with fail
        refine HQ.out.mono ?_
        rintro e w2 ⟨v2, rfl, ho2, hk2⟩
        have HO2 := Lib.hid ho2
        have HK2 := Lib.hid (HKC.out.trans hk2)
        have HR2 := Lib.hid (hk2.block HRC.out (by decide))
        have hZ2 : w0.heap.size ≤ w2.heap.size := by have := hk2.bel.size; omega
        clear ho2 hk2 e0 e1 e2 e3 e4 kc
        go_wp2_with (at_builtin; refine app_one rfl _ _ _ rfl w0.heap.size 5 _ 1 Tryz.underlying56 infoU8 rfl _ _ _ rfl (by exact HO2.out) rfl rfl ?c1 ?c2 hZ2 ?_)
        case c1 => unfold maxLen; omega
        case c2 => omega
        intro v3 w3 hown3 hg3 hb3'
        have hk3 := KS.grow HO2.out hg3 hZ2
        have HK3 := Lib.hid (HK2.out.trans hk3)
        have hown3' : w3.ownsRow w0.heap.size 5 1 v3 (Q ++ [58]).length (Lib.byteCells (Q ++ [58])) := by
          rw [List.length_append, Lib.byteCells_append]; exact hown3
        have HO3 := Lib.hid hown3'
        have hrow3 := hk3.block HR2.out (by decide)
        obtain ⟨e0, e1, e2, e3, e4, _⟩ := row5' hrow3
        obtain ⟨f0, f1, f2, f3, f4⟩ := H5.out.keep hBw (fun p hp => (HBEL.out.trans (HKS.out.bel.trans HK3.out.bel)).cell hp)
        clear hown3 hown3' hg3 hb3' hk3 hrow3
        go_wp2_with fail
        refine (HCL.out _ _ (HBEL.out.trans (HKS.out.bel.trans HK3.out.bel)) HO3.out).mono ?_
        rintro e w4 ⟨v4, rfl, ho4, hk4⟩
        have HO4 := Lib.hid ho4
        have HK4 := Lib.hid (HK3.out.trans hk4)
        clear ho4 hk4
        go_wp2_with fail
        go_roundw
        case rel => exact ⟨j + 1, by go_num, by omega, HO4.out, HK4.out⟩
        case measure => simp [intOf]; omega
    · obtain rfl : j = v.l.length := by omega
      have dj : decide ((v.l.length : Int) < (v.ks.length : Int)) = false := decide_eq_false (by have := HKL.out; omega)
      have dj2 : decide (v.l.length < v.ks.length) = false := decide_eq_false (by have := HKL.out; omega)
      have hkl2 : v.ks.length ≤ v.l.length := by have := HKL.out; omega
      have hpl : (pre ++ 123 :: rowB T v.l.length).length = pre.length + (rowB T v.l.length).length + 1 := by simp; omega
      clear hlt hj
      go_wp2_with (at_builtin; refine app_one rfl _ _ _ rfl w0.heap.size 5 _ 1 Tryz.underlying56 infoU8 rfl _ _ _ rfl (by exact HOW.out) rfl rfl ?c1 ?c2 hZr ?_)
      case c1 => (try rw [hpl]); unfold maxLen; omega
      case c2 => (try rw [hpl]); omega
      intro v2 w2 hown2 hg2 hb2'
      have HK2 := Lib.hid (HKS.out.trans (HKR.out.trans (KS.grow HOW.out hg2 hZr)))
      have hown2' : w2.ownsRow w0.heap.size 5 1 v2 ((pre ++ 123 :: rowB T v.l.length) ++ [125]).length (Lib.byteCells ((pre ++ 123 :: rowB T v.l.length) ++ [125])) := by
        rw [List.length_append, Lib.byteCells_append, hpl]; exact hown2
      have hq : (pre ++ 123 :: rowB T v.l.length) ++ [125] = pre ++ 123 :: (rowB T v.l.length ++ [125]) := by simp
      rw [hq] at hown2'
      have HO2 := Lib.hid hown2'
      clear hown2 hown2' hg2 hb2' hpl hq
      go_wp2_with fail
      go_ret
      exact ⟨_, rfl, HO2.out, HK2.out⟩
set_option maxRecDepth 100000 in
set_option maxHeartbeats 8000000 in
theorem write_all (w0 : World) (hN : NumW w0) (m : Nat) : WriteC w0 m := by
  induction m with
  | zero => intro v lv kv d pre pv w _ h; exact h.elim
  | succ m ih =>
    intro v lv kv d pre pv w hr h hbel ho hlen
    obtain ⟨hsm, ha, hcp, a, c, B, o, rfl, hab, hi⟩ := h.opened
    have hhead : headOK v = true := by
      cases d with
      | zero => cases hr
      | succ d => have hr : (headOK v && v.l.all (fun x => rightV d x)) = true := hr
                  rw [Bool.and_eq_true] at hr; exact hr.1
    rw [headOK_iff] at hhead
    obtain ⟨⟨hk0, hk6⟩, _, _, _, hkl, _, hvs, hok⟩ := hhead
    have hkg : ∀ key ∈ v.ks, key.size ≤ 1048576 ∧ allGood key 0 = true := fun key hk => ⟨key_small hsm.2.2.2.2.2.2 key hk, ok_good hok key hk⟩
    have hplen : pre.length ≤ 1099511627776 := by rw [List.length_append] at hlen; omega
    have hT : textV (m + 1) v = if v.k = 0 then nullT else if v.k = 1 then falseT else if v.k = 2 then trueT else if v.k = 3 then textB v.f else if v.k = 4 then quoteR v.s
      else if v.k = 5 then 91 :: (rowB (fun i => textV m (v.l.getD i default)) v.l.length ++ [93])
      else 123 :: (rowB (fun i => quoteR (v.ks.getD i default) ++ 58 :: textV m (v.l.getD i default)) v.l.length ++ [125]) := rfl
    have hkk : v.k = 0 ∨ v.k = 1 ∨ v.k = 2 ∨ v.k = 3 ∨ v.k = 4 ∨ v.k = 5 ∨ v.k = 6 := by omega
    by_cases h6 : v.k = 6
    · have e : textV (m + 1) v = 123 :: (rowB (fun i => quoteR (v.ks.getD i default) ++ 58 :: textV m (v.l.getD i default)) v.l.length ++ [125]) := by rw [hT, h6]; rfl
      rw [e] at hlen ⊢
      unfold cellsV
      rw [h6]
      exact write_obj w0 m ih v d hr v.f v.s a c B o kv hsm.2.2.2.2.1 ha (hkl.resolve_left (by omega)) hkg hab hi pre pv w hbel ho hlen
    obtain ⟨a2, n2, k2, hkv⟩ : ∃ a2 n2 k2, kv = .slice a2 n2 k2 := by obtain ⟨_, _, _, a2, n2, k2, _, e⟩ := h.slices; exact ⟨a2, n2, k2, e⟩
    subst hkv
    unfold cellsV
    rcases hkk with hk | hk | hk | hk | hk | hk | hk
    · have e : textV (m + 1) v = (⟨#[110, 117, 108, 108]⟩ : ByteArray).data.toList := by rw [hT, hk]; rfl
      rw [e, hk]
      exact write_low w0.heap.size 0 _ (Or.inl ⟨rfl, rfl⟩) v.f v.s _ _ _ _ _ _ pre hplen pv w hbel.size ho
    · have e : textV (m + 1) v = (⟨#[102, 97, 108, 115, 101]⟩ : ByteArray).data.toList := by rw [hT, hk]; rfl
      rw [e, hk]
      exact write_low w0.heap.size 1 _ (Or.inr (Or.inl ⟨rfl, rfl⟩)) v.f v.s _ _ _ _ _ _ pre hplen pv w hbel.size ho
    · have e : textV (m + 1) v = (⟨#[116, 114, 117, 101]⟩ : ByteArray).data.toList := by rw [hT, hk]; rfl
      rw [e, hk]
      exact write_low w0.heap.size 2 _ (Or.inr (Or.inr ⟨rfl, rfl⟩)) v.f v.s _ _ _ _ _ _ pre hplen pv w hbel.size ho
    · have e : textV (m + 1) v = textB v.f := by rw [hT, hk]; rfl
      rw [e, hk]
      exact write_num w0.heap.size v.f hsm.2.2.1 v.s _ _ _ _ _ _ pre hplen pv w (hN.below hbel) hbel.size ho
    · have e : textV (m + 1) v = quoteR v.s := by rw [hT, hk]; rfl
      rw [e, hk]
      exact write_str w0.heap.size v.f v.s hsm.2.2.2.1 hvs _ _ _ _ _ _ pre hplen pv w hbel.size ho
    · have e : textV (m + 1) v = 91 :: (rowB (fun i => textV m (v.l.getD i default)) v.l.length ++ [93]) := by rw [hT, hk]; rfl
      rw [e] at hlen ⊢
      rw [hk]
      exact write_arr w0 m ih v d hr v.f v.s a c B o a2 n2 k2 hsm.2.2.2.2.1 hab hi pre pv w hbel ho hlen
    · exact absurd hk h6
set_option maxRecDepth 100000 in
set_option maxHeartbeats 4000000 in
/-- The document's Text. -/
theorem refTextV_any (m : Nat) (v : V) (d : Nat) (lv kv : Value) (w : World) (hN : NumW w) (h : At w w.heap.size m v lv kv) (hr : rightV d v = true) (hlen : (textV m v).length ≤ 1099511627776) :
    Calls Tryz.prog 8 #[.agg (cellsV v lv kv)] w fun e w' => e = .returned (.string ⟨(textV m v).toArray⟩) ∧ Below w.heap.size w w' := by
  have hsf := run_store_float Tryz.prog
  have hwr := fun W hB => write_all w hN m v lv kv d [] (.slice none 0 0) W hr h hB (World.ownsRow_nil _ _ _ _) (by rw [List.nil_append]; exact hlen)
  rw [List.nil_append] at hwr
  obtain ⟨a1, n1, k1, a2, n2, k2, rfl, rfl⟩ := h.slices
  unfold cellsV at hwr ⊢
  have HWR := Lib.hid hwr
  have hb1 : Below w.heap.size w (w.alloc (.cells #[.int .i64 v.k, .float .f64 v.f, .string v.s, .slice a1 n1 k1, .slice a2 n2 k2] 27)) := (Below.refl w.heap.size w).alloc (Nat.le_refl _) _
  have HB1 := Lib.hid hb1
  clear hwr hb1 h hr hN
  go_enter Tryz.func8, Tryz.ntmps8
  go_wp2_with fail
  refine (HWR.out _ HB1.out).mono ?_
  rintro e w2 ⟨v2, rfl, ho2, hb2⟩
  have hst := arr_string (P := Tryz.prog) (Arr.of_own ho2 (Nat.le_refl _)) 56 9 5 Tryz.underlying56 Tryz.underlying5 Tryz.underlying9
  have HB2 := Lib.hid (HB1.out.trans hb2.bel)
  clear ho2 hb2
  go_wp2_with fail
  go_ret
  exact ⟨rfl, HB2.out⟩
end Go.Proofs.YtmicpdibnkmekaaGreatDoor

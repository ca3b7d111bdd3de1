/- ValueMerges: its walk. -/
import Derived.Test.YtdlighmnlcklnaaGreatDoorMLawO
import Derived.Test.YtdlighmnlcklnaaGreatDoorMLawG9
import Derived.Test.YtdlighmnlcklnaaGreatDoorMLawG10
import Derived.Test.YtdlighmnlcklnaaGreatDoorMLawG16
import Derived.Test.YtdlighmnlcklnaaGreatDoorMLawG17
import Derived.StillTailTactics
namespace Go.Proofs.YtdlighmnlcklnaaGreatDoor
open Go Go.RowKit

/-- A value's rows, opened: its values' places. -/
theorem opened_five {W : World} {B m : Nat} {v : V} {A : Option Addr} {n c : Nat} {kv : Value} (h : At W B (m + 1) v (.slice A n c) kv) : n = v.l.length ∧ ∃ (b o : Nat), (0 < v.l.length → A = some ⟨b, o, none⟩ ∧ b < B) ∧ ∀ i (h : i < v.l.length), ∃ x1 x2 x3 x4 x5 x6, FiveAt W b (o + i * 5) v.l[i] (.slice x1 x2 x3) (.slice x4 x5 x6) ∧ At W B m v.l[i] (.slice x1 x2 x3) (.slice x4 x5 x6) := by
  obtain ⟨_, _, _, a, c', b, o, e, hab, hi⟩ := h.opened
  cases e
  refine ⟨rfl, b, o, hab, fun i hlt => ?_⟩
  obtain ⟨lv, kv, h5, hat⟩ := hi i hlt
  obtain ⟨x1, x2, x3, x4, x5, x6, rfl, rfl⟩ := hat.slices
  exact ⟨_, _, _, _, _, _, h5, hat⟩
theorem opened_keys {W : World} {B m : Nat} {v : V} {lv : Value} {A : Option Addr} {n c : Nat} (h : At W B (m + 1) v lv (.slice A n c)) : n = v.ks.length ∧ ∃ ad : Addr, (0 < v.ks.length → A = some ad ∧ ad.block < B) ∧ ∀ i (hi : i < v.ks.length), W.cell? (ad.add i) = some (.string v.ks[i]) ∧ v.ks[i].size ≤ 1048576 := by
  obtain ⟨hs, hk, _⟩ := h.opened
  obtain ⟨A', ad, c', e, hA, hc⟩ := hk.1.dest
  rw [List.length_map] at e hA
  cases e
  refine ⟨rfl, ad, hA, fun i hi => ⟨hc i _ (by simp [hi]), ?_⟩⟩
  have := keysLen_up v.ks i hi
  have := keysLen_le v.ks (i + 1)
  have := hs.2.2.2.2.2.2
  omega
set_option maxRecDepth 100000 in
set_option maxHeartbeats 16000000 in
theorem merges_good (a : V) (m : Nat) (a1 : Option Addr) (n1 c1 : Nat) (a2 : Option Addr) (n2 c2 : Nat) (b : V) (a3 : Option Addr) (n3 c3 : Nat) (a4 : Option Addr) (n4 c4 : Nat) (w : World) (hN : NumW w)
    (ha : At w w.heap.size (m + 1) a (.slice a1 n1 c1) (.slice a2 n2 c2)) (hb : At w w.heap.size (m + 1) b (.slice a3 n3 c3) (.slice a4 n4 c4)) (g1 : rightV 10000 a = true) (g2 : rightV 10000 b = true) (h6a : a.k = 6) (h6b : b.k = 6) (hbulk : bulkV (m + 1) a + bulkV (m + 1) b ≤ 1048576) :
    Calls Tryz.prog 3 #[.agg (cellsV a (.slice a1 n1 c1) (.slice a2 n2 c2)), .agg (cellsV b (.slice a3 n3 c3) (.slice a4 n4 c4))] w fun e w' => e = .returned (.bool true) ∧ Below w.heap.size w w' := by
  have hsf := run_store_float Tryz.prog
  have oa := right_okO (m + 1) _ a g1
  have ob := right_okO (m + 1) _ b g2
  have hS := smalls_prod (m + 1) a b oa ob h6a h6b (at_smalls _ _ _ _ ha) (at_smalls _ _ _ _ hb) hbulk
  have oM := okO_prod (m + 1) a b oa ob h6a h6b
  have kM := prod_k (m + 1) a b h6b
  have tw := prod_twice (m + 1) a b oa ob h6a h6b
  have mb := merges_b oa ob h6a h6b
  have ma := merges_a oa ob h6a h6b
  obtain ⟨hna, hla, -, -, hca⟩ := rightM_obj g1 h6a
  obtain ⟨hnb, hlb, -, -, hcb⟩ := rightM_obj g2 h6b
  have hop1 := fun W (hW : Below w.heap.size w W) => Operate_prod a b m w.heap.size _ _ _ _ W hW.size (At.keep (fun p hp => hW.cell (by omega)) _ _ _ _ ha) (At.keep (fun p hp => hW.cell (by omega)) _ _ _ _ hb) oa ob h6a h6b hS
  obtain ⟨M, hM⟩ : ∃ M, prodV (m + 1) a b = M := ⟨_, rfl⟩
  simp only [hM] at hS oM kM tw mb ma hop1
  have hop2 := fun (W : World) (lv kv : Value) (hW : Below w.heap.size w W) (h : At W W.heap.size (m + 1) M lv kv) => Operate_prod M b m W.heap.size lv kv _ _ W (Nat.le_refl _) h ((hb.below hW).more hW.size) oM ob kM h6b (by rw [tw]; exact hS)
  simp only [tw] at hop2
  have hlM : M.ks.length ≤ M.l.length := Nat.le_of_eq (oM.1 kM).2.1
  have hrv := fun W (hW : Below w.heap.size w W) => refRightT_any (m + 1) a _ _ W ((ha.below hW).more hW.size)
  have hrx := fun W (hW : Below w.heap.size w W) => refRightT_any (m + 1) b _ _ W ((hb.below hW).more hW.size)
  simp only [g1] at hrv
  simp only [g2] at hrx
  obtain ⟨rfl, qa, oqa, habA, hfa⟩ := opened_five ha
  obtain ⟨rfl, qb, oqb, habB, hfb⟩ := opened_five hb
  obtain ⟨rfl, ada, hAa, hka⟩ := opened_keys ha
  obtain ⟨rfl, adb, hAb, hkb⟩ := opened_keys hb
  have hgA := fun (W : World) (key : ByteArray) (hW : Below w.heap.size w W) (hk : key.size ≤ 1000000000) (hc : cleanS key = key) => GetV_any a m _ _ key hk W ((ha.below hW).more hW.size) (Nat.le_of_eq hla) hc
  have hgB := fun (W : World) (key : ByteArray) (hW : Below w.heap.size w W) (hk : key.size ≤ 1000000000) (hc : cleanS key = key) => GetV_any b m _ _ key hk W ((hb.below hW).more hW.size) (Nat.le_of_eq hlb) hc
  have hgM := fun (W : World) (lv kv : Value) (key : ByteArray) (h : At W W.heap.size (m + 1) M lv kv) (hk : key.size ≤ 1000000000) (hc : cleanS key = key) => GetV_any M m lv kv key hk W h hlM hc
  have hsm := fun (W : World) (x : V) (lv kv lx kx : Value) (h1 : At W W.heap.size (m + 1) x lv kv) (h2 : At W W.heap.size (m + 1) x lx kx) => Same_refl (m + 1) x lv kv lx kx W h1 h2
  have hbl := ha.opened.1.2.2.2.2.2.1
  have hbl2 := hb.opened.1.2.2.2.2.2.1
  have hk1 : (a.k != 6) = false := by simpa using h6a
  have hk2 : (b.k != 6) = false := by simpa using h6b
  have hstr : largeT.toList = [118, 97, 108, 117, 101, 32, 105, 115, 32, 116, 111, 111, 32, 108, 97, 114, 103, 101] := by rw [Lib.toList_data]; rfl
  unfold cellsV
  simp only [cellsV] at hrv hrx hop1 hop2 hgA hgB hgM hsm
  have HN := Lib.hid (fun W (hW : Below w.heap.size w W) => hN.below hW)
  have HRV := Lib.hid hrv
  have HRX := Lib.hid hrx
  have HO1 := Lib.hid hop1
  have HO2 := Lib.hid hop2
  have HGA := Lib.hid hgA
  have HGB := Lib.hid hgB
  have HGM := Lib.hid hgM
  have HSM := Lib.hid hsm
  have HMB := Lib.hid mb
  have HMA := Lib.hid ma
  have HCA := Lib.hid hca
  have HCB := Lib.hid hcb
  have HABA := Lib.hid habA
  have HABB := Lib.hid habB
  have HFA := Lib.hid hfa
  have HFB := Lib.hid hfb
  have HAA := Lib.hid hAa
  have HAB := Lib.hid hAb
  have HKA := Lib.hid hka
  have HKB := Lib.hid hkb
  have HLA := Lib.hid hla
  have HLB := Lib.hid hlb
  have HS := Lib.hid (HW.start w)
  clear hrv hrx hop1 hop2 hgA hgB hgM hsm mb ma hca hcb habA habB hfa hfb hAa hAb hka hkb hla hlb hN ha hb g1 g2 h6a h6b hbulk oa ob hS oM kM tw hna hnb hlM hM
  go_enter Tryz.func3, Tryz.ntmps3
  go_wp2_with fail
  have H := Lib.hid (HS.out.two #[.int .i64 a.k, .float .f64 a.f, .string a.s, .slice a1 a.l.length c1, .slice a2 a.ks.length c2] #[.int .i64 b.k, .float .f64 b.f, .string b.s, .slice a3 b.l.length c3, .slice a4 b.ks.length c4] 27 27)
  clear HS
  refine (HRV.out _ H.out.bel).mono ?_
  rintro e w1 ⟨rfl, hb⟩
  have H1 := Lib.hid (H.out.below hb)
  obtain ⟨x0, x1, x2, x3, x4⟩ := row5p (H1.out.rows _ (.tail _ (.head _)))
  obtain ⟨y0, y1, y2, y3, y4⟩ := row5p (H1.out.rows _ (.head _))
  clear hb H
  go_wp2_with fail
  refine (HRX.out _ H1.out.bel).mono ?_
  rintro e w2 ⟨rfl, hb⟩
  have H2 := Lib.hid (H1.out.below hb)
  clear hb x0 x1 x2 x3 x4 y0 y1 y2 y3 y4 H1
  obtain ⟨x0, x1, x2, x3, x4⟩ := row5p (H2.out.rows _ (.tail _ (.head _)))
  obtain ⟨y0, y1, y2, y3, y4⟩ := row5p (H2.out.rows _ (.head _))
  go_wp2_with fail
  refine (HO1.out _ H2.out.bel).mono ?_
  rintro e w3 ⟨⟨v, lv, kv, bb, k', s', rfl, hat, hor⟩, hb⟩
  obtain ⟨p1, p2, p3, p4, p5, p6, rfl, rfl⟩ := AtP.slices hat
  have hh := H2.out.below hb
  have hz3 := hb.size
  clear x0 x1 x2 x3 x4 y0 y1 y2 y3 y4 H2
  have H := Lib.hid hh
  clear hh
  simp only [cellsV]
  rcases hor with ⟨ho, rfl, rfl, rfl⟩ | ⟨ho, rfl, rfl, rfl, rfl⟩
  · have hlg : largeV (m + 1) M = false ∧ M = v := by
      by_cases q : largeV (m + 1) M = true
      · rw [if_pos q] at ho; cases ho
      · rw [if_neg q] at ho
        exact ⟨by simpa using q, Option.some.inj ho⟩
    obtain ⟨hlg, rfl⟩ := hlg
    have HLG := Lib.hid hlg
    clear hlg ho
    have HH := H.out.two #[.int .i64 M.k, .float .f64 M.f, .string M.s, .slice p1 p2 p3, .slice p4 p5 p6] #[.bool false, .int .i64 0, .float .f64 0, .string ⟨#[]⟩, .slice none 0 0, .slice none 0 0] 27 31
    have hbw : Below w3.heap.size w3 ((w3.alloc (.cells #[.int .i64 M.k, .float .f64 M.f, .string M.s, .slice p1 p2 p3, .slice p4 p5 p6] 27)).alloc (.cells #[.bool false, .int .i64 0, .float .f64 0, .string ⟨#[]⟩, .slice none 0 0, .slice none 0 0] 31)) := ((Below.refl w3.heap.size w3).alloc (Nat.le_refl _) _).alloc (by simp) _
    have hatM := ((AtN.to_at hat (Nat.zero_le _)).below hbw).more hbw.size
    have H4 := Lib.hid HH
    have ATM := Lib.hid hatM
    obtain ⟨x0, x1, x2, x3, x4⟩ := row5p (HH.rows _ (.tail _ (.tail _ (.tail _ (.head _)))))
    obtain ⟨y0, y1, y2, y3, y4⟩ := row5p (HH.rows _ (.tail _ (.tail _ (.head _))))
    obtain ⟨z0, z1, z2, z3, z4, z5⟩ := row6p (HH.rows _ (.head _))
    clear HH hatM hat hb hbw H
    go_wp2_with fail
    clear x0 x1 x2 x3 x4 y0 y1 y2 y3 y4 z0 z1 z2 z3 z4 z5
    obtain ⟨W4, hW4⟩ : ∃ W, ((w3.alloc (.cells #[.int .i64 M.k, .float .f64 M.f, .string M.s, .slice p1 p2 p3, .slice p4 p5 p6] 27)).alloc (.cells #[.bool false, .int .i64 0, .float .f64 0, .string ⟨#[]⟩, .slice none 0 0, .slice none 0 0] 31)) = W := ⟨_, rfl⟩
    rw [hW4] at H4 ATM ⊢
    clear hW4
    have RA := Lib.hid (H4.out.rows _ (.tail _ (.tail _ (.tail _ (.head _)))))
    have RB := Lib.hid (H4.out.rows _ (.tail _ (.tail _ (.head _))))
    have RM := Lib.hid (H4.out.rows _ (.tail _ (.head _)))
    have hB4 := H4.out.bel
    have hl1 := H4.out.lt _ (.tail _ (.tail _ (.head _)))
    have hl2 := H4.out.lt _ (.tail _ (.head _))
    have hl1 : w.heap.size + 1 < W4.heap.size := hl1
    have hl2 : w3.heap.size < W4.heap.size := hl2
    have HB4 := Lib.hid hB4
    clear hB4 H4 hz3
    generalize w3.heap.size = PM at RM hl2 ⊢
    go_loopw [7] (fun k W => ∃ j : Nat, j ≤ b.ks.length ∧ k = .int .i64 j ∧ Below W4.heap.size W4 W) (fun k _ => b.ks.length - (intOf k).toNat)
    case atStart => exact ⟨0, Nat.zero_le _, rfl, Below.refl _ _⟩
    case round =>
      obtain ⟨j, hj, rfl, hbel⟩ := hrel
      have HBW := Lib.hid (HB4.out.trans (hbel.mono HB4.out.size))
      have rA := (hbel.block _ (by omega)).trans RA.out
      have rB := (hbel.block _ (by omega)).trans RB.out
      have rM := (hbel.block _ (by omega)).trans RM.out
      have hszr := hbel.size
      have ATW := Lib.hid (fun W (hW : Below wr.heap.size wr W) => ((ATM.out.below (hbel.trans (hW.mono hbel.size))).more (Nat.le_trans hbel.size hW.size)))
      have HBEL := Lib.hid hbel
      have HRA := Lib.hid rA
      have HRB := Lib.hid rB
      have HRM := Lib.hid rM
      obtain ⟨y0, y1, y2, y3, y4⟩ := row5p rB
      clear hbel rA rB rM
      by_cases hlt : j < b.ks.length
      · have hmb := HMB.out j hlt (by have := HLB.out; omega)
        have hjl : j < b.l.length := by have := HLB.out; omega
        obtain ⟨rfl, hadb⟩ := HAB.out (by omega)
        obtain ⟨hc, hsz⟩ := HKB.out j hlt
        have hcl := HCB.out _ (List.getElem_mem hlt)
        have hgm := fun W (hW : Below wr.heap.size wr W) => HGM.out W _ _ b.ks[j] (ATW.out W hW) (by omega) hcl
        have hga := fun W (hW : Below w.heap.size w W) => HGA.out W b.ks[j] hW (by omega) hcl
        rw [decide_eq_true hmb.1] at hgm
        have hor := hmb.2
        obtain ⟨X, hX⟩ : ∃ X, getV M b.ks[j] = X := ⟨_, rfl⟩
        obtain ⟨Y, hY⟩ : ∃ Y, getV a b.ks[j] = Y := ⟨_, rfl⟩
        obtain ⟨okY, hoY⟩ : ∃ o, decide (Lib.idxOfS a.ks b.ks[j] ≠ -1) = o := ⟨_, rfl⟩
        simp only [hX] at hgm hor
        simp only [hY, hoY] at hga hor
        have HGM1 := Lib.hid hgm
        have HGA1 := Lib.hid hga
        have HOR := Lib.hid hor
        have HC := Lib.hid hc
        clear hmb hgm hga hor hX hY hoY hcl hc
        go_wp2_with fail
        refine wp_mono (get_region9 wr PM (w.heap.size + 1) M.k M.f M.s p1 p4 p2 p3 p5 p6 _ _ _ _ adb b.ks.length c4 j b.ks[j] X true (m + 1) HRM.out HRB.out hlt hbl2 (by have := HBW.out.size; omega) ((HBW.out.cell (p := adb.add j) (by rw [add_block]; exact hadb)).trans HC.out) (fun W' hW' => HGM1.out W' hW') _ _ _ _ _ _ _ _ _ _ _ _ _ _ _ _ _ _ _ _ _ _ _ _ _ _ _ _ _ _ _ _ _ _ _ _ _ _ _ _ _ _ _ _ _ _ _ _ _ _ _ _ _ _ _ _ _ _ _ _ _ _ _ _ _ _ _ _ _ _ _ _ _ _ _ _ _ _ _ _ _ _ _ _ _ _ _ _ _ _ _ _ _ _ _ _ _ _ _ _ _ _ _ _ _ _ _ _ _ _ _ _ _ _ _ _ _ _ _ _ _ _ _ _ _ _ _ _ _ _ _ _ _ _ _ _ _ _ _ _ _ _ _ _ _ _ _ _ _ _ _ _ _ _ _ _ _ _ _ _ _ _ _) ?_
        intro e ac W5 hreg
        cases e
        case normal =>
          obtain ⟨_, _, _, _, _, _, _, _, _, _, Q8, s1, s2, s3, s4, s5, s6, rfl, hrow8, hat8, hb5⟩ := hreg
          have HR8 := Lib.hid hrow8
          have HA8 := Lib.hid hat8
          have HB5 := Lib.hid hb5
          have hq8 : Q8 < W5.heap.size := (Array.getElem?_eq_some_iff.1 hrow8).1
          have HBW5 := Lib.hid (HBW.out.trans (hb5.mono HBW.out.size))
          have hz5 := hb5.size
          clear hrow8 hat8 hb5 y0 y1 y2 y3 y4
          go_wp2_with fail
          refine wp_mono (get_region10 W5 w.heap.size (w.heap.size + 1) a.k a.f a.s a1 a2 a.l.length c1 a.ks.length c2 _ _ _ _ adb b.ks.length c4 j b.ks[j] Y okY (m + 1) ((HB5.out.block _ (by omega)).trans HRA.out) ((HB5.out.block _ (by omega)).trans HRB.out) hlt hbl2 (by have := HBW.out.size; omega) ((HBW5.out.cell (p := adb.add j) (by rw [add_block]; exact hadb)).trans HC.out) (fun W' hW' => HGA1.out W' (HBW5.out.trans (hW'.mono HBW5.out.size))) _ _ _ _ _ _ _ _ _ _ _ _ _ _ _ _ _ _ _ _ _ _ _ _ _ _ _ _ _ _ _ _ _ _ _ _ _ _ _ _ _ _ _ _ _ _ _ _ _ _ _ _ _ _ _ _ _ _ _ _ _ _ _ _ _ _ _ _ _ _ _ _ _ _ _ _ _ _ _ _ _ _ _ _ _ _ _ _ _ _ _ _ _ _ _ _ _ _ _ _ _ _ _ _ _ _ _ _ _ _ _ _ _ _ _ _ _ _ _ _ _ _ _ _ _ _ _ _ _ _ _ _ _ _ _ _ _ _ _ _ _ _ _ _ _ _ _ _ _ _ _ _ _ _ _ _ _ _ _ _ _ _ _) ?_
          intro e ac W6 hreg
          cases e
          case normal =>
            obtain ⟨_, _, _, _, _, _, _, _, _, _, Q10, t1, t2, t3, t4, t5, t6, rfl, hrow10, hat10, hb6⟩ := hreg
            have hz6 := hb6.size
            have HBW6 := Lib.hid (HBW5.out.trans (hb6.mono HBW5.out.size))
            have HEND := Lib.hid (HBEL.out.trans ((HB5.out.trans (hb6.mono hz5)).mono hszr))
            have r8 := (hb6.block _ hq8).trans HR8.out
            have rB6 := (hb6.block _ (by omega)).trans ((HB5.out.block _ (by omega)).trans HRB.out)
            have A8 := Lib.hid ((HA8.out.below hb6).more hz6)
            obtain ⟨rfl, hqB⟩ := HABB.out (by omega)
            obtain ⟨e1, e2, e3, e4, e5, e6, h5, hatb⟩ := HFB.out j hjl
            obtain ⟨f0, f1, f2, f3, f4⟩ := h5.keep hqB (fun p hp => HBW6.out.cell hp)
            have AB : Hid (At W6 W6.heap.size (m + 1) b.l[j] (.slice e1 e2 e3) (.slice e4 e5 e6)) := Lib.hid (atP_levM _ (m + 1) _ _ _ (Nat.le_succ _) ((hatb.below HBW6.out).more HBW6.out.size))
            obtain ⟨x0, x1, x2, x3, x4⟩ := row5p r8
            obtain ⟨_, _, _, y3, y4⟩ := row5p rB6
            obtain ⟨v0, _, _, _, _⟩ := row5p hrow10
            clear hrow10 hat10 r8 rB6 h5 hatb hb6
            by_cases hk3 : b.l[j].k = 6 ∧ Y.k = 6
            · have q1 : (b.l[j].k != 6) = false := by simp [hk3.1]
              have q2 : (Y.k != 6) = false := by simp [hk3.2]
              clear hk3
              go_wp2_with fail
              go_quiet (fail)
              go_wp2_with fail
              go_roundw
              case rel => exact ⟨j + 1, by omega, by go_num, below_drewN HEND.out _⟩
              case measure => simp [intOf]; omega
            · obtain rfl := HOR.out (by
                by_cases q : b.l[j].k = 6
                · exact Or.inr (fun z => hk3 ⟨q, z⟩)
                · exact Or.inl q)
              have hsame := fun W (hW : Below W6.heap.size W6 W) => HSM.out W _ _ _ _ _ ((A8.out.below hW).more hW.size) ((AB.out.below hW).more hW.size)
              have HSAME := Lib.hid hsame
              clear hsame
              have hkk : (b.l[j].k != 6) = true ∨ ((b.l[j].k != 6) = false ∧ (Y.k != 6) = true) := by
                by_cases q : b.l[j].k = 6
                · exact Or.inr ⟨by simp [q], by have : Y.k ≠ 6 := fun z => hk3 ⟨q, z⟩; simpa using this⟩
                · exact Or.inl (by simpa using q)
              clear hk3
              rcases hkk with q1 | ⟨q1, q2⟩
              · go_wp2_with fail
                go_still_tail 22, (by kernel_rfl)
                change wpList _ _ _ _ _ W6.drew
                go_wp2_with fail
                refine (HSAME.out _ (Below.refl _ _).drew).mono ?_
                rintro e w7 ⟨rfl, hb7⟩
                go_wp2_with fail
                go_roundw
                case rel => exact ⟨j + 1, by omega, by go_num, HEND.out.trans (((Below.refl W6.heap.size W6).drew.trans hb7).mono HEND.out.size)⟩
                case measure => simp [intOf]; omega
              · go_wp2_with fail
                go_still_tail 22, (by kernel_rfl)
                change wpList _ _ _ _ _ W6.drew
                go_wp2_with fail
                refine (HSAME.out _ (Below.refl _ _).drew).mono ?_
                rintro e w7 ⟨rfl, hb7⟩
                go_wp2_with fail
                go_roundw
                case rel => exact ⟨j + 1, by omega, by go_num, HEND.out.trans (((Below.refl W6.heap.size W6).drew.trans hb7).mono HEND.out.size)⟩
                case measure => simp [intOf]; omega
          all_goals exact False.elim hreg
        all_goals exact False.elim hreg
      · go_wp2_with fail
        clear y0 y1 y2 y3 y4
        have HBEL1 := HBEL
        clear hlt hszr HBW HRA HRB HRM ATW HBEL
        go_loopw [12] (fun k W => ∃ i : Nat, i ≤ a.ks.length ∧ k = .int .i64 i ∧ Below W4.heap.size W4 W) (fun k _ => a.ks.length - (intOf k).toNat)
        case atStart => exact ⟨0, Nat.zero_le _, rfl, HBEL1.out⟩
        case round =>
          obtain ⟨i, hi, rfl, hbel⟩ := hrel
          clear HBEL1
          have HBW := Lib.hid (HB4.out.trans (hbel.mono HB4.out.size))
          have rA := (hbel.block _ (by omega)).trans RA.out
          have rB := (hbel.block _ (by omega)).trans RB.out
          have rM := (hbel.block _ (by omega)).trans RM.out
          have hszr := hbel.size
          have ATW := Lib.hid (fun W (hW : Below wr.heap.size wr W) => ((ATM.out.below (hbel.trans (hW.mono hbel.size))).more (Nat.le_trans hbel.size hW.size)))
          have HBEL := Lib.hid hbel
          have HRA := Lib.hid rA
          have HRB := Lib.hid rB
          have HRM := Lib.hid rM
          obtain ⟨x0, x1, x2, x3, x4⟩ := row5p rA
          clear hbel rA rB
          by_cases hlt : i < a.ks.length
          · clear rM
            have hma := HMA.out i hlt (by have := HLA.out; omega)
            have hil : i < a.l.length := by have := HLA.out; omega
            obtain ⟨rfl, hada⟩ := HAA.out (by omega)
            obtain ⟨hc, hsz⟩ := HKA.out i hlt
            have hcl := HCA.out _ (List.getElem_mem hlt)
            have hgm := fun W (hW : Below wr.heap.size wr W) => HGM.out W _ _ a.ks[i] (ATW.out W hW) (by omega) hcl
            have hgb := fun W (hW : Below w.heap.size w W) => HGB.out W a.ks[i] hW (by omega) hcl
            rw [decide_eq_true hma.1] at hgm
            have hor : decide (Lib.idxOfS b.ks a.ks[i] ≠ -1) = false → getV M a.ks[i] = a.l[i] := fun q => hma.2 (by simpa using q)
            obtain ⟨X, hX⟩ : ∃ X, getV M a.ks[i] = X := ⟨_, rfl⟩
            obtain ⟨Y, hY⟩ : ∃ Y, getV b a.ks[i] = Y := ⟨_, rfl⟩
            obtain ⟨okY, hoY⟩ : ∃ o, decide (Lib.idxOfS b.ks a.ks[i] ≠ -1) = o := ⟨_, rfl⟩
            simp only [hX] at hgm hor
            simp only [hoY] at hor
            simp only [hY, hoY] at hgb
            have HGM1 := Lib.hid hgm
            have HGB1 := Lib.hid hgb
            have HOR := Lib.hid hor
            have HC := Lib.hid hc
            clear hma hgm hgb hor hX hY hoY hcl hc
            go_wp2_with fail
            refine wp_mono (get_region16 wr PM w.heap.size M.k M.f M.s p1 p4 p2 p3 p5 p6 _ _ _ _ ada a.ks.length c2 i a.ks[i] X true (m + 1) HRM.out HRA.out hlt hbl (by have := HBW.out.size; omega) ((HBW.out.cell (p := ada.add i) (by rw [add_block]; exact hada)).trans HC.out) (fun W' hW' => HGM1.out W' hW') _ _ _ _ _ _ _ _ _ _ _ _ _ _ _ _ _ _ _ _ _ _ _ _ _ _ _ _ _ _ _ _ _ _ _ _ _ _ _ _ _ _ _ _ _ _ _ _ _ _ _ _ _ _ _ _ _ _ _ _ _ _ _ _ _ _ _ _ _ _ _ _ _ _ _ _ _ _ _ _ _ _ _ _ _ _ _ _ _ _ _ _ _ _ _ _ _ _ _ _ _ _ _ _ _ _ _ _ _ _ _ _ _ _ _ _ _ _ _ _ _ _ _ _ _ _ _ _ _ _ _ _ _ _ _ _ _ _ _ _ _ _ _ _ _ _ _ _ _ _ _ _ _ _ _ _ _ _ _ _ _ _ _) ?_
            intro e ac W5 hreg
            cases e
            case normal =>
              obtain ⟨_, _, _, _, _, _, _, _, _, _, Q8, s1, s2, s3, s4, s5, s6, rfl, hrow8, hat8, hb5⟩ := hreg
              have HR8 := Lib.hid hrow8
              have HA8 := Lib.hid hat8
              have HB5 := Lib.hid hb5
              have hq8 : Q8 < W5.heap.size := (Array.getElem?_eq_some_iff.1 hrow8).1
              have HBW5 := Lib.hid (HBW.out.trans (hb5.mono HBW.out.size))
              have hz5 := hb5.size
              clear hrow8 hat8 hb5 x0 x1 x2 x3 x4
              go_wp2_with fail
              refine wp_mono (get_region17 W5 (w.heap.size + 1) w.heap.size b.k b.f b.s a3 a4 b.l.length c3 b.ks.length c4 _ _ _ _ ada a.ks.length c2 i a.ks[i] Y okY (m + 1) ((HB5.out.block _ (by omega)).trans HRB.out) ((HB5.out.block _ (by omega)).trans HRA.out) hlt hbl (by have := HBW.out.size; omega) ((HBW5.out.cell (p := ada.add i) (by rw [add_block]; exact hada)).trans HC.out) (fun W' hW' => HGB1.out W' (HBW5.out.trans (hW'.mono HBW5.out.size))) _ _ _ _ _ _ _ _ _ _ _ _ _ _ _ _ _ _ _ _ _ _ _ _ _ _ _ _ _ _ _ _ _ _ _ _ _ _ _ _ _ _ _ _ _ _ _ _ _ _ _ _ _ _ _ _ _ _ _ _ _ _ _ _ _ _ _ _ _ _ _ _ _ _ _ _ _ _ _ _ _ _ _ _ _ _ _ _ _ _ _ _ _ _ _ _ _ _ _ _ _ _ _ _ _ _ _ _ _ _ _ _ _ _ _ _ _ _ _ _ _ _ _ _ _ _ _ _ _ _ _ _ _ _ _ _ _ _ _ _ _ _ _ _ _ _ _ _ _ _ _ _ _ _ _ _ _ _ _ _ _ _ _) ?_
              intro e ac W6 hreg
              cases e
              case normal =>
                obtain ⟨_, _, _, _, _, _, _, _, _, _, Q10, t1, t2, t3, t4, t5, t6, rfl, hrow10, hat10, hb6⟩ := hreg
                have hz6 := hb6.size
                have HBW6 := Lib.hid (HBW5.out.trans (hb6.mono HBW5.out.size))
                have HEND := Lib.hid (HBEL.out.trans ((HB5.out.trans (hb6.mono hz5)).mono hszr))
                have r8 := (hb6.block _ hq8).trans HR8.out
                have rA6 := (hb6.block _ (by omega)).trans ((HB5.out.block _ (by omega)).trans HRA.out)
                have A8 := Lib.hid ((HA8.out.below hb6).more hz6)
                obtain ⟨rfl, hqA⟩ := HABA.out (by omega)
                obtain ⟨e1, e2, e3, e4, e5, e6, h5, hata⟩ := HFA.out i hil
                obtain ⟨f0, f1, f2, f3, f4⟩ := h5.keep hqA (fun p hp => HBW6.out.cell hp)
                have AB : Hid (At W6 W6.heap.size (m + 1) a.l[i] (.slice e1 e2 e3) (.slice e4 e5 e6)) := Lib.hid (atP_levM _ (m + 1) _ _ _ (Nat.le_succ _) ((hata.below HBW6.out).more HBW6.out.size))
                obtain ⟨x0, x1, x2, x3, x4⟩ := row5p r8
                obtain ⟨_, _, _, y3, y4⟩ := row5p rA6
                clear hrow10 hat10 r8 rA6 h5 hata hb6
                cases okY
                · obtain rfl := HOR.out rfl
                  have hsame := fun W (hW : Below W6.heap.size W6 W) => HSM.out W _ _ _ _ _ ((A8.out.below hW).more hW.size) ((AB.out.below hW).more hW.size)
                  have HSAME := Lib.hid hsame
                  clear hsame
                  go_wp2_with fail
                  go_still_tail 12, (by kernel_rfl)
                  change wpList _ _ _ _ _ W6.drew
                  go_wp2_with fail
                  refine (HSAME.out _ (Below.refl _ _).drew).mono ?_
                  rintro e w7 ⟨rfl, hb7⟩
                  go_wp2_with fail
                  go_roundw
                  case rel => exact ⟨i + 1, by omega, by go_num, HEND.out.trans (((Below.refl W6.heap.size W6).drew.trans hb7).mono HEND.out.size)⟩
                  case measure => simp [intOf]; omega
                · go_wp2_with fail
                  go_quiet (fail)
                  go_wp2_with fail
                  go_roundw
                  case rel => exact ⟨i + 1, by omega, by go_num, below_drewN HEND.out _⟩
                  case measure => simp [intOf]; omega
              all_goals exact False.elim hreg
            all_goals exact False.elim hreg
          · obtain ⟨m0, m1, m2, m3, m4⟩ := row5p rM
            obtain ⟨y0, y1, y2, y3, y4⟩ := row5p HRB.out
            clear rM
            have hop := HO2.out wr _ _ HBW.out (ATW.out wr (Below.refl _ _))
            rw [HLG.out] at hop
            have HOP := Lib.hid hop
            clear hop
            go_wp2_with fail
            refine HOP.out.mono ?_
            rintro e w7 ⟨⟨v, lv, kv, bb, k', s', rfl, hat, hor⟩, hb7⟩
            rcases hor with ⟨ho, rfl, rfl, rfl⟩ | ⟨ho, _⟩
            · obtain rfl : M = v := by simpa using ho
              obtain ⟨g1, g2, g3, g4, g5, g6, rfl, rfl⟩ := AtP.slices hat
              have hrows : ∀ q ∈ [(w.heap.size + 1, #[.int .i64 b.k, .float .f64 b.f, .string b.s, .slice a3 b.l.length c3, .slice a4 b.ks.length c4], 27), (PM, #[.int .i64 M.k, .float .f64 M.f, .string M.s, .slice p1 p2 p3, .slice p4 p5 p6], 27)], w7.heap[q.1]? = some (.cells q.2.1 q.2.2 (0, 0)) := by
                intro q hq
                rcases List.mem_cons.1 hq with e | hq
                · subst e
                  exact (hb7.block _ (by show w.heap.size + 1 < wr.heap.size; omega)).trans HRB.out
                · have e := List.mem_singleton.1 hq
                  subst e
                  exact (hb7.block _ (by show PM < wr.heap.size; omega)).trans HRM.out
              have HT : Hid (HW w w7 [(w.heap.size + 1, #[.int .i64 b.k, .float .f64 b.f, .string b.s, .slice a3 b.l.length c3, .slice a4 b.ks.length c4], 27), (PM, #[.int .i64 M.k, .float .f64 M.f, .string M.s, .slice p1 p2 p3, .slice p4 p5 p6], 27)]) := Lib.hid ⟨hrows, HBW.out.trans (hb7.mono HBW.out.size)⟩
              clear hrows
              have HH := HT.out.two #[.int .i64 M.k, .float .f64 M.f, .string M.s, .slice g1 g2 g3, .slice g4 g5 g6] #[.bool false, .int .i64 0, .float .f64 0, .string ⟨#[]⟩, .slice none 0 0, .slice none 0 0] 27 31
              have hbw : Below w7.heap.size w7 ((w7.alloc (.cells #[.int .i64 M.k, .float .f64 M.f, .string M.s, .slice g1 g2 g3, .slice g4 g5 g6] 27)).alloc (.cells #[.bool false, .int .i64 0, .float .f64 0, .string ⟨#[]⟩, .slice none 0 0, .slice none 0 0] 31)) := ((Below.refl w7.heap.size w7).alloc (Nat.le_refl _) _).alloc (by simp) _
              have hn := ((AtN.to_at hat (Nat.zero_le _)).below hbw).more hbw.size
              have hm := ATW.out _ (hb7.trans (hbw.mono hb7.size))
              have hsame := HSM.out _ M _ _ _ _ hn hm
              have HSAME := Lib.hid hsame
              have H9 := Lib.hid HH
              simp only [cellsV]
              obtain ⟨x0, x1, x2, x3, x4⟩ := row5p (HH.rows _ (.tail _ (.head _)))
              obtain ⟨z0, z1, z2, z3, z4, z5⟩ := row6p (HH.rows _ (.head _))
              obtain ⟨m0, m1, m2, m3, m4⟩ := row5p (HH.rows _ (.tail _ (.tail _ (.tail _ (.head _)))))
              clear HH hsame hn hm hat hb7 hbw HT ho
              go_wp2_with fail
              refine HSAME.out.mono ?_
              rintro e w8 ⟨rfl, hb8⟩
              have H10 := Lib.hid (H9.out.below hb8)
              clear hb8 x0 x1 x2 x3 x4 z0 z1 z2 z3 z4 z5 m0 m1 m2 m3 m4
              go_wp2_with fail
              refine (heads_true _ (HN.out _ H10.out.bel)).mono ?_
              rintro e w9 ⟨rfl, hb9⟩
              go_wp2_with fail
              go_ret
              exact ⟨rfl, trkM H10.out.bel hb9⟩
            · simp at ho
  · have HH := H.out.two #[.int .i64 noV.k, .float .f64 noV.f, .string noV.s, .slice p1 p2 p3, .slice p4 p5 p6] #[.bool true, .int .i64 4, .float .f64 0, .string largeT, .slice none 0 0, .slice none 0 0] 27 31
    have H4 := Lib.hid HH
    obtain ⟨z0, z1, z2, z3, z4, z5⟩ := row6p (HH.rows _ (.head _))
    clear HH hat hb H ho
    go_wp2_with fail
    refine (heads_true _ (HN.out _ H4.out.bel)).mono ?_
    rintro e w9 ⟨rfl, hb9⟩
    go_wp2_with fail
    go_ret
    exact ⟨rfl, trkM H4.out.bel hb9⟩
end Go.Proofs.YtdlighmnlcklnaaGreatDoor

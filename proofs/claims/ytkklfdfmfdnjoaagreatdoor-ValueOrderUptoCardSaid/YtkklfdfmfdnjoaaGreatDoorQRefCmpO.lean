/- The document's Compare: objects; every two values. -/
import Derived.Test.YtkklfdfmfdnjoaaGreatDoorQRefCmpN
import Derived.Deep.AppendLies
namespace Go.Proofs.YtkklfdfmfdnjoaaGreatDoor
open Go Go.RowKit

theorem good_of_okK {ks : List ByteArray} (h : okK ks = true) : ∀ k ∈ ks, allGood k 0 = true := by
  intro k hk
  obtain ⟨i, hi, rfl⟩ := List.getElem_of_mem hk
  unfold okK at h
  rw [List.all_eq_true] at h
  have h := h i (List.mem_range.2 hi)
  unfold okAt at h
  rw [Bool.and_eq_true] at h
  have e : ks.getD i default = ks[i] := by simp [List.getD, hi]
  rw [e] at h
  exact h.1
theorem right_asStr {s : ByteArray} (h : allGood s 0 = true) : rightV 1 (asStr s) = true := by
  have hh : headOK (asStr s) = true := by
    rw [headOK_iff]
    refine ⟨⟨by show (0 : Int) ≤ 4; omega, by show (4 : Int) ≤ 6; omega⟩, Or.inr rfl, Or.inl rfl, Or.inr rfl, Or.inl (by show ¬ (4 : Int) = 6; omega), Or.inr rfl, h, ?_⟩
    show okK (sortK []) = true
    rw [sortK_small [] (by simp)]
    rfl
  show (headOK (asStr s) && (asStr s).l.all (fun x => rightV 0 x)) = true
  rw [hh]
  rfl
theorem cmpRow_strs (m : Nat) (x y : List ByteArray) (hm : m = 0 → x = [] ∧ y = []) : cmpRow (cmpV m) (x.map asStr) (y.map asStr) = cmpRow cmpS x y := by
  cases m with
  | zero => obtain ⟨rfl, rfl⟩ := hm rfl; rfl
  | succ m => exact cmpRow_map _ _ _ (fun a b => cmp_asStr m a b) x y
/-- Strings as values, at whatever level. -/
theorem strsM_any (ks : List ByteArray) (m : Nat) (hm : m = 0 → ks = []) (kv : Value) (w : World) (hmax : ks.length ≤ 1048576) (hs : ∀ k ∈ ks, k.size ≤ 1048576) (hk : Arr w w.heap.size kv (ks.map Value.string)) :
    Calls Tryz.prog 68 #[kv] w fun e w' => ∃ A C, e = .returned (.slice A ks.length C) ∧ RowAt w' w'.heap.size m A (ks.map asStr) ∧ Below w.heap.size w w' := by
  have h := strs_any ks (m - 1) kv w hmax hs hk
  refine h.mono ?_
  rintro e w' ⟨A, C, rfl, hr, hb⟩
  rw [List.length_map]
  refine ⟨A, C, rfl, ?_, hb⟩
  cases m with
  | zero =>
    obtain rfl := hm rfl
    exact ⟨0, 0, fun h => absurd h (by simp), fun i h => absurd h (by simp)⟩
  | succ m => exact hr
theorem keys_none {w : World} {B : Nat} {v : V} {lv kv : Value} (h : At w B 1 v lv kv) (hlen : v.ks.length = v.l.length) : sortK v.ks = [] := by
  obtain ⟨_, _, _, a, c, b, o, e, hab, hi⟩ := h.opened
  have hl : v.l.length = 0 := by
    rcases Nat.eq_zero_or_pos v.l.length with q | q
    · exact q
    · obtain ⟨_, _, _, h0⟩ := hi 0 q
      exact h0.elim
  have hk : v.ks = [] := List.eq_nil_of_length_eq_zero (by omega)
  rw [hk]
  exact sortK_small [] (by simp)
set_option maxRecDepth 100000 in
set_option maxHeartbeats 4000000 in
theorem refCompare_obj (m : Nat) (ih : RefC m) (a b : V) (d1 d2 : Nat) (hra : rightV d1 a = true) (hrb : rightV d2 b = true) (la ka lb kb : Value) (w : World) (ha : At w w.heap.size (m + 1) a la ka) (hb : At w w.heap.size (m + 1) b lb kb) (h6a : a.k = 6) (h6b : b.k = 6) :
    Calls Tryz.prog 21 #[.agg (cellsV a la ka), .agg (cellsV b lb kb)] w fun e w' => e = .returned (.int .i64 (if cmpRow cmpS (sortK a.ks) (sortK b.ks) = 0 then cmpRow (cmpV m) (byK a) (byK b) else cmpRow cmpS (sortK a.ks) (sortK b.ks))) ∧ Below w.heap.size w w' := by
  have hsf := run_store_float Tryz.prog
  obtain ⟨i0, hi0, hz0, hz1, hz2⟩ := info_parts infoVal
  obtain ⟨_, hsuba, hobja⟩ := right_head hra
  obtain ⟨fa, sa, lena, nda⟩ := hobja h6a
  have hrka := byK_right hsuba lena
  have oka : okK (sortK a.ks) = true := by
    have hh : headOK a = true := by
      cases d1 with
      | zero => cases hra
      | succ d => have h : (headOK a && a.l.all (fun x => rightV d x)) = true := hra
                  rw [Bool.and_eq_true] at h; exact h.1
    exact ((headOK_iff a).1 hh).2.2.2.2.2.2.2
  have gooda := good_of_okK oka
  have hla : (byK a).length ≤ 1048576 := by rw [byK_len]; exact ha.opened.1.2.2.2.2.2.1
  have hka : (sortK a.ks).length ≤ 1048576 := by rw [sortK_len]; exact ha.opened.1.2.2.2.2.2.1
  have hsa : ∀ k ∈ sortK a.ks, k.size ≤ 1048576 := fun k hk => Nat.le_trans (size_keysLen a.ks k ((sortK_perm a.ks).subset hk)) ha.opened.1.2.2.2.2.2.2
  have hma : m = 0 → sortK a.ks = [] := fun e => by subst e; exact keys_none ha lena
  have hrsa : ∀ i (h : i < ((sortK a.ks).map asStr).length), rightV 1 ((sortK a.ks).map asStr)[i] = true := fun i h => by
    rw [List.getElem_map]
    exact right_asStr (gooda _ (List.getElem_mem _))
  have cKa : ∀ W, Below w.heap.size w W → Calls Tryz.prog 38 #[.agg (cellsV a la ka)] W fun e w' => ∃ kv', e = .returned kv' ∧ Arr w' w'.heap.size kv' ((sortK a.ks).map Value.string) ∧ Below W.heap.size W w' := fun W hW =>
    (refKeysV_any a (m + 1) la ka W ((ha.below hW).more hW.size)).mono fun e w' ⟨kv', e1, e2, e3⟩ => ⟨kv', e1, e2.1, e3⟩
  have cSa := fun kv W hA => strsM_any (sortK a.ks) m hma kv W hka hsa hA
  have cBa := fun W (hW : Below w.heap.size w W) => refByKeys_any a m la ka W ((ha.below hW).more hW.size) lena
  obtain ⟨_, hsubb, hobjb⟩ := right_head hrb
  obtain ⟨fb, sb, lenb, ndb⟩ := hobjb h6b
  have hrkb := byK_right hsubb lenb
  have okb : okK (sortK b.ks) = true := by
    have hh : headOK b = true := by
      cases d2 with
      | zero => cases hrb
      | succ d => have h : (headOK b && b.l.all (fun x => rightV d x)) = true := hrb
                  rw [Bool.and_eq_true] at h; exact h.1
    exact ((headOK_iff b).1 hh).2.2.2.2.2.2.2
  have goodb := good_of_okK okb
  have hlb : (byK b).length ≤ 1048576 := by rw [byK_len]; exact hb.opened.1.2.2.2.2.2.1
  have hkb : (sortK b.ks).length ≤ 1048576 := by rw [sortK_len]; exact hb.opened.1.2.2.2.2.2.1
  have hsb : ∀ k ∈ sortK b.ks, k.size ≤ 1048576 := fun k hk => Nat.le_trans (size_keysLen b.ks k ((sortK_perm b.ks).subset hk)) hb.opened.1.2.2.2.2.2.2
  have hmb : m = 0 → sortK b.ks = [] := fun e => by subst e; exact keys_none hb lenb
  have hrsb : ∀ i (h : i < ((sortK b.ks).map asStr).length), rightV 1 ((sortK b.ks).map asStr)[i] = true := fun i h => by
    rw [List.getElem_map]
    exact right_asStr (goodb _ (List.getElem_mem _))
  have cKb : ∀ W, Below w.heap.size w W → Calls Tryz.prog 38 #[.agg (cellsV b lb kb)] W fun e w' => ∃ kv', e = .returned kv' ∧ Arr w' w'.heap.size kv' ((sortK b.ks).map Value.string) ∧ Below W.heap.size W w' := fun W hW =>
    (refKeysV_any b (m + 1) lb kb W ((hb.below hW).more hW.size)).mono fun e w' ⟨kv', e1, e2, e3⟩ => ⟨kv', e1, e2.1, e3⟩
  have cSb := fun kv W hA => strsM_any (sortK b.ks) m hmb kv W hkb hsb hA
  have cBb := fun W (hW : Below w.heap.size w W) => refByKeys_any b m lb kb W ((hb.below hW).more hW.size) lenb
  have cL : ∀ X1 Y1 X2 Y2 W, RowAt W W.heap.size m X1 ((sortK a.ks).map asStr) → RowAt W W.heap.size m X2 ((sortK b.ks).map asStr) → Calls Tryz.prog 67 #[.slice X1 (sortK a.ks).length Y1, .slice X2 (sortK b.ks).length Y2] W fun e w' => e = .returned (.int .i64 (cmpRow cmpS (sortK a.ks) (sortK b.ks))) ∧ Below W.heap.size W w' := fun X1 Y1 X2 Y2 W h1 h2 => by
    have h := refLists_any m ih ((sortK a.ks).map asStr) ((sortK b.ks).map asStr) 1 1 hrsa hrsb X1 X2 Y1 Y2 (by rw [List.length_map]; exact hka) (by rw [List.length_map]; exact hkb) W h1 h2
    rw [cmpRow_strs m _ _ (fun e => ⟨hma e, hmb e⟩), List.length_map, List.length_map] at h
    exact h
  have cV := fun X1 Y1 X2 Y2 W h1 h2 => refLists_any m ih (byK a) (byK b) (d1 - 1) (d2 - 1) hrka hrkb X1 X2 Y1 Y2 hla hlb W h1 h2
  obtain ⟨A1, C1, A2, C2, rfl, rfl, _, _⟩ := ha.shape
  obtain ⟨A3, C3, A4, C4, rfl, rfl, _, _⟩ := hb.shape
  unfold cellsV at cKa cKb cBa cBb ⊢
  rw [h6a, fa, sa] at cKa cBa ⊢
  rw [h6b, fb, sb] at cKb cBb ⊢
  obtain ⟨r, hr⟩ : ∃ r, (if cmpRow cmpS (sortK a.ks) (sortK b.ks) = 0 then cmpRow (cmpV m) (byK a) (byK b) else cmpRow cmpS (sortK a.ks) (sortK b.ks)) = r := ⟨_, rfl⟩
  rw [hr]
  generalize cmpRow cmpS (sortK a.ks) (sortK b.ks) = z1 at cL hr
  generalize cmpRow (cmpV m) (byK a) (byK b) = z2 at cV hr
  have HZ := Lib.hid hr
  have HCKA := Lib.hid cKa
  have HCSA := Lib.hid cSa
  have HCBA := Lib.hid cBa
  have HCKB := Lib.hid cKb
  have HCSB := Lib.hid cSb
  have HCBB := Lib.hid cBb
  have HCL := Lib.hid cL
  have HCV := Lib.hid cV
  have r1 := row_alloc3 (heap_alloc_new w (.cells #[.int .i64 6, .float .f64 0, .string ⟨#[]⟩, .slice A1 a.l.length C1, .slice A2 a.ks.length C2] 27)) (.cells #[.int .i64 6, .float .f64 0, .string ⟨#[]⟩, .slice A3 b.l.length C3, .slice A4 b.ks.length C4] 27)
  have r2 := heap_alloc_new (w.alloc (.cells #[.int .i64 6, .float .f64 0, .string ⟨#[]⟩, .slice A1 a.l.length C1, .slice A2 a.ks.length C2] 27)) (.cells #[.int .i64 6, .float .f64 0, .string ⟨#[]⟩, .slice A3 b.l.length C3, .slice A4 b.ks.length C4] 27)
  rw [World.size_alloc] at r2
  have hbl : Below w.heap.size w ((w.alloc (.cells #[.int .i64 6, .float .f64 0, .string ⟨#[]⟩, .slice A1 a.l.length C1, .slice A2 a.ks.length C2] 27)).alloc (.cells #[.int .i64 6, .float .f64 0, .string ⟨#[]⟩, .slice A3 b.l.length C3, .slice A4 b.ks.length C4] 27)) := ((Below.refl w.heap.size w).alloc (Nat.le_refl _) _).alloc (by simp) _
  clear ih ha hb hra hrb hsuba hsubb hobja hobjb fa sa lena nda fb sb lenb ndb h6a h6b hr cKa cSa cBa cKb cSb cBb cL cV hrka hrkb oka okb gooda goodb hla hlb hka hkb hsa hsb hma hmb hrsa hrsb
  go_enter Tryz.func21, Tryz.ntmps21
  go_wp2_with fail
  obtain ⟨W0, hW0⟩ : ∃ W0, ((w.alloc (.cells #[.int .i64 6, .float .f64 0, .string ⟨#[]⟩, .slice A1 a.l.length C1, .slice A2 a.ks.length C2] 27)).alloc (.cells #[.int .i64 6, .float .f64 0, .string ⟨#[]⟩, .slice A3 b.l.length C3, .slice A4 b.ks.length C4] 27)) = W0 := ⟨_, rfl⟩
  rw [hW0] at r1 r2 hbl ⊢
  clear hW0
  have HR1 := Lib.hid r1
  have HR2 := Lib.hid r2
  have HBL := Lib.hid hbl
  have H1 := Lib.hid (Array.getElem?_eq_some_iff.1 r1).1
  have H2 := Lib.hid (Array.getElem?_eq_some_iff.1 r2).1
  obtain ⟨x0, x1, x2, x3, x4⟩ := row5p r1
  obtain ⟨y0, y1, y2, y3, y4⟩ := row5p r2
  clear r1 r2 hbl
  go_region_with (first
    | (go_at_call 67; refine (HCL.out _ _ _ _ w6 (((hr4.below hb5).more hb5.size).below hb6 |>.more hb6.size) hr6).mono ?_; rintro e w7 ⟨rfl, hb7⟩)
    | (go_at_call 68; refine (HCSB.out _ w5 ha5).mono ?_; rintro e w6 ⟨X2, Y2, rfl, hr6, hb6⟩)
    | (go_at_call 38; refine (HCKB.out w4 ((HBL.out.drew.trans (hb3.mono HBL.out.size)).trans (hb4.mono (HBL.out.drew.trans (hb3.mono HBL.out.size)).size))).mono ?_; rintro e w5 ⟨kb5, rfl, ha5, hb5⟩)
    | (go_at_call 68; refine (HCSA.out _ w3 ha3).mono ?_; rintro e w4 ⟨X1, Y1, rfl, hr4, hb4⟩; have v0 := (hb4.cell (p := ⟨w.heap.size + 1, 0, none⟩) (Nat.lt_of_lt_of_le H2.out hb3.size)).trans q0; have v1 := (hb4.cell (p := ⟨w.heap.size + 1, 1, none⟩) (Nat.lt_of_lt_of_le H2.out hb3.size)).trans q1; have v2 := (hb4.cell (p := ⟨w.heap.size + 1, 2, none⟩) (Nat.lt_of_lt_of_le H2.out hb3.size)).trans q2; have v3 := (hb4.cell (p := ⟨w.heap.size + 1, 3, none⟩) (Nat.lt_of_lt_of_le H2.out hb3.size)).trans q3; have v4 := (hb4.cell (p := ⟨w.heap.size + 1, 4, none⟩) (Nat.lt_of_lt_of_le H2.out hb3.size)).trans q4)
    | (go_at_call 38; refine (HCKA.out _ HBL.out.drew).mono ?_; rintro e w3 ⟨ka3, rfl, ha3, hb3⟩; have q0 := (hb3.cell (p := ⟨w.heap.size + 1, 0, none⟩) H2.out).trans y0; have q1 := (hb3.cell (p := ⟨w.heap.size + 1, 1, none⟩) H2.out).trans y1; have q2 := (hb3.cell (p := ⟨w.heap.size + 1, 2, none⟩) H2.out).trans y2; have q3 := (hb3.cell (p := ⟨w.heap.size + 1, 3, none⟩) H2.out).trans y3; have q4 := (hb3.cell (p := ⟨w.heap.size + 1, 4, none⟩) H2.out).trans y4))
  all_goals
    have hb7' : Below w.heap.size w w7 := (((((HBL.out.drew.trans (hb3.mono HBL.out.size)).trans (hb4.mono (HBL.out.drew.trans (hb3.mono HBL.out.size)).size)).trans (hb5.mono ((HBL.out.drew.trans (hb3.mono HBL.out.size)).trans (hb4.mono (HBL.out.drew.trans (hb3.mono HBL.out.size)).size)).size)).trans (hb6.mono (((HBL.out.drew.trans (hb3.mono HBL.out.size)).trans (hb4.mono (HBL.out.drew.trans (hb3.mono HBL.out.size)).size)).trans (hb5.mono ((HBL.out.drew.trans (hb3.mono HBL.out.size)).trans (hb4.mono (HBL.out.drew.trans (hb3.mono HBL.out.size)).size)).size)).size)).trans (hb7.mono ((((HBL.out.drew.trans (hb3.mono HBL.out.size)).trans (hb4.mono (HBL.out.drew.trans (hb3.mono HBL.out.size)).size)).trans (hb5.mono ((HBL.out.drew.trans (hb3.mono HBL.out.size)).trans (hb4.mono (HBL.out.drew.trans (hb3.mono HBL.out.size)).size)).size)).trans (hb6.mono (((HBL.out.drew.trans (hb3.mono HBL.out.size)).trans (hb4.mono (HBL.out.drew.trans (hb3.mono HBL.out.size)).size)).trans (hb5.mono ((HBL.out.drew.trans (hb3.mono HBL.out.size)).trans (hb4.mono (HBL.out.drew.trans (hb3.mono HBL.out.size)).size)).size)).size)).size))
    have e1 := (hb7.block _ (Nat.lt_of_lt_of_le (Nat.lt_of_lt_of_le (Nat.lt_of_lt_of_le (Nat.lt_of_lt_of_le H1.out hb3.size) hb4.size) hb5.size) hb6.size)).trans ((hb6.block _ (Nat.lt_of_lt_of_le (Nat.lt_of_lt_of_le (Nat.lt_of_lt_of_le H1.out hb3.size) hb4.size) hb5.size)).trans ((hb5.block _ (Nat.lt_of_lt_of_le (Nat.lt_of_lt_of_le H1.out hb3.size) hb4.size)).trans ((hb4.block _ (Nat.lt_of_lt_of_le H1.out hb3.size)).trans ((hb3.block _ H1.out).trans HR1.out))))
    have e2 := (hb7.block _ (Nat.lt_of_lt_of_le (Nat.lt_of_lt_of_le (Nat.lt_of_lt_of_le (Nat.lt_of_lt_of_le H2.out hb3.size) hb4.size) hb5.size) hb6.size)).trans ((hb6.block _ (Nat.lt_of_lt_of_le (Nat.lt_of_lt_of_le (Nat.lt_of_lt_of_le H2.out hb3.size) hb4.size) hb5.size)).trans ((hb5.block _ (Nat.lt_of_lt_of_le (Nat.lt_of_lt_of_le H2.out hb3.size) hb4.size)).trans ((hb4.block _ (Nat.lt_of_lt_of_le H2.out hb3.size)).trans ((hb3.block _ H2.out).trans HR2.out))))
    have HB7 := Lib.hid hb7'
    have K1 := Lib.hid (Array.getElem?_eq_some_iff.1 e1).1
    have K2 := Lib.hid (Array.getElem?_eq_some_iff.1 e2).1
    clear hb3 hb4 hb5 hb6 hb7 hb7' ha3 ha5 hr4 hr6 q0 q1 q2 q3 q4 v0 v1 v2 v3 v4 x0 x1 x2 x3 x4 y0 y1 y2 y3 y4 HCKA HCSA HCKB HCSB HCL HR1 HR2 HBL H1 H2
    obtain ⟨g0, g1, g2, g3, g4⟩ := row5p e1
    obtain ⟨j0, j1, j2, j3, j4⟩ := row5p e2
    clear e1 e2
    by_cases hz1 : z1 = 0
    · subst hz1
      have HZ2 := Lib.hid (HZ.out.symm.trans (if_pos rfl))
      clear HZ
      go_wp2_with fail
      go_region_with (first
        | (go_at_call 67; refine (HCV.out _ _ _ _ w9 ((hr8.below hb9).more hb9.size) hr9).mono ?_; rintro e w10 ⟨rfl, hb10⟩)
        | (go_at_call 69; refine (HCBB.out w8 (HB7.out.drew.trans (hb8.mono HB7.out.size))).mono ?_; rintro e w9 ⟨X4, Y4, rfl, hr9, hb9⟩)
        | (go_at_call 69; refine (HCBA.out _ HB7.out.drew).mono ?_; rintro e w8 ⟨X3, Y3, rfl, hr8, hb8⟩; have q0 := (hb8.cell (p := ⟨w.heap.size + 1, 0, none⟩) K2.out).trans j0; have q1 := (hb8.cell (p := ⟨w.heap.size + 1, 1, none⟩) K2.out).trans j1; have q2 := (hb8.cell (p := ⟨w.heap.size + 1, 2, none⟩) K2.out).trans j2; have q3 := (hb8.cell (p := ⟨w.heap.size + 1, 3, none⟩) K2.out).trans j3; have q4 := (hb8.cell (p := ⟨w.heap.size + 1, 4, none⟩) K2.out).trans j4))
      all_goals
        have hb8' : Below w.heap.size w w8 := HB7.out.drew.trans (hb8.mono HB7.out.size)
        have hb9' : Below w.heap.size w w9 := hb8'.trans (hb9.mono hb8'.size)
        have HB10 := Lib.hid (hb9'.trans (hb10.mono hb9'.size))
        clear hb8 hb9 hb10 hb8' hb9' hr8 hr9 q0 q1 q2 q3 q4 g0 g1 g2 g3 g4 j0 j1 j2 j3 j4
        go_wp2_with fail
        go_ret
        exact ⟨by rw [HZ2.out]; rfl, HB10.out⟩
    · have HZ2 := Lib.hid (HZ.out.symm.trans (if_neg hz1))
      have hqb : (z1 != 0) = true := by simpa using hz1
      clear HZ
      go_wp2_with fail
      go_ret
      exact ⟨by rw [HZ2.out]; rfl, HB7.out⟩
/-- The document's Compare of every two right values. -/
theorem refCompare_any : ∀ m : Nat, RefC m
  | 0 => fun _ _ _ _ _ _ _ _ _ _ _ h _ => h.elim
  | m + 1 => fun a b da db la ka lb kb w hra hrb ha hb => by
    have ih := refCompare_any m
    obtain ⟨⟨ha0, ha6⟩, hsuba, _⟩ := right_head hra
    obtain ⟨_, hsubb, _⟩ := right_head hrb
    rw [cmpV_succ]
    by_cases hk : a.k = b.k
    · rw [if_pos hk]
      by_cases h3 : a.k = 3
      · obtain ⟨A1, C1, A2, C2, rfl, rfl, _, _⟩ := ha.shape
        obtain ⟨A3, C3, A4, C4, rfl, rfl, _, _⟩ := hb.shape
        unfold cellsV
        rw [if_pos h3, ← hk, h3]
        exact refCompare_num a.f b.f a.s b.s A1 A2 A3 A4 _ _ _ _ C1 C2 C3 C4 w
      · rw [if_neg h3]
        by_cases h4 : a.k = 4
        · obtain ⟨A1, C1, A2, C2, rfl, rfl, _, _⟩ := ha.shape
          obtain ⟨A3, C3, A4, C4, rfl, rfl, _, _⟩ := hb.shape
          unfold cellsV
          rw [if_pos h4, ← hk, h4]
          exact refCompare_str a.f b.f a.s b.s A1 A2 A3 A4 _ _ _ _ C1 C2 C3 C4 w
        · rw [if_neg h4]
          by_cases h5 : a.k = 5
          · have hl1 := ha.opened.1.2.2.2.2.1
            have hl2 := hb.opened.1.2.2.2.2.1
            obtain ⟨A1, C1, A2, C2, rfl, rfl, hr1, _⟩ := ha.shape
            obtain ⟨A3, C3, A4, C4, rfl, rfl, hr2, _⟩ := hb.shape
            unfold cellsV
            rw [if_pos h5, ← hk, h5]
            exact refCompare_arr m ih a.l b.l (da - 1) (db - 1) hsuba hsubb A1 A3 C1 C3 a.f b.f a.s b.s A2 A4 _ _ C2 C4 w hr1 hr2 hl1 hl2
          · rw [if_neg h5]
            by_cases h6 : a.k = 6
            · rw [if_pos h6]
              exact refCompare_obj m ih a b da db hra hrb la ka lb kb w ha hb h6 (hk ▸ h6)
            · rw [if_neg h6]
              obtain ⟨A1, C1, A2, C2, rfl, rfl, _, _⟩ := ha.shape
              obtain ⟨A3, C3, A4, C4, rfl, rfl, _, _⟩ := hb.shape
              unfold cellsV
              rw [← hk]
              exact refCompare_low a.k (by omega) a.f b.f a.s b.s A1 A2 A3 A4 _ _ _ _ C1 C2 C3 C4 w
    · rw [if_neg hk]
      obtain ⟨A1, C1, A2, C2, rfl, rfl, _, _⟩ := ha.shape
      obtain ⟨A3, C3, A4, C4, rfl, rfl, _, _⟩ := hb.shape
      unfold cellsV
      exact refCompare_kinds a.k b.k a.f b.f a.s b.s A1 A2 A3 A4 _ _ _ _ C1 C2 C3 C4 hk w
end Go.Proofs.YtkklfdfmfdnjoaaGreatDoor

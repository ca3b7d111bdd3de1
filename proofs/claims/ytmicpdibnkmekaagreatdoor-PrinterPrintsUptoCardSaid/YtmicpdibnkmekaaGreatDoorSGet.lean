/- The document's Get and Keys, of a value that lies below. -/
import Derived.Test.YtmicpdibnkmekaaGreatDoorRHeadsW
import Derived.Test.YtmicpdibnkmekaaGreatDoorREsc
import Derived.Test.YtmicpdibnkmekaaGreatDoorQKeys
namespace Go.Proofs.YtmicpdibnkmekaaGreatDoor
open Go Go.RowKit
theorem results_row_tmp {P : Program} {fn : Func} {p q : Tmp} {ty : TypeId} (h : fn.results = #[.cell p ty, .tmp q]) (tmps : Array Value) (w : World) (g1 : Nat) (t1 : TypeId) (cs1 : Array Value) (fr1 : Nat × Nat) (d1 : TypeDesc) (x : Value)
    (hp : tmps.getD p undef = .pointer (some ⟨g1, 0, none⟩)) (hq : tmps.getD q undef = x) (hg1 : w.heap[g1]? = some (.cells cs1 t1 fr1))
    (hu1 : P.underlying ty = some d1) (hd1 : (match d1 with | .struct _ | .array _ _ => true | _ => false) = true) (hi1 : (P.info? ty).map (·.size) = some cs1.size) :
    (results fn tmps).run P w = .ok (.tuple #[.agg cs1, x]) w := by
  have hp' : tmps[p]?.getD undef = .pointer (some ⟨g1, 0, none⟩) := by simpa using hp
  have hq' : tmps[q]?.getD undef = x := by simpa using hq
  simp [results, h, hp', hq', asAddr, run_loadVar_row w g1 t1 ty cs1 fr1 d1 hg1 hu1 hd1 hi1]
theorem sizeVal : (Tryz.prog.info? 27).map (·.size) = some 5 := by kernel_rfl
end Go.Proofs.YtmicpdibnkmekaaGreatDoor
namespace Go.Proofs.YtmicpdibnkmekaaGreatDoor
open Go Go.RowKit

set_option maxRecDepth 100000 in
set_option maxHeartbeats 1000000 in
theorem refKeysO_any (v : V) (m : Nat) (lv kv : Value) (w : World) (h : At w w.heap.size m v lv kv) :
    Calls Tryz.prog 134 #[.agg (cellsV v lv kv)] w fun e w' => ∃ kv', e = .returned kv' ∧ OwnKeys w' w.heap.size kv' (sortK v.ks) ∧ Below w.heap.size w w' := by
  have hsf := run_store_float Tryz.prog
  obtain ⟨m, rfl⟩ : ∃ n, m = n + 1 := by cases m with | zero => exact h.elim | succ m => exact ⟨m, rfl⟩
  obtain ⟨hsm, ha, _⟩ := h.opened
  have hso := fun o => Sorted_any v.ks.length v.ks kv (w.alloc o) (Nat.le_refl _) hsm.2.2.2.2.2.1 (KeysAt.more (ha.below ((Below.refl w.heap.size w).alloc (Nat.le_refl _) o)) (by simp))
  obtain ⟨a1, n1, k1, a2, n2, k2, rfl, rfl⟩ := h.slices
  unfold cellsV
  have HSO := Lib.hid hso
  clear hso h ha hsm
  go_enter Tryz.func134, Tryz.ntmps134
  go_wp2_with fail
  refine (HSO.out _).mono ?_
  rintro e w1 ⟨v', rfl, hown, hb1⟩
  have hb0 : Below w.heap.size w w1 := ((Below.refl w.heap.size w).alloc (Nat.le_refl _) _).trans (hb1.mono (by simp))
  have HB := Lib.hid hb0
  have HO := Lib.hid (own_base (base' := w.heap.size) hown (by simp))
  clear hb1 hb0 hown
  go_wp2_with fail
  go_ret
  exact ⟨_, rfl, HO.out, HB.out⟩
theorem bytes_eqP (a b : ByteArray) : (a.toList == b.toList) = decide (a = b) := by
  rw [Lib.toList_data, Lib.toList_data, Bool.eq_iff_iff]
  simp only [beq_iff_eq, decide_eq_true_eq]
  exact ⟨toList_inj, fun e => by rw [e]⟩
set_option maxRecDepth 100000 in
set_option maxHeartbeats 2000000 in
theorem refPlaceAt (v : V) (m : Nat) (lv kv : Value) (x : ByteArray) (i : Nat) (hi : i < v.ks.length) (hix : v.ks[i] = x) (hne : ∀ t (ht : t < i), v.ks[t]'(by omega) ≠ x) (w : World) (h : At w w.heap.size (m + 1) v lv kv) :
    Calls Tryz.prog 180 #[.agg (cellsV v lv kv), .string x] w fun e w' => e = .returned (.int .i64 i) ∧ Below w.heap.size w w' := by
  have hsf := run_store_float Tryz.prog
  obtain ⟨hsm, ha, _⟩ := h.opened
  have hks := hsm.2.2.2.2.2.1
  obtain ⟨a1, n1, k1, a2, n2, k2, rfl, e2⟩ := h.slices
  obtain ⟨A, ad, ck, rfl, hA, hac⟩ := ha.1.dest
  cases e2
  rw [List.length_map] at hA
  have hcell : ∀ t (ht : t < v.ks.length), w.cell? (ad.add t) = some (.string v.ks[t]) := fun t ht => hac t _ (by simp [ht])
  obtain ⟨rfl, hB⟩ := hA (by omega)
  have HC := Lib.hid hcell
  unfold cellsV
  rw [List.length_map]
  obtain ⟨ks, hk⟩ : ∃ ks, v.ks = ks := ⟨_, rfl⟩
  subst hk
  have HIX := Lib.hid hix
  have HNE := Lib.hid hne
  clear hA hac hcell ha hsm h hix hne
  go_enter Tryz.func180, Tryz.ntmps180
  go_wp2_with fail
  have HB := Lib.hid ((HW.start w).one #[.int .i64 v.k, .float .f64 v.f, .string v.s, .slice a1 n1 k1, .slice (some ad) v.ks.length k2] 27)
  generalize w.alloc (.cells #[.int .i64 v.k, .float .f64 v.f, .string v.s, .slice a1 n1 k1, .slice (some ad) v.ks.length k2] 27) = W0 at HB ⊢
  go_loopw [5] (fun z W => ∃ t : Nat, t ≤ i ∧ z = .int .i64 t ∧ Below W0.heap.size W0 W) (fun z _ => i - (intOf z).toNat)
  case atStart => exact ⟨0, Nat.zero_le _, rfl, Below.refl _ _⟩
  case round =>
    obtain ⟨t, ht, rfl, hbel⟩ := hrel
    have HBL := Lib.hid (HB.out.below hbel)
    have HB0 := Lib.hid hbel
    obtain ⟨x0, x1, x2, x3, x4⟩ := row5p (HBL.out.rows _ (.head _))
    have hc := (HBL.out.bel.cell (p := ad.add t) (by rw [add_block]; exact hB)).trans (HC.out t (by omega))
    have hlt : t < v.ks.length := by omega
    have heq := bytes_eqP v.ks[t] x
    clear hbel
    by_cases he : t = i
    · subst he
      rw [decide_eq_true HIX.out] at heq
      go_wp2_with fail
      go_ret
      exact ⟨rfl, HBL.out.bel⟩
    · rw [decide_eq_false (HNE.out t (by omega))] at heq
      go_wp2_with fail
      go_roundw
      case rel => exact ⟨t + 1, by omega, by go_num, HB0.out⟩
      case measure => simp [intOf]; omega
set_option maxRecDepth 100000 in
set_option maxHeartbeats 4000000 in
/-- What the document's Get answers at a key that is there. -/
theorem refGetR_any (w0 : World) (v : V) (m : Nat) (lv kv : Value) (i : Nat) (hi : i < v.l.length) (x : ByteArray) (hik : i < v.ks.length) (hix : v.ks[i] = x) (hne : ∀ t (ht : t < i), v.ks[t]'(by omega) ≠ x) (w : World) (h : At w0 w0.heap.size (m + 1) v lv kv) (hbel : Below w0.heap.size w0 w) :
    Calls Tryz.prog 137 #[.agg (cellsV v lv kv), .string x] w fun e w' =>
      (∃ a1 n1 k1 a2 n2 k2, e = .returned (.tuple #[.agg #[.int .i64 v.l[i].k, .float .f64 v.l[i].f, .string v.l[i].s, .slice a1 n1 k1, .slice a2 n2 k2], .bool true]) ∧ At w0 w0.heap.size m v.l[i] (.slice a1 n1 k1) (.slice a2 n2 k2)) ∧ Below w.heap.size w w' := by
  have hsf := run_store_float Tryz.prog
  obtain ⟨i0, hi0, hz0, hz1, hz2⟩ := info_parts infoVal
  have hpl := fun W (hb : Below w.heap.size w W) => refPlaceAt v m lv kv x i hik hix hne W ((h.below (hbel.trans (hb.mono hbel.size))).more (Nat.le_trans hbel.size hb.size))
  obtain ⟨hsm, ha, hcp, a, c, B, o, rfl, hab, hI⟩ := h.opened
  obtain ⟨A, ad, ck, rfl, _, _⟩ := ha.1.dest
  rw [List.length_map] at *
  have hls := hsm.2.2.2.2.1
  unfold cellsV at hpl
  obtain ⟨lv', kv', h5, hAt⟩ := hI i hi
  obtain ⟨rfl, hBw⟩ := hab (by omega)
  obtain ⟨a1, n1, k1, a2, n2, k2, rfl, rfl⟩ := hAt.slices
  have HPL := Lib.hid hpl
  have HAT := Lib.hid hAt
  have H5 := Lib.hid h5
  have HBEL := Lib.hid hbel
  clear hpl h ha hcp hab hI hsm h5 hAt hbel hix hne
  unfold cellsV
  go_enter Tryz.func137, Tryz.ntmps137
  go_wp2_with fail
  have H := Lib.hid ((HW.start w).two #[.int .i64 v.k, .float .f64 v.f, .string v.s, .slice (some ⟨B, o, none⟩) v.l.length c, .slice A v.ks.length ck] #[.int .i64 0, .float .f64 0, .string ⟨#[]⟩, .slice none 0 0, .slice none 0 0] 27 27)
  refine (HPL.out _ H.out.bel).mono ?_
  rintro e w1 ⟨rfl, hb⟩
  have H1 := Lib.hid (H.out.below hb)
  clear hb H
  obtain ⟨x0, x1, x2, x3, x4⟩ := row5p (H1.out.rows _ (.tail _ (.head _)))
  obtain ⟨u0, u1, u2, u3, u4, v0, v1, v2, v3, v4⟩ := row5 (H1.out.rows _ (.head _))
  obtain ⟨f0, f1, f2, f3, f4⟩ := H5.out.keep hBw (fun p hp => (HBEL.out.trans (H1.out.bel.mono HBEL.out.size)).cell hp)
  go_wp2_with fail
  refine bodyPost_ret_by (results_row_tmp rfl _ _ (w.heap.size + 1) 27 _ (0, 0) _ (.bool true) rfl rfl (set5_row (H1.out.rows _ (.head _)) (.int .i64 v.l[i].k) (.float .f64 v.l[i].f) (.string v.l[i].s) (.slice a1 n1 k1) (.slice a2 n2 k2)) Tryz.underlying27 rfl sizeVal) rfl ?_
  have hbf : Below w.heap.size w (set5 w1 (w.heap.size + 1) (.int .i64 v.l[i].k) (.float .f64 v.l[i].f) (.string v.l[i].s) (.slice a1 n1 k1) (.slice a2 n2 k2)) := set5_below0 H1.out.bel (by omega) ..
  exact ⟨⟨_, _, _, _, _, _, rfl, HAT.out⟩, hbf⟩
end Go.Proofs.YtmicpdibnkmekaaGreatDoor

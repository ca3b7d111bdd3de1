/- decodedValue; a name that is none; words of one cell. -/
import Derived.Test.YtpobdmkidopnnaaGreatDoorGAV
import Derived.Lib.ConvBytes
import Derived.Test.YtpobdmkidopnnaaGreatDoorGAH
import Derived.Test.YtpobdmkidopnnaaGreatDoorGAG
import Derived.Test.YtpobdmkidopnnaaGreatDoorGAT
namespace Go.Proofs.YtpobdmkidopnnaaGreatDoor
open Go Go.RowKit Go.Shelf

theorem below_convF (w : World) (s : ByteArray) : Below w.heap.size w (Lib.bytesWorld w 5 s) := Lib.bytesWorld_below w 5 s
theorem arr_convF (w : World) (s : ByteArray) (c : Nat) : Arr (Lib.bytesWorld w 5 s) (w.heap.size + 1) (.slice (some ⟨w.heap.size, 0, none⟩) s.size c) (Lib.byteCells s.data.toList) := by
  refine ⟨some ⟨w.heap.size, 0, none⟩, c, by rw [bcells_len]; simp, fun _ => ⟨⟨w.heap.size, 0, none⟩, rfl, by show w.heap.size < _; omega, fun j u hu => ?_⟩⟩
  unfold Lib.byteCells at hu
  rw [List.getElem?_map] at hu
  obtain ⟨x, hx, rfl⟩ := Option.map_eq_some_iff.1 hu
  have hj : j < s.size := by have := (List.getElem?_eq_some_iff.1 hx).1; simpa using this
  have h := Lib.bytesWorld_cell w 5 s j hj
  have e : (Addr.add ⟨w.heap.size, 0, none⟩ j) = ⟨w.heap.size, j, none⟩ := by simp [Addr.add]; omega
  rw [e, h]
  simp [List.getD, hx]
/-- Clean of a text's bytes. -/
theorem clean_conv (s : ByteArray) (hs : s.size ≤ 1000000000) (w : World) (c : Nat) : Calls Tryz.prog 73 #[.slice (some ⟨w.heap.size, 0, none⟩) s.size c] (Lib.bytesWorld w 5 s) fun e w' => e = .returned (.string (cleanS s)) ∧ Below w.heap.size w w' := by
  have h := Clean_any s.data.toList (w.heap.size + 1) (.slice (some ⟨w.heap.size, 0, none⟩) s.size c) (by simpa using hs) (Lib.bytesWorld w 5 s) (arr_convF w s c) (by rw [Lib.bytesWorld_size]; exact Nat.le_refl _)
  refine h.mono fun e w' ⟨h1, h2⟩ => ⟨h1, (below_convF w s).trans (h2.mono (below_convF w s).size)⟩
set_option maxRecDepth 100000 in
set_option maxHeartbeats 4000000 in
theorem decodedValue_ok (S : ByteArray) (hs : S.size ≤ 500000000) (hk : decK S.data.toList = true) (A : Array Value) (k : Int) (f : Nat) (vs : ByteArray) (a1 a2 : Option Addr) (n1 c1 n2 c2 : Nat) (hA : A = #[.int .i64 k, .float .f64 f, .string vs, .slice a1 n1 c1, .slice a2 n2 c2]) (w : World)
    (hS : ∀ W, Below w.heap.size w W → Calls Tryz.prog 16 #[.agg A] W fun e w' => e = .returned (.string S) ∧ Below W.heap.size W w') :
    Calls Tryz.prog 81 #[.agg A] w fun e w' => e = .returned (.tuple #[.string (cleanS ⟨(decL S.data.toList).toArray⟩), .agg okA]) ∧ Below w.heap.size w w' := by
  have hsf := run_store_float Tryz.prog
  have hcv := fun (W : World) (s : ByteArray) => Lib.run_convert_string_bytes (P := Tryz.prog) W 9 58 5 s Tryz.underlying9 Tryz.underlying58 Tryz.underlying5
  have hlen : (decL S.data.toList).length ≤ S.size := by
    have h1 := eachO_le decStep 1 decStep_le (bareD S.data.toList) (dec0 S.data.toList)
    have h2 := trim_le S.data.toList [61]
    have h3 := trim_le (Lib.trimSuffix S.data.toList [61]) [61]
    have h4 : S.data.toList.length = S.size := by simp
    unfold decL
    unfold bareD at h1 ⊢
    omega
  have HS := Lib.hid hS
  have HD := Lib.hid (fun w => decoded_any S (by omega) w)
  rw [hk] at HD
  obtain ⟨D, hD⟩ : ∃ D : ByteArray, (⟨(decL S.data.toList).toArray⟩ : ByteArray) = D := ⟨_, rfl⟩
  have hDs : D.size ≤ 1000000000 := by rw [← hD]; show (decL S.data.toList).toArray.size ≤ _; rw [List.size_toArray]; omega
  rw [hD] at HD ⊢
  have HC := Lib.hid (fun w c => clean_conv D hDs w c)
  obtain ⟨C, hC⟩ : ∃ C, cleanS D = C := ⟨_, rfl⟩
  rw [hC] at HC ⊢
  obtain ⟨r0, r1⟩ := two_new w (.cells A 27) (.cells okA 32)
  have rb := ((Below.refl w.heap.size w).alloc (Nat.le_refl _) (.cells A 27)).alloc (by simp) (.cells okA 32)
  subst hA
  unfold okA at r0 r1 rb
  have H0 := Lib.hid r0
  have H1 := Lib.hid r1
  have HB := Lib.hid rb
  clear r0 r1 rb hS hlen hD hC hk
  go_enter Tryz.func81, Tryz.ntmps81
  go_upto_region 1 with fail
  generalize (w.alloc (.cells #[.int .i64 k, .float .f64 f, .string vs, .slice a1 n1 c1, .slice a2 n2 c2] 27)).alloc (.cells #[.bool false, .int .i64 0, .float .f64 0, .string ⟨#[]⟩, .slice none 0 0, .slice none 0 0] 32) = W at H0 H1 HB ⊢
  obtain ⟨d0, d1, d2, d3, d4, _⟩ := row5' H0.out
  go_wp2_with fail
  refine (HS.out _ HB.out).mono ?_
  rintro e w1 ⟨rfl, hb⟩
  have K1 := Lib.hid ((hb.block _ (Array.getElem?_eq_some_iff.1 H1.out).1).trans H1.out)
  have HB1 := Lib.hid (HB.out.trans (hb.mono HB.out.size))
  clear hb H1 HB d0 d1 d2 d3 d4 H0
  go_wp2_with fail
  refine (HD.out _).mono ?_
  rintro e w2 ⟨rfl, hb⟩
  have K2 := Lib.hid ((hb.block _ (Array.getElem?_eq_some_iff.1 K1.out).1).trans K1.out)
  have HB2 := Lib.hid (HB1.out.trans (hb.mono HB1.out.size))
  clear hb K1 HB1
  go_wp2_with fail
  refine (HC.out _ _).mono ?_
  rintro e w3 ⟨rfl, hb⟩
  have K3 := Lib.hid ((hb.block _ (Array.getElem?_eq_some_iff.1 K2.out).1).trans K2.out)
  have HB3 := Lib.hid (HB2.out.trans (hb.mono HB2.out.size))
  clear hb K2 HB2
  obtain ⟨e0, e1, e2, e3, e4, e5⟩ := row6F K3.out
  obtain ⟨u0, u1, u2, u3, u4, u5⟩ := ice6F K3.out
  go_wp2_with fail
  refine bodyPost_ret_by (results_tmp_row rfl _ _ (w.heap.size + 1) 32 _ (0, 0) _ (.string C) rfl rfl (set6_row K3.out ..) Tryz.underlying32 rfl infoErr) rfl ?_
  exact ⟨rfl, set6_below HB3.out (by omega) ..⟩
/-- A value in an array of its own. -/
def soloV (v : V) : V := .mk 5 0 ⟨#[]⟩ [v] []
theorem solo_at (m : Nat) (v : V) (lv kv : Value) (W : World) (g : Nat) (t : TypeId) (h : At W W.heap.size m v lv kv) (hg : W.heap[g]? = some (.cells (cellsV v lv kv) t (0, 0))) : At W W.heap.size (m + 1) (soloV v) (.slice (some ⟨g, 0, none⟩) 1 1) nilS := by
  refine ⟨⟨by show (-9223372036854775808 : Int) ≤ 5; omega, by show (5 : Int) ≤ 9223372036854775807; omega, by show 0 < 18446744073709551616; omega, by show 0 ≤ 1048576; omega, by show 1 ≤ 1048576; omega, Nat.zero_le _, Nat.zero_le _⟩, ⟨⟨none, 0, rfl, fun h => absurd h (by simp [soloV, V.ks])⟩, caps_nil⟩, fun A n c e => by cases e; exact ⟨Nat.le_refl _, by unfold maxLen; omega, fun e => by cases e⟩, some ⟨g, 0, none⟩, 1, g, 0, rfl, fun _ => ⟨rfl, (Array.getElem?_eq_some_iff.1 hg).1⟩, fun i hi => ?_⟩
  obtain rfl : i = 0 := by have : i < 1 := hi; omega
  refine ⟨lv, kv, ?_, h⟩
  unfold FiveAt
  unfold cellsV at hg
  simp [World.cell?, hg, soloV, V.l]
set_option maxRecDepth 100000 in
set_option maxHeartbeats 4000000 in
theorem words_one (m : Nat) (v : V) (d : Nat) (lv kv : Value) (w : World) (hN : NumW w) (h : At w w.heap.size m v lv kv) (h5 : v.k ≠ 5) (h6 : v.k ≠ 6) (hr : rightV d v = true) (ht : (textV m v).length ≤ 1099511627776) (hl : (wordsT m (soloV v)).length ≤ 140737488355328) :
    Calls Tryz.prog 85 #[.agg (cellsV v lv kv)] w fun e w' => e = .returned (.tuple #[.string ⟨(wordsT m (soloV v)).toArray⟩, .agg okA]) ∧ Below w.heap.size w w' := by
  have hsf := run_store_float Tryz.prog
  have hb3 : Below w.heap.size w ((w.alloc (.cells (cellsV v lv kv) 27)).alloc (.cells okA 32)) := ((Below.refl w.heap.size w).alloc (Nat.le_refl _) _).alloc (by simp) _
  have hr0 := row_alloc3 (heap_alloc_new w (.cells (cellsV v lv kv) 27)) (.cells okA 32)
  have hr2 := heap_alloc_new (w.alloc (.cells (cellsV v lv kv) 27)) (.cells okA 32)
  rw [World.size_alloc] at hr2
  have hn : nestAt (soloV v).l 0 = -1 := by
    have : nestedV v = false := by unfold nestedV; simp [h5, h6]
    show nestAt [v] 0 = -1
    unfold nestAt
    rw [if_neg (by rw [this]; exact Bool.false_ne_true)]
    rfl
  have hI := fun W (g : Nat) (hW : Below w.heap.size w W) (hg : W.heap[g]? = some (.cells (cellsV v lv kv) 27 (0, 0))) => IndexFunc_any m (soloV v) (.slice (some ⟨g, 0, none⟩) 1 1) nilS W (solo_at m v lv kv W g _ (At.more hW.size _ _ _ _ (h.below hW)) hg)
  have hJ := fun W (g : Nat) (hW : Below w.heap.size w W) (hg : W.heap[g]? = some (.cells (cellsV v lv kv) 27 (0, 0))) => joined_words m (soloV v) (.slice (some ⟨g, 0, none⟩) 1 1) nilS W (hN.below hW) (solo_at m v lv kv W g _ (At.more hW.size _ _ _ _ (h.below hW)) hg) (fun i hi => by
    obtain rfl : i = 0 := by have : i < 1 := hi; omega
    exact ⟨d, hr, ht⟩) hl
  rw [hn] at hI
  obtain ⟨a1, n1, c1, a2, n2, c2, rfl, rfl⟩ := h.slices
  unfold cellsV at hb3 hr0 hr2 hI hJ ⊢
  unfold okA at hb3 hr0 hr2
  obtain ⟨k, hk⟩ : ∃ k, v.k = k := ⟨_, rfl⟩
  rw [hk] at hb3 hr0 hr2 hI hJ h5 ⊢
  have HI := Lib.hid hI
  have HJ := Lib.hid hJ
  have H0 := Lib.hid hr0
  have H2 := Lib.hid hr2
  have HB := Lib.hid hb3
  have g5 : (k == 5) = false := by simp [h5]
  obtain ⟨R, hR⟩ : ∃ R : ByteArray, (⟨(wordsT m (soloV v)).toArray⟩ : ByteArray) = R := ⟨_, rfl⟩
  rw [hR] at HJ ⊢
  clear hb3 hr0 hr2 h hN hr hl h5 h6 hI hJ hR hn hk
  go_enter Tryz.func85, Tryz.ntmps85
  go_upto_region 1 with fail
  generalize (w.alloc (.cells #[.int .i64 k, .float .f64 v.f, .string v.s, .slice a1 n1 c1, .slice a2 n2 c2] 27)).alloc (.cells #[.bool false, .int .i64 0, .float .f64 0, .string ⟨#[]⟩, .slice none 0 0, .slice none 0 0] 32) = W at H0 H2 HB ⊢
  obtain ⟨c0, c1', c2', c3, c4, _⟩ := row5' H0.out
  go_upto_region 2 with fail
  have hb4 := (Below.refl W.heap.size W).alloc (Nat.le_refl _) (.cells #[.int .i64 k, .float .f64 v.f, .string v.s, .slice a1 n1 c1, .slice a2 n2 c2] 27)
  have K0 := Lib.hid ((hb4.block _ (Array.getElem?_eq_some_iff.1 H0.out).1).trans H0.out)
  have K2 := Lib.hid ((hb4.block _ (Array.getElem?_eq_some_iff.1 H2.out).1).trans H2.out)
  have K3 := Lib.hid (heap_alloc_new W (.cells #[.int .i64 k, .float .f64 v.f, .string v.s, .slice a1 n1 c1, .slice a2 n2 c2] 27))
  have HB1 := Lib.hid (HB.out.trans (hb4.mono HB.out.size))
  obtain ⟨g, hg⟩ : ∃ g, W.heap.size = g := ⟨_, rfl⟩
  rw [hg] at K3 ⊢
  generalize W.alloc (.cells #[.int .i64 k, .float .f64 v.f, .string v.s, .slice a1 n1 c1, .slice a2 n2 c2] 27) = W1 at K0 K2 K3 HB1 ⊢
  clear hb4 c0 c1' c2' c3 c4 H0 H2 HB hg
  obtain ⟨c0, c1', c2', c3, c4, _⟩ := row5' K0.out
  go_wp2_with fail
  refine (HI.out _ g HB1.out K3.out).mono ?_
  rintro e w1 ⟨rfl, hb⟩
  have L2 := Lib.hid ((hb.block _ (Array.getElem?_eq_some_iff.1 K2.out).1).trans K2.out)
  have L3 := Lib.hid ((hb.block _ (Array.getElem?_eq_some_iff.1 K3.out).1).trans K3.out)
  have HB2 := Lib.hid (HB1.out.trans (hb.mono HB1.out.size))
  clear hb c0 c1' c2' c3 c4 K0 K2 K3 HB1
  go_wp2_with fail
  refine (HJ.out _ g HB2.out L3.out).mono ?_
  rintro e w2 ⟨rfl, hb⟩
  have M2 := Lib.hid ((hb.block _ (Array.getElem?_eq_some_iff.1 L2.out).1).trans L2.out)
  have HB3 := Lib.hid (HB2.out.trans (hb.mono HB2.out.size))
  clear hb L2 HB2
  obtain ⟨e0, e1, e2, e3, e4, e5⟩ := row6F M2.out
  obtain ⟨u0, u1, u2, u3, u4, u5⟩ := ice6F M2.out
  go_wp2_with fail
  refine bodyPost_ret_by (results_tmp_row rfl _ _ (w.heap.size + 1) 32 _ (0, 0) _ (.string R) rfl rfl (set6_row M2.out ..) Tryz.underlying32 rfl infoErr) rfl ?_
  exact ⟨rfl, set6_below HB3.out (by omega) ..⟩
set_option maxRecDepth 100000 in
set_option maxHeartbeats 4000000 in
theorem fm_x (A : Array Value) (k : Int) (f : Nat) (vs : ByteArray) (a1 a2 : Option Addr) (n1 c1 n2 c2 : Nat) (hA : A = #[.int .i64 k, .float .f64 f, .string vs, .slice a1 n1 c1, .slice a2 n2 c2]) (w : World) :
    Calls Tryz.prog 40 #[.string ⟨#[120]⟩, .agg A] w fun e w' => e = .returned (.tuple #[.string ⟨#[]⟩, .agg (errA ⟨#[120, 32, 105, 115, 32, 110, 111, 116, 32, 97, 32, 118, 97, 108, 105, 100, 32, 102, 111, 114, 109, 97, 116]⟩)]) ∧ Below w.heap.size w w' := by
  have hsf := run_store_float Tryz.prog
  have hcv := fun (W : World) (s : ByteArray) => Lib.run_convert_string_bytes (P := Tryz.prog) W 9 58 5 s Tryz.underlying9 Tryz.underlying58 Tryz.underlying5
  have hcl : cleanS ⟨#[120]⟩ = ⟨#[120]⟩ := by kernel_rfl
  have HC := Lib.hid (fun w c => clean_conv ⟨#[120]⟩ (by show 1 ≤ _; omega) w c)
  rw [hcl] at HC
  have HF := Lib.hid (fun w => failedF_any ⟨#[120, 32, 105, 115, 32, 110, 111, 116, 32, 97, 32, 118, 97, 108, 105, 100, 32, 102, 111, 114, 109, 97, 116]⟩ w)
  unfold errA at HF
  obtain ⟨r0, r1⟩ := two_new w (.cells A 27) (.cells okA 32)
  have rb := ((Below.refl w.heap.size w).alloc (Nat.le_refl _) (.cells A 27)).alloc (by simp) (.cells okA 32)
  subst hA
  unfold okA at r0 r1 rb
  have H0 := Lib.hid r0
  have H1 := Lib.hid r1
  have HB := Lib.hid rb
  clear r0 r1 rb hcl
  go_enter Tryz.func40, Tryz.ntmps40
  go_upto_region 1 with fail
  generalize (w.alloc (.cells #[.int .i64 k, .float .f64 f, .string vs, .slice a1 n1 c1, .slice a2 n2 c2] 27)).alloc (.cells #[.bool false, .int .i64 0, .float .f64 0, .string ⟨#[]⟩, .slice none 0 0, .slice none 0 0] 32) = W at H0 H1 HB ⊢
  go_wp2_with fail
  refine (HC.out _ _).mono ?_
  rintro e w2 ⟨rfl, hb⟩
  have K2 := Lib.hid ((hb.block _ (Array.getElem?_eq_some_iff.1 H1.out).1).trans H1.out)
  have HB2 := Lib.hid (HB.out.trans (hb.mono HB.out.size))
  clear hb H1 HB
  go_wp2_with fail
  refine (HF.out _).mono ?_
  rintro e w3 ⟨rfl, hb⟩
  have K3 := Lib.hid ((hb.block _ (Array.getElem?_eq_some_iff.1 K2.out).1).trans K2.out)
  have HB3 := Lib.hid (HB2.out.trans (hb.mono HB2.out.size))
  clear hb K2 HB2
  obtain ⟨e0, e1, e2, e3, e4, e5⟩ := row6F K3.out
  obtain ⟨u0, u1, u2, u3, u4, u5⟩ := ice6F K3.out
  go_wp2_with fail
  refine bodyPost_ret_by (results_tmp_row rfl _ _ (w.heap.size + 1) 32 _ (0, 0) _ (.string ⟨#[]⟩) rfl rfl (set6_row K3.out ..) Tryz.underlying32 rfl infoErr) rfl ?_
  exact ⟨rfl, set6_below HB3.out (by omega) ..⟩
end Go.Proofs.YtpobdmkidopnnaaGreatDoor
namespace Go.Proofs.YtpobdmkidopnnaaGreatDoor
open Go Go.RowKit

theorem eText_len (neg : Bool) (l : List UInt8) (x : Int) : (eText neg l x).length ≤ l.length + 20 := by
  unfold eText expD
  simp only [List.length_append]
  have h1 : (if neg then ([45] : List UInt8) else []).length ≤ 1 := by split <;> simp
  have h2 : (l.take 1).length ≤ l.length := by rw [List.length_take]; omega
  have h3 : (if l.length ≤ 1 then ([] : List UInt8) else 46 :: l.drop 1).length ≤ 1 + (l.length - 1) ∧ (l.take 1).length + (if l.length ≤ 1 then ([] : List UInt8) else 46 :: l.drop 1).length ≤ l.length + 1 := by
    rw [List.length_take]
    split
    · simp; omega
    · simp; omega
  have h4 : (if x < 0 then ([45] : List UInt8) else [43]).length = 1 := by split <;> rfl
  have h5 : (if x.natAbs < 10 then [48, UInt8.ofNat (48 + x.natAbs)] else if x.natAbs < 100 then [UInt8.ofNat (48 + x.natAbs / 10), UInt8.ofNat (48 + x.natAbs % 10)] else [UInt8.ofNat (48 + x.natAbs / 100), UInt8.ofNat (48 + x.natAbs / 10 % 10), UInt8.ofNat (48 + x.natAbs % 10)]).length ≤ 3 := by
    split
    · simp
    · split <;> simp
  simp only [List.length_cons, List.length_nil]
  omega
theorem fText_len (neg : Bool) (l : List UInt8) (dp : Int) : (fText neg l dp).length ≤ l.length + dp.natAbs + 10 := by
  unfold fText
  rw [List.length_append]
  have h1 : (if neg then ([45] : List UInt8) else []).length ≤ 1 := by split <;> simp
  have h2 : (if (l.length : Int) ≤ dp then l ++ List.replicate (dp.toNat - l.length) 48 else if 0 < dp then l.take dp.toNat ++ 46 :: l.drop dp.toNat else 48 :: 46 :: (List.replicate (-dp).toNat 48 ++ l)).length ≤ l.length + dp.natAbs + 5 := by
    split
    · rw [List.length_append, List.length_replicate]; omega
    · split
      · rw [List.length_append, List.length_cons, List.length_take, List.length_drop]; omega
      · simp only [List.length_cons, List.length_append, List.length_replicate]; omega
  omega
theorem textB_len (b : Nat) (hb : b < 18446744073709551616) : (textB b).length ≤ 1000 := by
  unfold textB
  by_cases h1 : 9218868437227405312 < szB b
  · rw [if_pos h1]; simp
  · rw [if_neg h1]
    have hc := clamp_in b hb (by omega)
    obtain ⟨c, hcc⟩ : ∃ c, clampB b = c := ⟨_, rfl⟩
    rw [hcc] at hc ⊢
    have hkey : ¬ zeroB c → (digB c).length ≤ 20 ∧ -360 ≤ dpB c ∧ dpB c ≤ 400 := by
      intro hz
      have hx : exB c ≤ 2046 := by unfold exB; have := hc.2; unfold szB at this; omega
      have hm : mtB c < 4503599627370496 := Nat.mod_lt _ (by omega)
      obtain ⟨d1, d2, d3, d4⟩ := dec_all _ _ hz hx hm
      have s3 := nine_digits _ d2
      have s2 := strip_le (Lib.decDigits (decOf (exB c) (mtB c)).1)
      rw [Lib.decDigits_length] at s2
      refine ⟨?_, ?_, ?_⟩
      · unfold digB
        rw [List.length_take, Lib.decDigits_length]
        omega
      · unfold dpB; omega
      · unfold dpB; omega
    split
    · unfold fOf
      split
      · rw [List.length_append]; split <;> simp
      · rename_i hz
        obtain ⟨k1, k2, k3⟩ := hkey hz
        have := fText_len (negB c) (digB c) (dpB c)
        omega
    · unfold eOf
      split
      · rw [List.length_append]; split <;> simp
      · rename_i hz
        obtain ⟨k1, k2, k3⟩ := hkey hz
        have := eText_len (negB c) (digB c) (dpB c - 1)
        omega
theorem enc_le4 (p : Int) : (Lib.encodeRune p).length ≤ 4 := by
  have := Lib.runeCells_le p
  rw [Lib.runeCells_length] at this
  omega
theorem flat_len {α : Type} (f : α → List UInt8) (c : Nat) (h : ∀ x, (f x).length ≤ c) : ∀ l : List α, (l.flatMap f).length ≤ c * l.length
  | [] => by simp
  | x :: l => by
    have := flat_len f c h l
    have h1 := h x
    rw [List.flatMap_cons, List.length_append, List.length_cons, Nat.mul_succ]
    omega
theorem escR_len (r : Int) : (escR r).length ≤ 6 := by
  have := enc_le4 r
  unfold escR
  repeat' split
  all_goals first | (simp; done) | omega
theorem quoteR_len (s : ByteArray) : (quoteR s).length ≤ 6 * s.size + 2 := by
  have h1 := flat_len (fun p : Nat => escR ((p : Nat) : Int)) 6 (fun x => escR_len _) (pts s 0)
  have h2 := pts_len s 0
  unfold quoteR bodyR
  simp only [List.length_cons, List.length_append, List.length_nil]
  omega
theorem rowB_len (T : Nat → List UInt8) : ∀ n, (rowB T n).length ≤ sumTo (fun i => (T i).length + 1) n
  | 0 => Nat.le_refl _
  | n + 1 => by
    have h := rowB_len T n
    show (rowB T n ++ (if n = 0 then T n else 44 :: T n)).length ≤ sumTo _ n + ((T n).length + 1)
    rw [List.length_append]
    split
    · omega
    · rw [List.length_cons]; omega
theorem text_bulk {w : World} {B : Nat} : ∀ (m : Nat) (v : V) (lv kv : Value), At w B m v lv kv → (textV m v).length + 4 ≤ 300 * bulkV m v := by
  intro m
  induction m with
  | zero => intro v lv kv h; exact h.elim
  | succ m ih =>
    intro v lv kv h
    obtain ⟨hsm, _, _, a, c, b, o, _, _, hi⟩ := h.opened
    have hch : ∀ i, i < v.l.length → (textV m (v.l.getD i default)).length + 4 ≤ 300 * bulkV m (v.l.getD i default) ∧ 5 ≤ bulkV m (v.l.getD i default) := by
      intro i hlt
      obtain ⟨lv', kv', _, h2⟩ := hi i hlt
      have hg : v.l.getD i default = v.l[i] := by simp [List.getD, hlt]
      rw [hg]
      exact ⟨ih _ _ _ h2, bulk_five h2⟩
    have hb : bulkV (m + 1) v = 5 + v.s.size + v.ks.length + keysLen v.ks + sumTo (fun i => bulkV m (v.l.getD i default)) v.l.length := rfl
    have h5 : 5 * v.l.length ≤ sumTo (fun i => bulkV m (v.l.getD i default)) v.l.length := by
      rw [← sumTo_const]
      exact sumTo_le _ fun i hlt => (hch i hlt).2
    have hs : sumTo (fun i => (textV m (v.l.getD i default)).length + 4) v.l.length ≤ 300 * sumTo (fun i => bulkV m (v.l.getD i default)) v.l.length := by
      rw [← sumTo_mul]
      exact sumTo_le _ fun i hlt => (hch i hlt).1
    have hs2 := sumTo_add (fun i => (textV m (v.l.getD i default)).length + 1) (fun _ => 3) v.l.length
    have hs3 : sumTo (fun i => (textV m (v.l.getD i default)).length + 1 + 3) v.l.length = sumTo (fun i => (textV m (v.l.getD i default)).length + 4) v.l.length := sumTo_congr _ fun i _ => rfl
    rw [hs3, sumTo_const] at hs2
    rw [hb]
    show (if v.k = 0 then nullT else if v.k = 1 then falseT else if v.k = 2 then trueT else if v.k = 3 then textB v.f else if v.k = 4 then quoteR v.s
      else if v.k = 5 then 91 :: (rowB (fun i => textV m (v.l.getD i default)) v.l.length ++ [93])
      else 123 :: (rowB (fun i => quoteR (v.ks.getD i default) ++ 58 :: textV m (v.l.getD i default)) v.l.length ++ [125])).length + 4 ≤ _
    have l0 : nullT.length = 4 := rfl
    have l1 : falseT.length = 5 := rfl
    have l2 : trueT.length = 4 := rfl
    have l3 := textB_len v.f hsm.2.2.1
    have l4 := quoteR_len v.s
    split
    · omega
    split
    · omega
    split
    · omega
    split
    · omega
    split
    · omega
    split
    · have l5 := rowB_len (fun i => textV m (v.l.getD i default)) v.l.length
      rw [List.length_cons, List.length_append, List.length_singleton]
      omega
    · have l6 := rowB_len (fun i => quoteR (v.ks.getD i default) ++ 58 :: textV m (v.l.getD i default)) v.l.length
      have l7 : sumTo (fun i => (quoteR (v.ks.getD i default) ++ 58 :: textV m (v.l.getD i default)).length + 1) v.l.length ≤ sumTo (fun i => (6 * (v.ks.getD i default).size + 3) + ((textV m (v.l.getD i default)).length + 1)) v.l.length := by
        refine sumTo_le _ fun i hlt => ?_
        have := quoteR_len (v.ks.getD i default)
        simp only [List.length_append, List.length_cons]
        omega
      rw [sumTo_add (fun i => 6 * (v.ks.getD i default).size + 3) (fun i => (textV m (v.l.getD i default)).length + 1), sumTo_add (fun i => 6 * (v.ks.getD i default).size) (fun _ => 3), sumTo_mul 6 (fun i => (v.ks.getD i default).size), sumTo_const] at l7
      have l8 := keys_sum v.ks v.l.length
      rw [List.length_cons, List.length_append, List.length_singleton]
      omega
end Go.Proofs.YtpobdmkidopnnaaGreatDoor
namespace Go.Proofs.YtpobdmkidopnnaaGreatDoor
open Go Go.RowKit Go.Shelf

theorem bulk1 (v : V) (h : v.l = []) : bulkV 1 v = 5 + v.s.size + v.ks.length + keysLen v.ks := by
  unfold bulkV
  rw [h]
  rfl
theorem str_text (s : ByteArray) : (textV 1 (strV s)).length ≤ 6 * s.size + 2 := by
  have : textV 1 (strV s) = quoteR s := rfl
  rw [this]
  exact quoteR_len s
theorem str_right (s : ByteArray) (h : allGood s 0 = true) : rightV 1 (strV s) = true := by
  unfold rightV
  rw [Bool.and_eq_true]
  refine ⟨?_, by rfl⟩
  rw [headOK_iff]
  simp [strV, leafV, V.k, V.f, V.s, V.l, V.ks, h]
  exact ⟨by kernel_rfl, by kernel_rfl⟩
theorem str_T (s : ByteArray) : (⟨(strT 1 (strV s)).toArray⟩ : ByteArray) = s := by
  have : strT 1 (strV s) = s.data.toList := rfl
  rw [this]
/-- String, of a string. -/
theorem String_str (s : ByteArray) (hs : s.size ≤ 1048576) (hg : allGood s 0 = true) (w : World) (hN : NumW w) :
    Calls Tryz.prog 16 #[.agg (strA s)] w fun e w' => e = .returned (.string s) ∧ Below w.heap.size w w' := by
  have h := String_any 1 (strV s) 1 nilS nilS w hN (leaf_at w _ 0 4 0 s (by omega) (by omega) hs) (str_right s hg) (by have := str_text s; omega)
  rw [str_T] at h
  exact h
theorem encL_le (s : List UInt8) : (encL s).length ≤ 2 * s.length + 10 := by
  have h := eachO_le encStep 2 encStep_le s (0, 0)
  have h2 : (encT s).length ≤ 2 * s.length + 1 := by
    unfold encT
    rw [List.length_append]
    split
    · simp; omega
    · simp; omega
  unfold encL
  rw [List.length_append, List.length_replicate]
  omega
/-- base64 of a string. -/
theorem F_base64 (s : ByteArray) (hs : s.size ≤ 1048576) (hg : allGood s 0 = true) (w : World) (hN : NumW w) :
    Calls Tryz.prog 12 #[.string ⟨#[98, 97, 115, 101, 54, 52]⟩, .agg (strA s)] w fun e w' => e = .returned (smallS ⟨(encL s.data.toList).toArray⟩) ∧ Below w.heap.size w w' := by
  have hl := encL_le s.data.toList
  have hz : s.data.toList.length = s.size := by simp
  refine Format_ok _ _ (by show (encL s.data.toList).toArray.size ≤ _; rw [List.size_toArray]; omega) (strA s) 4 0 s none none 0 0 0 0 rfl w (fun W hW => ?_)
  exact fm_base64 s _ (strA s) 4 0 s none none 0 0 0 0 rfl W (fun W' hW' => String_str s hs hg W' ((hN.below hW).below hW')) (fun W' => encoded_any s (by omega) W')
theorem decL_le (s : List UInt8) : (decL s).length ≤ s.length := by
  have h1 := eachO_le decStep 1 decStep_le (bareD s) (dec0 s)
  have h2 := trim_le s [61]
  have h3 := trim_le (Lib.trimSuffix s [61]) [61]
  unfold decL
  unfold bareD at h1 ⊢
  omega
theorem enc_le4F (p : Int) : (Lib.encodeRune p).length ≤ 4 := enc_le4 p
/-- base64d of a string that is some. -/
theorem F_base64d (s : ByteArray) (hs : s.size ≤ 1048576) (hg : allGood s 0 = true) (hk : decK s.data.toList = true) (hc : (cleanS ⟨(decL s.data.toList).toArray⟩).size ≤ 1099511627776) (w : World) (hN : NumW w) :
    Calls Tryz.prog 12 #[.string ⟨#[98, 97, 115, 101, 54, 52, 100]⟩, .agg (strA s)] w fun e w' => e = .returned (smallS (cleanS ⟨(decL s.data.toList).toArray⟩)) ∧ Below w.heap.size w w' := by
  refine Format_ok _ _ hc (strA s) 4 0 s none none 0 0 0 0 rfl w (fun W hW => ?_)
  exact fm_base64d_ok _ (strA s) 4 0 s none none 0 0 0 0 rfl W (fun W' hW' => decodedValue_ok s (by omega) hk (strA s) 4 0 s none none 0 0 0 0 rfl W' (fun W'' hW'' => String_str s hs hg W'' (((hN.below hW).below hW').below hW'')))
/-- html and uri of any value. -/
theorem F_html (m : Nat) (v : V) (d : Nat) (lv kv : Value) (w : World) (hN : NumW w) (h : At w w.heap.size m v lv kv) (hr : rightV d v = true) (hlen : (textV m v).length ≤ 1000000000) :
    Calls Tryz.prog 12 #[.string ⟨#[104, 116, 109, 108]⟩, .agg (cellsV v lv kv)] w fun e w' => e = .returned (smallS ⟨(replL LMark (strT m v)).toArray⟩) ∧ Below w.heap.size w w' := by
  have hsz : v.s.size ≤ 1048576 := by cases m with | zero => exact h.elim | succ m => exact h.opened.1.2.2.2.1
  have hS : (strT m v).length ≤ 1000000000 := by
    unfold strT
    split
    · simp; omega
    · exact hlen
  have hl := replL_le LMark (by decide) ⟨(strT m v).toArray⟩
  have hz : (⟨(strT m v).toArray⟩ : ByteArray).size = (strT m v).length := by show (strT m v).toArray.size = _; rw [List.size_toArray]
  obtain ⟨a1, n1, c1, a2, n2, c2, rfl, rfl⟩ := h.slices
  refine Format_ok _ _ (by show (replL LMark (strT m v)).toArray.size ≤ _; rw [List.size_toArray]; have : (replL LMark (strT m v)).length ≤ _ := hl; omega) _ v.k v.f v.s a1 a2 n1 c1 n2 c2 rfl w (fun W hW => ?_)
  exact fm_html ⟨(strT m v).toArray⟩ _ _ v.k v.f v.s a1 a2 n1 c1 n2 c2 rfl W (fun W' hW' => String_any m v d _ _ W' ((hN.below hW).below hW') (At.more (hW.trans (hW'.mono hW.size)).size _ _ _ _ (h.below (hW.trans (hW'.mono hW.size)))) hr (by omega)) (fun W' => markup_any ⟨(strT m v).toArray⟩ (by omega) W')
theorem uriL_le (s : ByteArray) : (uriL s.data.toList).length ≤ 10 * s.size := by
  have := eachO_le (fun (_ : Unit) c => ((), uriT c)) 10 (fun _ c => uriT_le c) s.data.toList ()
  simpa [uriL] using this
theorem F_uri (m : Nat) (v : V) (d : Nat) (lv kv : Value) (w : World) (hN : NumW w) (h : At w w.heap.size m v lv kv) (hr : rightV d v = true) (hlen : (textV m v).length ≤ 1000000000) :
    Calls Tryz.prog 12 #[.string ⟨#[117, 114, 105]⟩, .agg (cellsV v lv kv)] w fun e w' => e = .returned (smallS ⟨(uriL (strT m v)).toArray⟩) ∧ Below w.heap.size w w' := by
  have hsz : v.s.size ≤ 1048576 := by cases m with | zero => exact h.elim | succ m => exact h.opened.1.2.2.2.1
  have hS : (strT m v).length ≤ 1000000000 := by
    unfold strT
    split
    · simp; omega
    · exact hlen
  have hl := uriL_le ⟨(strT m v).toArray⟩
  have hz : (⟨(strT m v).toArray⟩ : ByteArray).size = (strT m v).length := by show (strT m v).toArray.size = _; rw [List.size_toArray]
  obtain ⟨a1, n1, c1, a2, n2, c2, rfl, rfl⟩ := h.slices
  refine Format_ok _ _ (by show (uriL (strT m v)).toArray.size ≤ _; rw [List.size_toArray]; have : (uriL (strT m v)).length ≤ _ := hl; omega) _ v.k v.f v.s a1 a2 n1 c1 n2 c2 rfl w (fun W hW => ?_)
  exact fm_uri ⟨(strT m v).toArray⟩ _ _ v.k v.f v.s a1 a2 n1 c1 n2 c2 rfl W (fun W' hW' => String_any m v d _ _ W' ((hN.below hW).below hW') (At.more (hW.trans (hW'.mono hW.size)).size _ _ _ _ (h.below (hW.trans (hW'.mono hW.size)))) hr (by omega)) (fun W' => address_any ⟨(strT m v).toArray⟩ (by omega) W')
theorem F_x (A : Array Value) (k : Int) (f : Nat) (vs : ByteArray) (a1 a2 : Option Addr) (n1 c1 n2 c2 : Nat) (hA : A = #[.int .i64 k, .float .f64 f, .string vs, .slice a1 n1 c1, .slice a2 n2 c2]) (w : World) :
    Calls Tryz.prog 12 #[.string ⟨#[120]⟩, .agg A] w fun e w' => e = .returned (.tuple #[.agg zeroA, .agg (errA ⟨#[120, 32, 105, 115, 32, 110, 111, 116, 32, 97, 32, 118, 97, 108, 105, 100, 32, 102, 111, 114, 109, 97, 116]⟩)]) ∧ Below w.heap.size w w' :=
  Format_err _ _ A k f vs a1 a2 n1 c1 n2 c2 hA w (fun W _hW => fm_x A k f vs a1 a2 n1 c1 n2 c2 hA W)
/-- csv, tsv, sh of an array without arrays and objects in it. -/
theorem F_csv (m : Nat) (v : V) (lv kv : Value) (w : World) (hN : NumW w) (h : At w w.heap.size (m + 1) v lv kv) (h5 : v.k = 5) (hne : nestAt v.l 0 < 0) (hE : ElemsOK m v) (hl : (rowT (fun s => 34 :: (replL LQuot s ++ [34])) m [44] v).length ≤ 1099511627776) :
    Calls Tryz.prog 12 #[.string ⟨#[99, 115, 118]⟩, .agg (cellsV v lv kv)] w fun e w' => e = .returned (smallS ⟨(rowT (fun s => 34 :: (replL LQuot s ++ [34])) m [44] v).toArray⟩) ∧ Below w.heap.size w w' := by
  have hsl := h.slices
  obtain ⟨a1, n1, c1, a2, n2, c2, rfl, rfl⟩ := hsl
  refine Format_ok _ _ (by show Array.size _ ≤ _; rw [List.size_toArray]; exact hl) _ v.k v.f v.s a1 a2 n1 c1 n2 c2 rfl w (fun W hW => ?_)
  exact fm_csv_ok _ _ v.k v.f v.s a1 a2 n1 c1 n2 c2 rfl W (fun W' hW' => row_good m v _ _ W' ((hN.below hW).below hW') (At.more (hW.trans (hW'.mono hW.size)).size _ _ _ _ (h.below (hW.trans (hW'.mono hW.size)))) h5 hne hE _ _ quotedF ⟨#[99, 115, 118]⟩ ⟨#[44]⟩ (by show _ ≤ _; exact Nat.le_trans hl (by omega)))
theorem F_tsv (m : Nat) (v : V) (lv kv : Value) (w : World) (hN : NumW w) (h : At w w.heap.size (m + 1) v lv kv) (h5 : v.k = 5) (hne : nestAt v.l 0 < 0) (hE : ElemsOK m v) (hl : (rowT (fun s => replL LEsc s) m [9] v).length ≤ 1099511627776) :
    Calls Tryz.prog 12 #[.string ⟨#[116, 115, 118]⟩, .agg (cellsV v lv kv)] w fun e w' => e = .returned (smallS ⟨(rowT (fun s => replL LEsc s) m [9] v).toArray⟩) ∧ Below w.heap.size w w' := by
  have hsl := h.slices
  obtain ⟨a1, n1, c1, a2, n2, c2, rfl, rfl⟩ := hsl
  refine Format_ok _ _ (by show Array.size _ ≤ _; rw [List.size_toArray]; exact hl) _ v.k v.f v.s a1 a2 n1 c1 n2 c2 rfl w (fun W hW => ?_)
  exact fm_tsv_ok _ _ v.k v.f v.s a1 a2 n1 c1 n2 c2 rfl W (fun W' hW' => row_good m v _ _ W' ((hN.below hW).below hW') (At.more (hW.trans (hW'.mono hW.size)).size _ _ _ _ (h.below (hW.trans (hW'.mono hW.size)))) h5 hne hE _ _ escapedF ⟨#[116, 115, 118]⟩ ⟨#[9]⟩ (by show _ ≤ _; exact Nat.le_trans hl (by omega)))
theorem F_sh (m : Nat) (v : V) (lv kv : Value) (w : World) (hN : NumW w) (h : At w w.heap.size (m + 1) v lv kv) (h5 : v.k = 5) (hne : nestAt v.l 0 < 0) (hE : ElemsOK m v) (hl : (wordsT m v).length ≤ 1099511627776) :
    Calls Tryz.prog 12 #[.string ⟨#[115, 104]⟩, .agg (cellsV v lv kv)] w fun e w' => e = .returned (smallS ⟨(wordsT m v).toArray⟩) ∧ Below w.heap.size w w' := by
  have hsl := h.slices
  obtain ⟨a1, n1, c1, a2, n2, c2, rfl, rfl⟩ := hsl
  refine Format_ok _ _ (by show Array.size _ ≤ _; rw [List.size_toArray]; exact hl) _ v.k v.f v.s a1 a2 n1 c1 n2 c2 rfl w (fun W hW => ?_)
  exact fm_sh_ok _ _ v.k v.f v.s a1 a2 n1 c1 n2 c2 rfl W (fun W' hW' => words_good m v _ _ W' ((hN.below hW).below hW') (At.more (hW.trans (hW'.mono hW.size)).size _ _ _ _ (h.below (hW.trans (hW'.mono hW.size)))) h5 hne hE (Nat.le_trans hl (by omega)))
theorem F_sh1 (m : Nat) (v : V) (d : Nat) (lv kv : Value) (w : World) (hN : NumW w) (h : At w w.heap.size m v lv kv) (h5 : v.k ≠ 5) (h6 : v.k ≠ 6) (hr : rightV d v = true) (ht : (textV m v).length ≤ 1099511627776) (hl : (wordsT m (soloV v)).length ≤ 1099511627776) :
    Calls Tryz.prog 12 #[.string ⟨#[115, 104]⟩, .agg (cellsV v lv kv)] w fun e w' => e = .returned (smallS ⟨(wordsT m (soloV v)).toArray⟩) ∧ Below w.heap.size w w' := by
  have hsl := h.slices
  obtain ⟨a1, n1, c1, a2, n2, c2, rfl, rfl⟩ := hsl
  refine Format_ok _ _ (by show Array.size _ ≤ _; rw [List.size_toArray]; exact hl) _ v.k v.f v.s a1 a2 n1 c1 n2 c2 rfl w (fun W hW => ?_)
  exact fm_sh_ok _ _ v.k v.f v.s a1 a2 n1 c1 n2 c2 rfl W (fun W' hW' => words_one m v d _ _ W' ((hN.below hW).below hW') (At.more (hW.trans (hW'.mono hW.size)).size _ _ _ _ (h.below (hW.trans (hW'.mono hW.size)))) h5 h6 hr ht (Nat.le_trans hl (by omega)))
end Go.Proofs.YtpobdmkidopnnaaGreatDoor

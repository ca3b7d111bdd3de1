/- A sheet: numbers, null, false and true. -/
import Derived.Test.YtmicpdibnkmekaaGreatDoorUOrd
namespace Go.Proofs.YtmicpdibnkmekaaGreatDoor
open Go Go.RowKit

theorem eText_len (neg : Bool) (l : List UInt8) (x : Int) : (eText neg l x).length ≤ l.length + 20 := by
  unfold eText expD
  simp only [List.length_append]
  have h1 : (if neg then ([45] : List UInt8) else []).length ≤ 1 := by split <;> simp
  have h2 : (l.take 1).length ≤ l.length := by rw [List.length_take]; omega
  have h3 : (if l.length ≤ 1 then ([] : List UInt8) else 46 :: l.drop 1).length ≤ 1 + (l.length - 1) ∧ (l.take 1).length + (if l.length ≤ 1 then ([] : List UInt8) else 46 :: l.drop 1).length ≤ l.length + 1 := by
    rw [List.length_take]
    split
    · simp; omega
    · simp; omega
  have h4 : (if x < 0 then ([45] : List UInt8) else [43]).length = 1 := by split <;> rfl
  have h5 : (if x.natAbs < 10 then [48, UInt8.ofNat (48 + x.natAbs)] else if x.natAbs < 100 then [UInt8.ofNat (48 + x.natAbs / 10), UInt8.ofNat (48 + x.natAbs % 10)] else [UInt8.ofNat (48 + x.natAbs / 100), UInt8.ofNat (48 + x.natAbs / 10 % 10), UInt8.ofNat (48 + x.natAbs % 10)]).length ≤ 3 := by
    split
    · simp
    · split <;> simp
  simp only [List.length_cons, List.length_nil]
  omega
theorem fText_len (neg : Bool) (l : List UInt8) (dp : Int) : (fText neg l dp).length ≤ l.length + dp.natAbs + 10 := by
  unfold fText
  rw [List.length_append]
  have h1 : (if neg then ([45] : List UInt8) else []).length ≤ 1 := by split <;> simp
  have h2 : (if (l.length : Int) ≤ dp then l ++ List.replicate (dp.toNat - l.length) 48 else if 0 < dp then l.take dp.toNat ++ 46 :: l.drop dp.toNat else 48 :: 46 :: (List.replicate (-dp).toNat 48 ++ l)).length ≤ l.length + dp.natAbs + 5 := by
    split
    · rw [List.length_append, List.length_replicate]; omega
    · split
      · rw [List.length_append, List.length_cons, List.length_take, List.length_drop]; omega
      · simp only [List.length_cons, List.length_append, List.length_replicate]; omega
  omega
theorem textB_len (b : Nat) (hb : b < 18446744073709551616) : (textB b).length ≤ 1000 := by
  unfold textB
  by_cases h1 : 9218868437227405312 < szB b
  · rw [if_pos h1]; simp
  · rw [if_neg h1]
    have hc := clamp_in b hb (by omega)
    obtain ⟨c, hcc⟩ : ∃ c, clampB b = c := ⟨_, rfl⟩
    rw [hcc] at hc ⊢
    have hkey : ¬ zeroB c → (digB c).length ≤ 20 ∧ -360 ≤ dpB c ∧ dpB c ≤ 400 := by
      intro hz
      have hx : exB c ≤ 2046 := by unfold exB; have := hc.2; unfold szB at this; omega
      have hm : mtB c < 4503599627370496 := Nat.mod_lt _ (by omega)
      obtain ⟨d1, d2, d3, d4⟩ := dec_all _ _ hz hx hm
      have s3 := nine_digits _ d2
      have s2 := strip_le (Lib.decDigits (decOf (exB c) (mtB c)).1)
      rw [Lib.decDigits_length] at s2
      refine ⟨?_, ?_, ?_⟩
      · unfold digB
        rw [List.length_take, Lib.decDigits_length]
        omega
      · unfold dpB; omega
      · unfold dpB; omega
    split
    · unfold fOf
      split
      · rw [List.length_append]; split <;> simp
      · rename_i hz
        obtain ⟨k1, k2, k3⟩ := hkey hz
        have := fText_len (negB c) (digB c) (dpB c)
        omega
    · unfold eOf
      split
      · rw [List.length_append]; split <;> simp
      · rename_i hz
        obtain ⟨k1, k2, k3⟩ := hkey hz
        have := eText_len (negB c) (digB c) (dpB c - 1)
        omega
theorem sca_len (m : Nat) (v : V) (hk : 0 ≤ v.k ∧ v.k ≤ 3) (hf : v.f < 18446744073709551616) : (textV (m + 1) v).length ≤ 1000 := by
  have e : textV (m + 1) v = if v.k = 0 then nullT else if v.k = 1 then falseT else if v.k = 2 then trueT else if v.k = 3 then textB v.f else if v.k = 4 then quoteR v.s
      else if v.k = 5 then 91 :: (rowB (fun i => textV m (v.l.getD i default)) v.l.length ++ [93])
      else 123 :: (rowB (fun i => quoteR (v.ks.getD i default) ++ 58 :: textV m (v.l.getD i default)) v.l.length ++ [125]) := rfl
  have ht := textB_len v.f hf
  rw [e]
  by_cases h0 : v.k = 0
  · rw [if_pos h0]; decide
  by_cases h1 : v.k = 1
  · rw [if_neg h0, if_pos h1]; decide
  by_cases h2 : v.k = 2
  · rw [if_neg h0, if_neg h1, if_pos h2]; decide
  · rw [if_neg h0, if_neg h1, if_neg h2, if_pos (by omega)]; exact ht
theorem col_size (k : Int) : (colT k).size ≤ 1000 := by
  unfold colT
  split
  · decide
  · split
    · decide
    · split <;> decide
set_option maxRecDepth 100000 in
set_option maxHeartbeats 8000000 in
theorem value_sca (w0 : World) (b : Nat) (hb : w0.heap.size ≤ b) (y : Sty) (step : ByteArray) (lev : Nat) (st : Option (List UInt8)) (m : Nat) (v : V) (d : Nat) (hr : rightV d v = true) (a1 a2 : Option Addr) (n1 k1 n2 k2 : Nat) (hA : At w0 w0.heap.size (m + 1) v (.slice a1 n1 k1) (.slice a2 n2 k2)) (k : Int) (hvk : v.k = k) (hk : 0 ≤ k ∧ k ≤ 3) (w : World) (hN : NumW w) (hbel : Below w0.heap.size w0 w) (hw : ShAt w b y step lev st) :
    Calls Tryz.prog 40 #[.pointer (some ⟨b, 0, none⟩), .agg #[.int .i64 k, .float .f64 v.f, .string v.s, .slice a1 n1 k1, .slice a2 n2 k2]] w fun e w' => e = .returned (.tuple #[]) ∧ ShAt w' b y step lev (putS st (tokT y.col (colT k).data.toList (textV (m + 1) v))) ∧ WStep b w w' := by
  have hlen := sca_len m v (by rw [hvk]; exact hk) hA.opened.1.2.2.1
  have hsf := run_store_float Tryz.prog
  have htx := fun W (hW : NumW W) (hB : Below w0.heap.size w0 W) => Text_any3 (m + 1) v d _ _ W hW (At.more hB.size _ _ _ _ (hA.below hB)) hr (by omega)
  have htok := fun W hW => token_S b y step lev st (colT k) ⟨(textV (m + 1) v).toArray⟩ (col_size k) (by rw [size_arr]; omega) W hW
  have hcol := fun W (_ : NumW W) => Colour_any k hk.1 (by omega) (.float .f64 v.f) (.string v.s) (.slice a1 n1 k1) (.slice a2 n2 k2) W
  have hvs := VS.start (k := k) (f := v.f) (s := v.s) (lv := .slice a1 n1 k1) (kv := .slice a2 n2 k2) w hw.lt hw
  have hlt := hw.lt
  unfold cellsV at htx
  rw [hvk] at htx
  have HTX := Lib.hid htx
  have HTOK := Lib.hid htok
  have HCOL := Lib.hid hcol
  have HVS := Lib.hid hvs
  have HN := Lib.hid hN
  have HW0 := Lib.hid hbel
  clear htx htok hcol hvs hN hw hlen hr hA hbel
  have HBL : Hid (Below w.heap.size w ((w.alloc (.cells #[.pointer (some ⟨b, 0, none⟩)] 67)).alloc (.cells #[.int .i64 k, .float .f64 v.f, .string v.s, .slice a1 n1 k1, .slice a2 n2 k2] 27))) := Lib.hid (((Below.refl w.heap.size w).alloc (Nat.le_refl _) _).alloc (by simp) _)
  have hkk : k = 0 ∨ k = 1 ∨ k = 2 ∨ k = 3 := by omega
  clear hk hvk
  rcases hkk with rfl | rfl | rfl | rfl
  · go_enter Tryz.func40, Tryz.ntmps40
    go_wp2_with fail
    generalize ((w.alloc (.cells #[.pointer (some ⟨b, 0, none⟩)] 67)).alloc (.cells #[.int .i64 0, .float .f64 v.f, .string v.s, .slice a1 n1 k1, .slice a2 n2 k2] 27)) = w1 at HVS HBL ⊢
    have HNW := Lib.hid ((HN.out.below HBL.out).below ((Below.refl _ w1).drew))
    obtain ⟨q0, ⟨q1, q2, q3, q4, q5⟩, q6⟩ := HVS.out.cells
    have hvd := HVS.out.below ((Below.refl _ w1).drew)
    clear HBL HN HVS
    have HVS := Lib.hid hvd
    clear hvd
    go_region_held3 (fun W => (W.cell? ⟨w.heap.size, 0, none⟩ = some (.pointer (some ⟨b, 0, none⟩))) ∧ (W.cell? ⟨w.heap.size + 1, 0, none⟩ = some (.int .i64 0) ∧ W.cell? ⟨w.heap.size + 1, 1, none⟩ = some (.float .f64 v.f) ∧ W.cell? ⟨w.heap.size + 1, 2, none⟩ = some (.string v.s) ∧ W.cell? ⟨w.heap.size + 1, 3, none⟩ = some (.slice a1 n1 k1) ∧ W.cell? ⟨w.heap.size + 1, 4, none⟩ = some (.slice a2 n2 k2)) ∧ (W.cell? ⟨b, 7, none⟩ = some (.bool y.asc))) (first | exact HVS.out.cells)
      (first
      | (go_at_call 38; have hc := HCOL.out _ HNW.out; (with_reducible refine hc.mono ?_); clear hc; rintro e wn ⟨rfl, hb2⟩; have hh := HVS.out.below hb2; have hn := HNW.out.below hb2; clear HVS HNW; have HVS := Lib.hid hh; have HNW := Lib.hid hn; clear hh hb2 hn)
      | (go_at_call 7; have hc := HTX.out _ HNW.out (HW0.out.trans (HVS.out.ws.1.mono hb)); (with_reducible refine hc.mono ?_); clear hc; rintro e wn ⟨rfl, hb2⟩; have hh := HVS.out.below hb2; have hn := HNW.out.below hb2; clear HVS HNW; have HVS := Lib.hid hh; have HNW := Lib.hid hn; clear hh hb2 hn)
      | (go_at_call 81; have hc := HTOK.out _ HVS.out.sh; (with_reducible refine hc.mono ?_); clear hc; rintro e wn ⟨rfl, hw2, hs2⟩; have hh := HVS.out.wrote hlt hs2 hw2; clear HVS; have HVS := Lib.hid hh; clear hh hw2 hs2))
    all_goals
      go_wp2_with fail
      go_end0
      exact ⟨rfl, HVS.out.sh, HVS.out.ws⟩
  · go_enter Tryz.func40, Tryz.ntmps40
    go_wp2_with fail
    generalize ((w.alloc (.cells #[.pointer (some ⟨b, 0, none⟩)] 67)).alloc (.cells #[.int .i64 1, .float .f64 v.f, .string v.s, .slice a1 n1 k1, .slice a2 n2 k2] 27)) = w1 at HVS HBL ⊢
    have HNW := Lib.hid ((HN.out.below HBL.out).below ((Below.refl _ w1).drew))
    obtain ⟨q0, ⟨q1, q2, q3, q4, q5⟩, q6⟩ := HVS.out.cells
    have hvd := HVS.out.below ((Below.refl _ w1).drew)
    clear HBL HN HVS
    have HVS := Lib.hid hvd
    clear hvd
    go_region_held3 (fun W => (W.cell? ⟨w.heap.size, 0, none⟩ = some (.pointer (some ⟨b, 0, none⟩))) ∧ (W.cell? ⟨w.heap.size + 1, 0, none⟩ = some (.int .i64 1) ∧ W.cell? ⟨w.heap.size + 1, 1, none⟩ = some (.float .f64 v.f) ∧ W.cell? ⟨w.heap.size + 1, 2, none⟩ = some (.string v.s) ∧ W.cell? ⟨w.heap.size + 1, 3, none⟩ = some (.slice a1 n1 k1) ∧ W.cell? ⟨w.heap.size + 1, 4, none⟩ = some (.slice a2 n2 k2)) ∧ (W.cell? ⟨b, 7, none⟩ = some (.bool y.asc))) (first | exact HVS.out.cells)
      (first
      | (go_at_call 38; have hc := HCOL.out _ HNW.out; (with_reducible refine hc.mono ?_); clear hc; rintro e wn ⟨rfl, hb2⟩; have hh := HVS.out.below hb2; have hn := HNW.out.below hb2; clear HVS HNW; have HVS := Lib.hid hh; have HNW := Lib.hid hn; clear hh hb2 hn)
      | (go_at_call 7; have hc := HTX.out _ HNW.out (HW0.out.trans (HVS.out.ws.1.mono hb)); (with_reducible refine hc.mono ?_); clear hc; rintro e wn ⟨rfl, hb2⟩; have hh := HVS.out.below hb2; have hn := HNW.out.below hb2; clear HVS HNW; have HVS := Lib.hid hh; have HNW := Lib.hid hn; clear hh hb2 hn)
      | (go_at_call 81; have hc := HTOK.out _ HVS.out.sh; (with_reducible refine hc.mono ?_); clear hc; rintro e wn ⟨rfl, hw2, hs2⟩; have hh := HVS.out.wrote hlt hs2 hw2; clear HVS; have HVS := Lib.hid hh; clear hh hw2 hs2))
    all_goals
      go_wp2_with fail
      go_end0
      exact ⟨rfl, HVS.out.sh, HVS.out.ws⟩
  · go_enter Tryz.func40, Tryz.ntmps40
    go_wp2_with fail
    generalize ((w.alloc (.cells #[.pointer (some ⟨b, 0, none⟩)] 67)).alloc (.cells #[.int .i64 2, .float .f64 v.f, .string v.s, .slice a1 n1 k1, .slice a2 n2 k2] 27)) = w1 at HVS HBL ⊢
    have HNW := Lib.hid ((HN.out.below HBL.out).below ((Below.refl _ w1).drew))
    obtain ⟨q0, ⟨q1, q2, q3, q4, q5⟩, q6⟩ := HVS.out.cells
    have hvd := HVS.out.below ((Below.refl _ w1).drew)
    clear HBL HN HVS
    have HVS := Lib.hid hvd
    clear hvd
    go_region_held3 (fun W => (W.cell? ⟨w.heap.size, 0, none⟩ = some (.pointer (some ⟨b, 0, none⟩))) ∧ (W.cell? ⟨w.heap.size + 1, 0, none⟩ = some (.int .i64 2) ∧ W.cell? ⟨w.heap.size + 1, 1, none⟩ = some (.float .f64 v.f) ∧ W.cell? ⟨w.heap.size + 1, 2, none⟩ = some (.string v.s) ∧ W.cell? ⟨w.heap.size + 1, 3, none⟩ = some (.slice a1 n1 k1) ∧ W.cell? ⟨w.heap.size + 1, 4, none⟩ = some (.slice a2 n2 k2)) ∧ (W.cell? ⟨b, 7, none⟩ = some (.bool y.asc))) (first | exact HVS.out.cells)
      (first
      | (go_at_call 38; have hc := HCOL.out _ HNW.out; (with_reducible refine hc.mono ?_); clear hc; rintro e wn ⟨rfl, hb2⟩; have hh := HVS.out.below hb2; have hn := HNW.out.below hb2; clear HVS HNW; have HVS := Lib.hid hh; have HNW := Lib.hid hn; clear hh hb2 hn)
      | (go_at_call 7; have hc := HTX.out _ HNW.out (HW0.out.trans (HVS.out.ws.1.mono hb)); (with_reducible refine hc.mono ?_); clear hc; rintro e wn ⟨rfl, hb2⟩; have hh := HVS.out.below hb2; have hn := HNW.out.below hb2; clear HVS HNW; have HVS := Lib.hid hh; have HNW := Lib.hid hn; clear hh hb2 hn)
      | (go_at_call 81; have hc := HTOK.out _ HVS.out.sh; (with_reducible refine hc.mono ?_); clear hc; rintro e wn ⟨rfl, hw2, hs2⟩; have hh := HVS.out.wrote hlt hs2 hw2; clear HVS; have HVS := Lib.hid hh; clear hh hw2 hs2))
    all_goals
      go_wp2_with fail
      go_end0
      exact ⟨rfl, HVS.out.sh, HVS.out.ws⟩
  · go_enter Tryz.func40, Tryz.ntmps40
    go_wp2_with fail
    generalize ((w.alloc (.cells #[.pointer (some ⟨b, 0, none⟩)] 67)).alloc (.cells #[.int .i64 3, .float .f64 v.f, .string v.s, .slice a1 n1 k1, .slice a2 n2 k2] 27)) = w1 at HVS HBL ⊢
    have HNW := Lib.hid ((HN.out.below HBL.out).below ((Below.refl _ w1).drew))
    obtain ⟨q0, ⟨q1, q2, q3, q4, q5⟩, q6⟩ := HVS.out.cells
    have hvd := HVS.out.below ((Below.refl _ w1).drew)
    clear HBL HN HVS
    have HVS := Lib.hid hvd
    clear hvd
    go_region_held3 (fun W => (W.cell? ⟨w.heap.size, 0, none⟩ = some (.pointer (some ⟨b, 0, none⟩))) ∧ (W.cell? ⟨w.heap.size + 1, 0, none⟩ = some (.int .i64 3) ∧ W.cell? ⟨w.heap.size + 1, 1, none⟩ = some (.float .f64 v.f) ∧ W.cell? ⟨w.heap.size + 1, 2, none⟩ = some (.string v.s) ∧ W.cell? ⟨w.heap.size + 1, 3, none⟩ = some (.slice a1 n1 k1) ∧ W.cell? ⟨w.heap.size + 1, 4, none⟩ = some (.slice a2 n2 k2)) ∧ (W.cell? ⟨b, 7, none⟩ = some (.bool y.asc))) (first | exact HVS.out.cells)
      (first
      | (go_at_call 38; have hc := HCOL.out _ HNW.out; (with_reducible refine hc.mono ?_); clear hc; rintro e wn ⟨rfl, hb2⟩; have hh := HVS.out.below hb2; have hn := HNW.out.below hb2; clear HVS HNW; have HVS := Lib.hid hh; have HNW := Lib.hid hn; clear hh hb2 hn)
      | (go_at_call 7; have hc := HTX.out _ HNW.out (HW0.out.trans (HVS.out.ws.1.mono hb)); (with_reducible refine hc.mono ?_); clear hc; rintro e wn ⟨rfl, hb2⟩; have hh := HVS.out.below hb2; have hn := HNW.out.below hb2; clear HVS HNW; have HVS := Lib.hid hh; have HNW := Lib.hid hn; clear hh hb2 hn)
      | (go_at_call 81; have hc := HTOK.out _ HVS.out.sh; (with_reducible refine hc.mono ?_); clear hc; rintro e wn ⟨rfl, hw2, hs2⟩; have hh := HVS.out.wrote hlt hs2 hw2; clear HVS; have HVS := Lib.hid hh; clear hh hw2 hs2))
    all_goals
      go_wp2_with fail
      go_end0
      exact ⟨rfl, HVS.out.sh, HVS.out.ws⟩
end Go.Proofs.YtmicpdibnkmekaaGreatDoor
namespace Go.Proofs.YtmicpdibnkmekaaGreatDoor
open Go Go.RowKit

theorem ok_good {ks : List ByteArray} (h : okK (sortK ks) = true) : ∀ key ∈ ks, allGood key 0 = true := by
  intro key hk
  have hm : key ∈ sortK ks := (sortK_perm ks).mem_iff.2 hk
  obtain ⟨i, hi, rfl⟩ := List.getElem_of_mem hm
  unfold okK at h
  rw [List.all_eq_true] at h
  have := h i (by simpa using hi)
  unfold okAt at this
  simp [hi] at this
  first | exact this.1 | exact this.2 | exact this
theorem key_small {ks : List ByteArray} (h : keysLen ks ≤ 1048576) : ∀ key ∈ ks, key.size ≤ 1048576 := fun key hk => Nat.le_trans (size_keysLen ks key hk) h
theorem printV_arr (y : Sty) (step : ByteArray) (m : Nat) (v : V) (lev : Nat) (h : v.k = 5) : printV y step (m + 1) v lev = rowT y.col step lev [91] [93] v.l.length (fun i => printV y step m (v.l.getD i default) (lev + 1)) := by
  show (if v.k = 5 then _ else _) = _
  rw [if_pos h]
theorem printV_obj (y : Sty) (step : ByteArray) (m : Nat) (v : V) (lev : Nat) (h : v.k = 6) : printV y step (m + 1) v lev = rowT y.col step lev [123] [125] v.l.length (fun i => pairT y step (v.ks.getD (ordP y.srt v.ks i) default) (printV y step m (v.l.getD (ordP y.srt v.ks i) default) (lev + 1))) := by
  show (if v.k = 5 then _ else if v.k = 6 then _ else _) = _
  rw [if_neg (by omega), if_pos h]
theorem printV_str (y : Sty) (step : ByteArray) (m : Nat) (v : V) (lev : Nat) (h : v.k = 4) : printV y step (m + 1) v lev = tokT y.col (colT 4).data.toList (escT y.asc v.s) := by
  show (if v.k = 5 then _ else if v.k = 6 then _ else if v.k = 4 then _ else _) = _
  rw [if_neg (by omega), if_neg (by omega), if_pos h]
theorem printV_sca (y : Sty) (step : ByteArray) (m : Nat) (v : V) (lev : Nat) (h : v.k ≤ 3) : printV y step (m + 1) v lev = tokT y.col (colT v.k).data.toList (textV (m + 1) v) := by
  show (if v.k = 5 then _ else if v.k = 6 then _ else if v.k = 4 then _ else _) = _
  rw [if_neg (by omega), if_neg (by omega), if_neg (by omega)]
/-- What the order of keys promises. -/
def OrderC (y : Sty) : Prop := ∀ (b : Nat) (step : ByteArray) (lev : Int) (st : Option (List UInt8)) (ks : List ByteArray) (A : Option Addr) (c : Nat), ks.length ≤ 1048576 → okK (sortK ks) = true → ∀ (w : World), KeysAt w w.heap.size (.slice A ks.length c) ks → ShAt w b y step lev st →
    Calls Tryz.prog 78 #[.pointer (some ⟨b, 0, none⟩), .slice A ks.length c] w fun e w' => ∃ g, e = .returned (.slice (some ⟨g, 0, none⟩) ks.length ks.length) ∧ w.heap.size ≤ g ∧ Prm w' g ks.length (ordP y.srt ks) ∧ Below w.heap.size w w'
theorem ord_lt (srt : Bool) (ks : List ByteArray) : ∀ j, j < ks.length → ordP srt ks j < ks.length := by
  intro j hj
  unfold ordP
  split
  · rw [List.findIdx_lt_length]
    have hj2 : j < (sortK ks).length := by rw [sortK_len]; exact hj
    refine ⟨(sortK ks)[j], (sortK_perm ks).mem_iff.1 (List.getElem_mem hj2), ?_⟩
    simp [List.getD, hj2]
  · exact hj
theorem order_F (y : Sty) (hsrt : y.srt = false) : OrderC y := by
  intro b step lev st ks A c hks hok w hk hw
  refine (order_S b y hsrt step lev st A ks.length c hks w hw).mono ?_
  rintro e w' ⟨g, rfl, hg, hp, hb⟩
  refine ⟨g, rfl, hg, ?_, hb⟩
  have h := Prm.of_pls hp
  have e1 : ordP y.srt ks = fun j => j := by funext j; unfold ordP; rw [hsrt]; rfl
  rw [e1]
  exact h
set_option maxRecDepth 100000 in
set_option maxHeartbeats 8000000 in
theorem value_P (w0 : World) (hN : NumW w0) (b : Nat) (hb : w0.heap.size ≤ b) (y : Sty) (hO : OrderC y) (step : ByteArray) (hstep : step.size ≤ 7) (m : Nat) : ValueP w0 b y step m := by
  induction m with
  | zero => intro v lv kv d lev st w _ h; exact h.elim
  | succ m ih =>
    intro v lv kv d lev st w hr h hbel hw hlev
    obtain ⟨hsm, ha, hcp, a, c, B, o, rfl, hab, hi⟩ := h.opened
    have hhead : headOK v = true := by
      cases d with
      | zero => cases hr
      | succ d => have hr : (headOK v && v.l.all (fun x => rightV d x)) = true := hr
                  rw [Bool.and_eq_true] at hr; exact hr.1
    rw [headOK_iff] at hhead
    obtain ⟨⟨hk0, hk6⟩, _, _, _, hkl, _, hvs, hok⟩ := hhead
    have hkg : ∀ key ∈ v.ks, key.size ≤ 1048576 ∧ allGood key 0 = true := fun key hk => ⟨key_small hsm.2.2.2.2.2.2 key hk, ok_good hok key hk⟩
    by_cases h3 : v.k ≤ 3
    · obtain ⟨a2, n2, k2, hkv⟩ : ∃ a2 n2 k2, kv = .slice a2 n2 k2 := by obtain ⟨_, _, _, a2, n2, k2, _, e⟩ := h.slices; exact ⟨a2, n2, k2, e⟩
      subst hkv
      rw [printV_sca y step m v lev h3]
      exact value_sca w0 b hb y step lev st m v d hr _ _ _ _ _ _ h v.k rfl ⟨hk0, h3⟩ w (hN.below hbel) hbel hw
    by_cases h4 : v.k = 4
    · obtain ⟨a2, n2, k2, hkv⟩ : ∃ a2 n2 k2, kv = .slice a2 n2 k2 := by obtain ⟨_, _, _, a2, n2, k2, _, e⟩ := h.slices; exact ⟨a2, n2, k2, e⟩
      subst hkv
      rw [printV_str y step m v lev h4]
      have hcs : cellsV v (.slice a v.l.length c) (.slice a2 n2 k2) = #[.int .i64 4, .float .f64 v.f, .string v.s, .slice a v.l.length c, .slice a2 n2 k2] := by unfold cellsV; rw [h4]
      rw [hcs]
      exact value_str b y step lev st v.f v.s hsm.2.2.2.1 hvs a a2 v.l.length c n2 k2 w (hN.below hbel) hw
    have hp1 := fun (k : Int) P hP i st W => part1_S w0 b P hb hP y step m ih v d hr k a c B o kv hsm.2.2.2.2.1 hab hi (lev + 1) (by omega) i st W
    have hp2 := fun (h6 : v.ks.length = v.l.length) (hpo : ∀ j, j < v.l.length → ordP y.srt v.ks j < v.l.length) (k : Int) P hP Q hQ g hg i st W => part2_S w0 hN b P Q g hb hP hQ hg y step m ih v d hr k a c B o kv hsm.2.2.2.2.1 hab hi ha h6 hkg (lev + 1) (by omega) (ordP y.srt v.ks) hpo i st W
    obtain ⟨A, ad, ck, rfl, hA, hac⟩ := ha.1.dest
    have hsf := run_store_float Tryz.prog
    rw [List.length_map] at hp1 hp2 ⊢
    obtain ⟨_, _, hf64, hss, hls, hks, _⟩ := hsm
    have HP1 := Lib.hid hp1
    have HP2 := Lib.hid hp2
    have HW := Lib.hid hw
    have HBEL := Lib.hid hbel
    have hlt := hw.lt
    have HKL := Lib.hid hkl
    have HOK := Lib.hid hok
    have HKA := Lib.hid (show KeysAt w0 w0.heap.size (.slice A v.ks.length ck) v.ks by have h1 := ha; rw [List.length_map] at h1; exact h1)
    clear ha hac hA hcp hi hab h ih hr hp1 hp2 hbel hw hN hkl hkg hvs hok
    by_cases h5 : v.k = 5
    · rw [printV_arr y step m v lev h5]
      unfold cellsV
      rw [h5]
      have hro := fun W hE hW => row_S1 b y step lev hstep (by omega) ⟨#[91]⟩ ⟨#[93]⟩ (by decide) (by decide) v.l.length hls (fun i => printV y step m (v.l.getD i default) (lev + 1)) (.pointer (some ⟨w.heap.size, 0, none⟩)) (.pointer (some ⟨w.heap.size + 1, 0, none⟩)) (PEnv w0 b w.heap.size #[.int .i64 5, .float .f64 v.f, .string v.s, .slice a v.l.length c, .slice A v.ks.length ck])
        (PEnv.step hlt hb) (fun i st W h1 h2 h3 => HP1.out 5 w.heap.size hlt i st W h1 h2 h3) st W hE hW
      have hvs := VS.start (k := 5) (f := v.f) (s := v.s) (lv := .slice a v.l.length c) (kv := .slice A v.ks.length ck) w hlt HW.out
      have HRO := Lib.hid hro
      have HVS := Lib.hid hvs
      clear hro hvs h3 h4
      go_enter Tryz.func40, Tryz.ntmps40
      go_wp2_with fail
      refine (HRO.out _ ⟨HVS.out.p2, HVS.out.p3, HBEL.out.trans (HVS.out.ws.1.mono hb)⟩ HVS.out.sh).mono ?_
      rintro e w2 ⟨rfl, hw2, hs2⟩
      have HW2 := Lib.hid hw2
      have HS2 := Lib.hid (HVS.out.ws.trans hs2)
      clear hw2 hs2
      go_wp2_with fail
      go_end0
      exact ⟨rfl, HW2.out, HS2.out⟩
    · have h6 : v.k = 6 := by omega
      rw [printV_obj y step m v lev h6]
      unfold cellsV
      rw [h6]
      have hkk := HKL.out.resolve_left (by rw [h6]; simp)
      have hvs := VS.start (k := 6) (f := v.f) (s := v.s) (lv := .slice a v.l.length c) (kv := .slice A v.ks.length ck) w hlt HW.out
      have hord := fun W hB hW => hO b step lev st v.ks A ck hks HOK.out W ((KeysAt.below HKA.out hB).more hB.size) hW
      have hpo : ∀ j, j < v.l.length → ordP y.srt v.ks j < v.l.length := by rw [← hkk]; exact ord_lt y.srt v.ks
      have HPO := Lib.hid hpo
      have HVS := Lib.hid hvs
      have HORD := Lib.hid hord
      have HKK := Lib.hid hkk
      clear hvs hord h3 h4 h5 hkk hpo
      go_enter Tryz.func40, Tryz.ntmps40
      go_wp2_with fail
      have HBL : Hid (Below w.heap.size w ((w.alloc (.cells #[.pointer (some ⟨b, 0, none⟩)] 67)).alloc (.cells #[.int .i64 6, .float .f64 v.f, .string v.s, .slice a v.l.length c, .slice A v.ks.length ck] 27))) := Lib.hid (((Below.refl w.heap.size w).alloc (Nat.le_refl _) _).alloc (by simp) _)
      generalize ((w.alloc (.cells #[.pointer (some ⟨b, 0, none⟩)] 67)).alloc (.cells #[.int .i64 6, .float .f64 v.f, .string v.s, .slice a v.l.length c, .slice A v.ks.length ck] 27)) = w1 at HVS HBL ⊢
      refine (HORD.out w1 (HBEL.out.trans (HVS.out.ws.1.mono hb)) HVS.out.sh).mono ?_
      rintro e w2 ⟨g, rfl, hg, hpl, hb2⟩
      have HV2 := Lib.hid (HVS.out.below hb2)
      have hb3 : Below w2.heap.size w2 (w2.alloc (.cells #[.slice (some ⟨g, 0, none⟩) v.ks.length v.ks.length] 107)) := (Below.refl w2.heap.size w2).alloc (Nat.le_refl _) _
      have HV3 := Lib.hid (HV2.out.below hb3)
      have hgl := hpl.lt
      have hw1s : w.heap.size ≤ w1.heap.size := HBL.out.size
      have hb2s := hb2.size
      have hpl3 : Prm (w2.alloc (.cells #[.slice (some ⟨g, 0, none⟩) v.ks.length v.ks.length] 107)) g v.ks.length (ordP y.srt v.ks) := hpl.keep (hb3.block g hgl)
      have HPL := Lib.hid hpl3
      have HQ := Lib.hid (heap_alloc_new w2 (.cells #[.slice (some ⟨g, 0, none⟩) v.ks.length v.ks.length] 107))
      have hgb : b < g := by omega
      have hQb : b < w2.heap.size := by omega
      have hro := fun W hE hW => row_S2 b y step lev hstep (by omega) ⟨#[123]⟩ ⟨#[125]⟩ (by decide) (by decide) v.l.length hls (fun i => pairT y step (v.ks.getD (ordP y.srt v.ks i) default) (printV y step m (v.l.getD (ordP y.srt v.ks i) default) (lev + 1))) (.pointer (some ⟨w.heap.size, 0, none⟩)) (.pointer (some ⟨w.heap.size + 1, 0, none⟩)) (.pointer (some ⟨w2.heap.size, 0, none⟩)) (PEnv2 w0 b w.heap.size w2.heap.size g v.l.length (ordP y.srt v.ks) #[.int .i64 6, .float .f64 v.f, .string v.s, .slice a v.l.length c, .slice A v.ks.length ck])
        (PEnv2.step hlt hQb hgb hb) (fun i st W h1 h2 h3 => HP2.out HKK.out HPO.out 6 w.heap.size hlt w2.heap.size hQb g hgb i st W h1 h2 h3) st W hE hW
      have HRO := Lib.hid hro
      obtain ⟨q0, ⟨q1, q2, q3, q4, q5⟩, q6⟩ := HV3.out.cells
      clear HVS hpl hpl3 hro hb3 HV2
      go_wp2_with fail
      refine (HRO.out _ ⟨⟨HV3.out.p2, HV3.out.p3, HBEL.out.trans (HV3.out.ws.1.mono hb)⟩, by rw [← HKK.out]; exact HQ.out, by rw [← HKK.out]; exact HPL.out⟩ HV3.out.sh).mono ?_
      rintro e w4 ⟨rfl, hw4, hs4⟩
      have HW4 := Lib.hid hw4
      have HS4 := Lib.hid (HV3.out.ws.trans hs4)
      clear hw4 hs4
      go_wp2_with fail
      go_end0
      exact ⟨rfl, HW4.out, HS4.out⟩
end Go.Proofs.YtmicpdibnkmekaaGreatDoor

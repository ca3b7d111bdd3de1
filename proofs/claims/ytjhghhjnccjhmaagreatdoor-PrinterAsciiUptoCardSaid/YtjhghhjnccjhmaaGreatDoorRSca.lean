/- A sheet: numbers, null, false and true. -/
import Derived.Test.YtjhghhjnccjhmaaGreatDoorRVal3
namespace Go.Proofs.YtjhghhjnccjhmaaGreatDoor
open Go Go.RowKit

theorem eText_len (neg : Bool) (l : List UInt8) (x : Int) : (eText neg l x).length ≤ l.length + 20 := by
  unfold eText expD
  simp only [List.length_append]
  have h1 : (if neg then ([45] : List UInt8) else []).length ≤ 1 := by split <;> simp
  have h2 : (l.take 1).length ≤ l.length := by rw [List.length_take]; omega
  have h3 : (if l.length ≤ 1 then ([] : List UInt8) else 46 :: l.drop 1).length ≤ 1 + (l.length - 1) ∧ (l.take 1).length + (if l.length ≤ 1 then ([] : List UInt8) else 46 :: l.drop 1).length ≤ l.length + 1 := by
    rw [List.length_take]
    split
    · simp; omega
    · simp; omega
  have h4 : (if x < 0 then ([45] : List UInt8) else [43]).length = 1 := by split <;> rfl
  have h5 : (if x.natAbs < 10 then [48, UInt8.ofNat (48 + x.natAbs)] else if x.natAbs < 100 then [UInt8.ofNat (48 + x.natAbs / 10), UInt8.ofNat (48 + x.natAbs % 10)] else [UInt8.ofNat (48 + x.natAbs / 100), UInt8.ofNat (48 + x.natAbs / 10 % 10), UInt8.ofNat (48 + x.natAbs % 10)]).length ≤ 3 := by
    split
    · simp
    · split <;> simp
  simp only [List.length_cons, List.length_nil]
  omega
theorem fText_len (neg : Bool) (l : List UInt8) (dp : Int) : (fText neg l dp).length ≤ l.length + dp.natAbs + 10 := by
  unfold fText
  rw [List.length_append]
  have h1 : (if neg then ([45] : List UInt8) else []).length ≤ 1 := by split <;> simp
  have h2 : (if (l.length : Int) ≤ dp then l ++ List.replicate (dp.toNat - l.length) 48 else if 0 < dp then l.take dp.toNat ++ 46 :: l.drop dp.toNat else 48 :: 46 :: (List.replicate (-dp).toNat 48 ++ l)).length ≤ l.length + dp.natAbs + 5 := by
    split
    · rw [List.length_append, List.length_replicate]; omega
    · split
      · rw [List.length_append, List.length_cons, List.length_take, List.length_drop]; omega
      · simp only [List.length_cons, List.length_append, List.length_replicate]; omega
  omega
theorem textB_len (b : Nat) (hb : b < 18446744073709551616) : (textB b).length ≤ 1000 := by
  unfold textB
  by_cases h1 : 9218868437227405312 < szB b
  · rw [if_pos h1]; simp
  · rw [if_neg h1]
    have hc := clamp_in b hb (by omega)
    obtain ⟨c, hcc⟩ : ∃ c, clampB b = c := ⟨_, rfl⟩
    rw [hcc] at hc ⊢
    have hkey : ¬ zeroB c → (digB c).length ≤ 20 ∧ -360 ≤ dpB c ∧ dpB c ≤ 400 := by
      intro hz
      have hx : exB c ≤ 2046 := by unfold exB; have := hc.2; unfold szB at this; omega
      have hm : mtB c < 4503599627370496 := Nat.mod_lt _ (by omega)
      obtain ⟨d1, d2, d3, d4⟩ := dec_all _ _ hz hx hm
      have s3 := nine_digits _ d2
      have s2 := strip_le (Lib.decDigits (decOf (exB c) (mtB c)).1)
      rw [Lib.decDigits_length] at s2
      refine ⟨?_, ?_, ?_⟩
      · unfold digB
        rw [List.length_take, Lib.decDigits_length]
        omega
      · unfold dpB; omega
      · unfold dpB; omega
    split
    · unfold fOf
      split
      · rw [List.length_append]; split <;> simp
      · rename_i hz
        obtain ⟨k1, k2, k3⟩ := hkey hz
        have := fText_len (negB c) (digB c) (dpB c)
        omega
    · unfold eOf
      split
      · rw [List.length_append]; split <;> simp
      · rename_i hz
        obtain ⟨k1, k2, k3⟩ := hkey hz
        have := eText_len (negB c) (digB c) (dpB c - 1)
        omega
theorem sca_len (m : Nat) (v : V) (hk : 0 ≤ v.k ∧ v.k ≤ 3) (hf : v.f < 18446744073709551616) : (textV (m + 1) v).length ≤ 1000 := by
  have e : textV (m + 1) v = if v.k = 0 then nullT else if v.k = 1 then falseT else if v.k = 2 then trueT else if v.k = 3 then textB v.f else if v.k = 4 then quoteR v.s
      else if v.k = 5 then 91 :: (rowB (fun i => textV m (v.l.getD i default)) v.l.length ++ [93])
      else 123 :: (rowB (fun i => quoteR (v.ks.getD i default) ++ 58 :: textV m (v.l.getD i default)) v.l.length ++ [125]) := rfl
  have ht := textB_len v.f hf
  rw [e]
  by_cases h0 : v.k = 0
  · rw [if_pos h0]; decide
  by_cases h1 : v.k = 1
  · rw [if_neg h0, if_pos h1]; decide
  by_cases h2 : v.k = 2
  · rw [if_neg h0, if_neg h1, if_pos h2]; decide
  · rw [if_neg h0, if_neg h1, if_neg h2, if_pos (by omega)]; exact ht
theorem col_size (k : Int) : (colT k).size ≤ 1000 := by
  unfold colT
  split
  · decide
  · split
    · decide
    · split <;> decide
set_option maxRecDepth 100000 in
set_option maxHeartbeats 8000000 in
theorem value_sca (w0 : World) (b : Nat) (hb : w0.heap.size ≤ b) (y : Sty) (step : ByteArray) (lev : Nat) (st : Option (List UInt8)) (m : Nat) (v : V) (d : Nat) (hr : rightV d v = true) (a1 a2 : Option Addr) (n1 k1 n2 k2 : Nat) (hA : At w0 w0.heap.size (m + 1) v (.slice a1 n1 k1) (.slice a2 n2 k2)) (k : Int) (hvk : v.k = k) (hk : 0 ≤ k ∧ k ≤ 3) (w : World) (hN : NumW w) (hbel : Below w0.heap.size w0 w) (hw : ShAt w b y step lev st) :
    Calls Tryz.prog 25 #[.pointer (some ⟨b, 0, none⟩), .agg #[.int .i64 k, .float .f64 v.f, .string v.s, .slice a1 n1 k1, .slice a2 n2 k2]] w fun e w' => e = .returned (.tuple #[]) ∧ ShAt w' b y step lev (putS st (tokT y.col (colT k).data.toList (textV (m + 1) v))) ∧ WStep b w w' := by
  have hlen := sca_len m v (by rw [hvk]; exact hk) hA.opened.1.2.2.1
  have hsf := run_store_float Tryz.prog
  have htx := fun W (hW : NumW W) (hB : Below w0.heap.size w0 W) => Text_any3 (m + 1) v d _ _ W hW (At.more hB.size _ _ _ _ (hA.below hB)) hr (by omega)
  have htok := fun W hW => token_S b y step lev st (colT k) ⟨(textV (m + 1) v).toArray⟩ (col_size k) (by rw [size_arr]; omega) W hW
  have hcol := fun W (_ : NumW W) => Colour_any k hk.1 (by omega) (.float .f64 v.f) (.string v.s) (.slice a1 n1 k1) (.slice a2 n2 k2) W
  have hvs := VS.start (k := k) (f := v.f) (s := v.s) (lv := .slice a1 n1 k1) (kv := .slice a2 n2 k2) w hw.lt hw
  have hlt := hw.lt
  unfold cellsV at htx
  rw [hvk] at htx
  have HTX := Lib.hid htx
  have HTOK := Lib.hid htok
  have HCOL := Lib.hid hcol
  have HVS := Lib.hid hvs
  have HN := Lib.hid hN
  have HW0 := Lib.hid hbel
  clear htx htok hcol hvs hN hw hlen hr hA hbel
  have HBL : Hid (Below w.heap.size w ((w.alloc (.cells #[.pointer (some ⟨b, 0, none⟩)] 51)).alloc (.cells #[.int .i64 k, .float .f64 v.f, .string v.s, .slice a1 n1 k1, .slice a2 n2 k2] 27))) := Lib.hid (((Below.refl w.heap.size w).alloc (Nat.le_refl _) _).alloc (by simp) _)
  have hkk : k = 0 ∨ k = 1 ∨ k = 2 ∨ k = 3 := by omega
  clear hk hvk
  rcases hkk with rfl | rfl | rfl | rfl
  · go_enter Tryz.func25, Tryz.ntmps25
    go_wp2_with fail
    generalize ((w.alloc (.cells #[.pointer (some ⟨b, 0, none⟩)] 51)).alloc (.cells #[.int .i64 0, .float .f64 v.f, .string v.s, .slice a1 n1 k1, .slice a2 n2 k2] 27)) = w1 at HVS HBL ⊢
    have HNW := Lib.hid ((HN.out.below HBL.out).below ((Below.refl _ w1).drew))
    obtain ⟨q0, ⟨q1, q2, q3, q4, q5⟩, q6⟩ := HVS.out.cells
    have hvd := HVS.out.below ((Below.refl _ w1).drew)
    clear HBL HN HVS
    have HVS := Lib.hid hvd
    clear hvd
    go_region_held3 (fun W => (W.cell? ⟨w.heap.size, 0, none⟩ = some (.pointer (some ⟨b, 0, none⟩))) ∧ (W.cell? ⟨w.heap.size + 1, 0, none⟩ = some (.int .i64 0) ∧ W.cell? ⟨w.heap.size + 1, 1, none⟩ = some (.float .f64 v.f) ∧ W.cell? ⟨w.heap.size + 1, 2, none⟩ = some (.string v.s) ∧ W.cell? ⟨w.heap.size + 1, 3, none⟩ = some (.slice a1 n1 k1) ∧ W.cell? ⟨w.heap.size + 1, 4, none⟩ = some (.slice a2 n2 k2)) ∧ (W.cell? ⟨b, 7, none⟩ = some (.bool y.asc))) (first | exact HVS.out.cells)
      (first
      | (go_at_call 16; have hc := HCOL.out _ HNW.out; (with_reducible refine hc.mono ?_); clear hc; rintro e wn ⟨rfl, hb2⟩; have hh := HVS.out.below hb2; have hn := HNW.out.below hb2; clear HVS HNW; have HVS := Lib.hid hh; have HNW := Lib.hid hn; clear hh hb2 hn)
      | (go_at_call 32; have hc := HTX.out _ HNW.out (HW0.out.trans (HVS.out.ws.1.mono hb)); (with_reducible refine hc.mono ?_); clear hc; rintro e wn ⟨rfl, hb2⟩; have hh := HVS.out.below hb2; have hn := HNW.out.below hb2; clear HVS HNW; have HVS := Lib.hid hh; have HNW := Lib.hid hn; clear hh hb2 hn)
      | (go_at_call 48; have hc := HTOK.out _ HVS.out.sh; (with_reducible refine hc.mono ?_); clear hc; rintro e wn ⟨rfl, hw2, hs2⟩; have hh := HVS.out.wrote hlt hs2 hw2; clear HVS; have HVS := Lib.hid hh; clear hh hw2 hs2))
    all_goals
      go_wp2_with fail
      go_end0
      exact ⟨rfl, HVS.out.sh, HVS.out.ws⟩
  · go_enter Tryz.func25, Tryz.ntmps25
    go_wp2_with fail
    generalize ((w.alloc (.cells #[.pointer (some ⟨b, 0, none⟩)] 51)).alloc (.cells #[.int .i64 1, .float .f64 v.f, .string v.s, .slice a1 n1 k1, .slice a2 n2 k2] 27)) = w1 at HVS HBL ⊢
    have HNW := Lib.hid ((HN.out.below HBL.out).below ((Below.refl _ w1).drew))
    obtain ⟨q0, ⟨q1, q2, q3, q4, q5⟩, q6⟩ := HVS.out.cells
    have hvd := HVS.out.below ((Below.refl _ w1).drew)
    clear HBL HN HVS
    have HVS := Lib.hid hvd
    clear hvd
    go_region_held3 (fun W => (W.cell? ⟨w.heap.size, 0, none⟩ = some (.pointer (some ⟨b, 0, none⟩))) ∧ (W.cell? ⟨w.heap.size + 1, 0, none⟩ = some (.int .i64 1) ∧ W.cell? ⟨w.heap.size + 1, 1, none⟩ = some (.float .f64 v.f) ∧ W.cell? ⟨w.heap.size + 1, 2, none⟩ = some (.string v.s) ∧ W.cell? ⟨w.heap.size + 1, 3, none⟩ = some (.slice a1 n1 k1) ∧ W.cell? ⟨w.heap.size + 1, 4, none⟩ = some (.slice a2 n2 k2)) ∧ (W.cell? ⟨b, 7, none⟩ = some (.bool y.asc))) (first | exact HVS.out.cells)
      (first
      | (go_at_call 16; have hc := HCOL.out _ HNW.out; (with_reducible refine hc.mono ?_); clear hc; rintro e wn ⟨rfl, hb2⟩; have hh := HVS.out.below hb2; have hn := HNW.out.below hb2; clear HVS HNW; have HVS := Lib.hid hh; have HNW := Lib.hid hn; clear hh hb2 hn)
      | (go_at_call 32; have hc := HTX.out _ HNW.out (HW0.out.trans (HVS.out.ws.1.mono hb)); (with_reducible refine hc.mono ?_); clear hc; rintro e wn ⟨rfl, hb2⟩; have hh := HVS.out.below hb2; have hn := HNW.out.below hb2; clear HVS HNW; have HVS := Lib.hid hh; have HNW := Lib.hid hn; clear hh hb2 hn)
      | (go_at_call 48; have hc := HTOK.out _ HVS.out.sh; (with_reducible refine hc.mono ?_); clear hc; rintro e wn ⟨rfl, hw2, hs2⟩; have hh := HVS.out.wrote hlt hs2 hw2; clear HVS; have HVS := Lib.hid hh; clear hh hw2 hs2))
    all_goals
      go_wp2_with fail
      go_end0
      exact ⟨rfl, HVS.out.sh, HVS.out.ws⟩
  · go_enter Tryz.func25, Tryz.ntmps25
    go_wp2_with fail
    generalize ((w.alloc (.cells #[.pointer (some ⟨b, 0, none⟩)] 51)).alloc (.cells #[.int .i64 2, .float .f64 v.f, .string v.s, .slice a1 n1 k1, .slice a2 n2 k2] 27)) = w1 at HVS HBL ⊢
    have HNW := Lib.hid ((HN.out.below HBL.out).below ((Below.refl _ w1).drew))
    obtain ⟨q0, ⟨q1, q2, q3, q4, q5⟩, q6⟩ := HVS.out.cells
    have hvd := HVS.out.below ((Below.refl _ w1).drew)
    clear HBL HN HVS
    have HVS := Lib.hid hvd
    clear hvd
    go_region_held3 (fun W => (W.cell? ⟨w.heap.size, 0, none⟩ = some (.pointer (some ⟨b, 0, none⟩))) ∧ (W.cell? ⟨w.heap.size + 1, 0, none⟩ = some (.int .i64 2) ∧ W.cell? ⟨w.heap.size + 1, 1, none⟩ = some (.float .f64 v.f) ∧ W.cell? ⟨w.heap.size + 1, 2, none⟩ = some (.string v.s) ∧ W.cell? ⟨w.heap.size + 1, 3, none⟩ = some (.slice a1 n1 k1) ∧ W.cell? ⟨w.heap.size + 1, 4, none⟩ = some (.slice a2 n2 k2)) ∧ (W.cell? ⟨b, 7, none⟩ = some (.bool y.asc))) (first | exact HVS.out.cells)
      (first
      | (go_at_call 16; have hc := HCOL.out _ HNW.out; (with_reducible refine hc.mono ?_); clear hc; rintro e wn ⟨rfl, hb2⟩; have hh := HVS.out.below hb2; have hn := HNW.out.below hb2; clear HVS HNW; have HVS := Lib.hid hh; have HNW := Lib.hid hn; clear hh hb2 hn)
      | (go_at_call 32; have hc := HTX.out _ HNW.out (HW0.out.trans (HVS.out.ws.1.mono hb)); (with_reducible refine hc.mono ?_); clear hc; rintro e wn ⟨rfl, hb2⟩; have hh := HVS.out.below hb2; have hn := HNW.out.below hb2; clear HVS HNW; have HVS := Lib.hid hh; have HNW := Lib.hid hn; clear hh hb2 hn)
      | (go_at_call 48; have hc := HTOK.out _ HVS.out.sh; (with_reducible refine hc.mono ?_); clear hc; rintro e wn ⟨rfl, hw2, hs2⟩; have hh := HVS.out.wrote hlt hs2 hw2; clear HVS; have HVS := Lib.hid hh; clear hh hw2 hs2))
    all_goals
      go_wp2_with fail
      go_end0
      exact ⟨rfl, HVS.out.sh, HVS.out.ws⟩
  · go_enter Tryz.func25, Tryz.ntmps25
    go_wp2_with fail
    generalize ((w.alloc (.cells #[.pointer (some ⟨b, 0, none⟩)] 51)).alloc (.cells #[.int .i64 3, .float .f64 v.f, .string v.s, .slice a1 n1 k1, .slice a2 n2 k2] 27)) = w1 at HVS HBL ⊢
    have HNW := Lib.hid ((HN.out.below HBL.out).below ((Below.refl _ w1).drew))
    obtain ⟨q0, ⟨q1, q2, q3, q4, q5⟩, q6⟩ := HVS.out.cells
    have hvd := HVS.out.below ((Below.refl _ w1).drew)
    clear HBL HN HVS
    have HVS := Lib.hid hvd
    clear hvd
    go_region_held3 (fun W => (W.cell? ⟨w.heap.size, 0, none⟩ = some (.pointer (some ⟨b, 0, none⟩))) ∧ (W.cell? ⟨w.heap.size + 1, 0, none⟩ = some (.int .i64 3) ∧ W.cell? ⟨w.heap.size + 1, 1, none⟩ = some (.float .f64 v.f) ∧ W.cell? ⟨w.heap.size + 1, 2, none⟩ = some (.string v.s) ∧ W.cell? ⟨w.heap.size + 1, 3, none⟩ = some (.slice a1 n1 k1) ∧ W.cell? ⟨w.heap.size + 1, 4, none⟩ = some (.slice a2 n2 k2)) ∧ (W.cell? ⟨b, 7, none⟩ = some (.bool y.asc))) (first | exact HVS.out.cells)
      (first
      | (go_at_call 16; have hc := HCOL.out _ HNW.out; (with_reducible refine hc.mono ?_); clear hc; rintro e wn ⟨rfl, hb2⟩; have hh := HVS.out.below hb2; have hn := HNW.out.below hb2; clear HVS HNW; have HVS := Lib.hid hh; have HNW := Lib.hid hn; clear hh hb2 hn)
      | (go_at_call 32; have hc := HTX.out _ HNW.out (HW0.out.trans (HVS.out.ws.1.mono hb)); (with_reducible refine hc.mono ?_); clear hc; rintro e wn ⟨rfl, hb2⟩; have hh := HVS.out.below hb2; have hn := HNW.out.below hb2; clear HVS HNW; have HVS := Lib.hid hh; have HNW := Lib.hid hn; clear hh hb2 hn)
      | (go_at_call 48; have hc := HTOK.out _ HVS.out.sh; (with_reducible refine hc.mono ?_); clear hc; rintro e wn ⟨rfl, hw2, hs2⟩; have hh := HVS.out.wrote hlt hs2 hw2; clear HVS; have HVS := Lib.hid hh; clear hh hw2 hs2))
    all_goals
      go_wp2_with fail
      go_end0
      exact ⟨rfl, HVS.out.sh, HVS.out.ws⟩
end Go.Proofs.YtjhghhjnccjhmaaGreatDoor

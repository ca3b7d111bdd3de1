/- ftoa64: a double's bits as a text. -/
import Derived.Test.YtpobdmkidopnnaaGreatDoorGAD
namespace Go.Proofs.YtpobdmkidopnnaaGreatDoor
open Go Go.RowKit

theorem own_below {A C : World} {base n : Nat} {e : TypeId} {v : Value} {xs : List Value} (h : A.ownsRow base e 1 v n xs) (hb : Below A.heap.size A C) : C.ownsRow base e 1 v n xs := by
  refine ⟨h.1, ?_⟩
  rcases h.2 with hn | ⟨g, cap, cur, rfl, hgb, hh, rest⟩
  · exact .inl hn
  · refine .inr ⟨g, cap, cur, rfl, hgb, ?_, rest⟩
    rw [hb.block g ((h.lt g rfl).2)]
    exact hh
theorem strip_le (l : List UInt8) : stripN l ≤ l.length := by
  have := (List.dropWhile_sublist (p := (· == 48)) (l := l.reverse)).length_le
  rw [List.length_reverse] at this
  exact this
theorem zeros_at (w : World) (T : TypeId) (cs : Array Value) (hcs : cs = Array.replicate 32 (Value.int .u8 0)) (j : Nat) (hj : j < 32) : (w.alloc (.cells cs T)).cell? ⟨w.heap.size, j, none⟩ = some (.int .u8 0) ∧ (w.alloc (.cells cs T)).frozen? ⟨w.heap.size, j, none⟩ = false := by
  refine ⟨?_, World.frozen?_alloc_new _ _ _ _⟩
  rw [World.cell?_alloc_new, hcs, Array.getElem?_replicate, if_pos hj]
theorem below_cells {b : Nat} {w W : World} (h : Below (b + 1) w W) (j : Nat) : W.cell? ⟨b, j, none⟩ = w.cell? ⟨b, j, none⟩ ∧ W.frozen? ⟨b, j, none⟩ = w.frozen? ⟨b, j, none⟩ :=
  ⟨h.cell (p := ⟨b, j, none⟩) (Nat.lt_succ_self b), h.frozen (p := ⟨b, j, none⟩) (Nat.lt_succ_self b)⟩

set_option maxRecDepth 100000 in
set_option maxHeartbeats 2000000 in
theorem ftoa_e_z_p (b : Nat) (hb1 : (b : Int) / 4503599627370496 ≤ 4095) (hN : ((b : Int) / 9223372036854775808 != 0) = false) (hE : bits .and .i64 ((b : Int) / 4503599627370496) 2047 = 0) (hM : bits .and .u64 (b : Int) 4503599627370495 = 0)
    (h : Nat) (w0 w : World) (b0 : Nat) (v : Value) (l0 : List UInt8) (k : Wr w0 w 5 h b0 l0 v []) :
    Calls Tryz.prog 323 #[v, .float .f64 b, .int .u8 101, .int .i64 (-1)] w fun e w' => ∃ v', e = .returned v' ∧ Wr w0 w' 5 h b0 l0 v' ((if false then [45] else []) ++ [48, 101, 43, 48, 48]) := by
  have h3 := bits_conv
  go_enter Tryz.func323, Tryz.ntmps323
  go_wp2_with fail
  go_quiet (fail)
  go_wp2_with fail
  refine (fmtE_zero false h b0 l0 v [] (by simp) w0 _ (k.drewN nq)).mono ?_
  rintro e' W4 ⟨v4, rfl, k4⟩
  go_wp2_with fail
  go_ret
  exact ⟨_, rfl, by simpa using k4⟩
set_option maxRecDepth 100000 in
set_option maxHeartbeats 2000000 in
theorem ftoa_e_n_p (b ex mt m L M : Nat) (y : Int) (hb1 : (b : Int) / 4503599627370496 ≤ 4095) (hN : ((b : Int) / 9223372036854775808 != 0) = false) (hE : bits .and .i64 ((b : Int) / 4503599627370496) 2047 = (ex : Int)) (hM : bits .and .u64 (b : Int) 4503599627370495 = (mt : Int))
    (hx0 : ((ex : Int) == 2047) = false) (hx1 : ((ex : Int) == 0) = false) (hxl : ex ≤ 2046) (hOr : bits .or .u64 (mt : Int) 4503599627370496 = (m : Int)) (hm0 : ((m : Int) == 0) = false) (hL : Lib.bitLen m = L) (hL1 : 1 ≤ L) (hL2 : L ≤ 53) (hm1 : m < 18446744073709551616)
    (hSh : IntKind.u64.wrap ((m : Int) * 2 ^ (64 - L)) = (M : Int)) (hy : (ex : Int) + -1023 - (64 - (L : Int)) - 52 = y) (d : Nat) (p : Int) (hd1 : 1 ≤ d) (hd2 : d < 18446744073709551616) (hp : -360 ≤ p ∧ p ≤ 360) (hnd : 1 ≤ stripN (Lib.decDigits d))
    (h : Nat) (w0 w : World) (b0 : Nat) (v : Value) (l0 : List UInt8) (k : Wr w0 w 5 h b0 l0 v [])
    (hShort : ∀ W : World, Below w.heap.size w W → Calls Tryz.prog 356 #[.int .u64 M, .int .i64 y] W fun e w' => e = .returned (.tuple #[.int .u64 d, .int .i64 p]) ∧ Below W.heap.size W w')
    (hTab : ∀ W : World, Below w.heap.size w W → Lib.TabIs Tryz.prog W "internal/strconv.uint64pow10" .u64 Lib.pow10Tab) :
    Calls Tryz.prog 323 #[v, .float .f64 b, .int .u8 101, .int .i64 (-1)] w fun e w' => ∃ v', e = .returned v' ∧ Wr w0 w' 5 h w.heap.size (Lib.decDigits d) v' (eText false ((Lib.decDigits d).take (stripN (Lib.decDigits d))) (Lib.nDigits d + p - 1)) := by
  have h3 := bits_conv
  have HLen := fun w => Tryz.bits_Len64 (m : Int) w (by omega) (by omega)
  simp only [Int.toNat_natCast, hL] at HLen
  have HLen' := Lib.hid (fun w => HLen w)
  have HSh := Lib.hid hSh
  have Hy := Lib.hid hy
  have HS := Lib.hid hShort
  have HT := Lib.hid hTab
  have hn20 := nDigits_le 20 d (by omega) (by omega)
  have hnl := Lib.decDigits_length d
  have Hnl := Lib.hid hnl
  have hst : stripN (Lib.decDigits d) ≤ (Lib.decDigits d).length := strip_le _
  clear hL HLen hSh hy hShort hTab hnl
  go_enter Tryz.func323, Tryz.ntmps323
  go_wp2_with fail
  go_quiet (fail)
  go_wp2_with fail
  have hz1 := zeros_at (w.drewN nq) 293 _ (show _ = Array.replicate 32 (Value.int .u8 0) from rfl)
  have B1 : Below w.heap.size w ((w.drewN nq).alloc (.cells (Array.replicate 32 (Value.int .u8 0)) 293)) := (below_drewN (Below.refl _ w) nq).alloc (Nat.le_refl _) _
  have s1 : ((w.drewN nq).alloc (.cells (Array.replicate 32 (Value.int .u8 0)) 293)).heap.size = w.heap.size + 1 := by simp
  refine (HLen'.out ((w.drewN nq).alloc (.cells (Array.replicate 32 (Value.int .u8 0)) 293))).mono ?_
  rintro e' w' ⟨rfl, rfl⟩
  have Hz1 := Lib.hid hz1
  have S1 := Lib.hid s1
  clear hz1 s1
  go_wp2_with fail
  rw [HSh.out, Hy.out]
  refine (HS.out _ (by exact B1)).mono ?_
  rintro e' W ⟨rfl, bW⟩
  have B2 : Below w.heap.size w W := B1.trans (bW.mono (by rw [S1.out]; omega))
  have bW1 : Below (w.heap.size + 1) ((w.drewN nq).alloc (.cells (Array.replicate 32 (Value.int .u8 0)) 293)) W := by rw [S1.out] at bW; exact bW
  have hz2 : ∀ j, j < 32 → W.cell? ⟨w.heap.size, j, none⟩ = some (.int .u8 0) ∧ W.frozen? ⟨w.heap.size, j, none⟩ = false := fun j hj => ⟨(below_cells bW1 j).1.trans (Hz1.out j hj).1, (below_cells bW1 j).2.trans (Hz1.out j hj).2⟩
  have zW : w.heap.size < W.heap.size := by have := bW.size; rw [S1.out] at this; omega
  have Hz2 := Lib.hid hz2
  clear bW bW1 B1 hz2
  go_wp2_with fail
  refine wp_region_any (by kernel_rfl) ?_
  change wpAny _ _ _ _ _ _ _ (World.drew _)
  obtain ⟨W2, hW2⟩ : ∃ x, W.drew = x := ⟨_, rfl⟩
  have B3 : Below w.heap.size w W2 := by rw [← hW2]; exact below_drewN B2 1
  have hz3 : ∀ j, j < 32 → W2.cell? ⟨w.heap.size, j, none⟩ = some (.int .u8 0) ∧ W2.frozen? ⟨w.heap.size, j, none⟩ = false := by rw [← hW2]; exact Hz2.out
  have zW2 : w.heap.size < W2.heap.size := by rw [← hW2]; exact zW
  rw [hW2]
  have Hz3 := Lib.hid hz3
  clear hW2 B2 hz3 zW Hz2
  refine wpAny_take (i := 1) (v := .int .u64 d) rfl (by kernel_rfl) (by kernel_rfl) (by kernel_rfl) (fun _ _ _ h => h) (Or.inl ⟨by rfl, fun _ => by rfl⟩) ?_
  refine wpAny_take (i := 2) (v := .int .i64 p) rfl (by kernel_rfl) (by kernel_rfl) (by kernel_rfl) (fun _ _ _ h => h) (Or.inl ⟨by rfl, fun _ => by rfl⟩) ?_
  refine wpAny_take (i := 3) (v := .int .u64 d) rfl (by kernel_rfl) (by kernel_rfl) (by kernel_rfl) (fun _ _ _ h => h) (Or.inl ⟨by rfl, fun _ => by rfl⟩) ?_
  refine wpAny_take (i := 0) (v := .slice (some ⟨w.heap.size, 0, none⟩) 32 32) rfl (by kernel_rfl) (by kernel_rfl) (by kernel_rfl) (fun _ _ _ h => h) (Or.inl ⟨by rfl, fun _ => by go_simp⟩) ?_
  refine wpAny_ready (rs := [4]) (by kernel_rfl) (by simp) ?_
  refine AllReady.cons rfl (fun K hK => ?_) AllReady.nil
  go_simp
  refine (Tryz.internal_strconv_numDigits d hd1 hd2 _ (HT.out _ B3)).mono ?_
  rintro e' w' ⟨rfl, rfl⟩
  refine hK _ _ ?_
  clear hK K
  refine wpAny_ready (rs := [5]) (by kernel_rfl) (by simp) ?_
  refine AllReady.cons rfl (fun K hK => ?_) AllReady.nil
  go_simp
  refine (setDigits_any _ d p hd1 hd2 ⟨by omega, by omega⟩ _ Hz3.out).mono ?_
  rintro e' W3 ⟨rfl, hcl, bS⟩
  have B4 : Below w.heap.size w W3 := B3.trans bS
  have zW3 : w.heap.size < W3.heap.size := by have := bS.size; omega
  refine hK _ _ ?_
  clear hK K bS
  refine wpAny_take (i := 6) (v := .tuple #[.int .i64 (Lib.nDigits d + p), .int .i64 (stripN (Lib.decDigits d))]) rfl (by kernel_rfl) (by kernel_rfl) (by kernel_rfl) (fun _ _ _ h => h) (Or.inl ⟨by rfl, fun _ => by first | rfl | go_simp⟩) ?_
  refine wpAny_take (i := 7) (v := .int .i64 (Lib.nDigits d + p)) rfl (by kernel_rfl) (by kernel_rfl) (by kernel_rfl) (fun _ _ _ h => h) (Or.inl ⟨by rfl, fun _ => by first | rfl | go_simp⟩) ?_
  refine wpAny_take (i := 8) (v := .int .i64 (stripN (Lib.decDigits d))) rfl (by kernel_rfl) (by kernel_rfl) (by kernel_rfl) (fun _ _ _ h => h) (Or.inl ⟨by rfl, fun _ => by first | rfl | go_simp⟩) ?_
  refine wpAny_take (i := 9) (v := .int .i64 (Lib.nDigits d + p)) rfl (by kernel_rfl) (by kernel_rfl) (by kernel_rfl) (fun _ _ _ h => h) (Or.inl ⟨by rfl, fun _ => by first | rfl | go_simp⟩) ?_
  refine wpAny_take (i := 10) (v := .int .i64 (stripN (Lib.decDigits d))) rfl (by kernel_rfl) (by kernel_rfl) (by kernel_rfl) (fun _ _ _ h => h) (Or.inl ⟨by rfl, fun _ => by first | rfl | go_simp⟩) ?_
  refine wpAny_done (by kernel_rfl) ?_ _
  have hmx : max ((stripN (Lib.decDigits d) : Int) - 1) 0 = (stripN (Lib.decDigits d) : Int) - 1 := by omega
  have kW : Wr w0 W3 5 h w.heap.size (Lib.decDigits d) v [] := ⟨own_below k.own B4, fun hc => absurd ((k.own.lt _ hc).2) (by omega), hcl, zW3, by have := k.base; omega, k.bel.trans (B4.mono k.base)⟩
  clear hcl
  have hs20 : (stripN (Lib.decDigits d) : Int) ≤ 20 := by have := Hnl.out; omega
  have hs1 : (1 : Int) ≤ (stripN (Lib.decDigits d) : Int) := by omega
  go_wp2_with fail
  refine (fmtE_all false (Lib.decDigits d) (Lib.nDigits d + p) (stripN (Lib.decDigits d)) h w.heap.size v [] 32 (by simp) hnd hst (by rw [Hnl.out]; omega) (by rw [Hnl.out]; omega) (by omega) ⟨by omega, by omega⟩ w0 W3 kW).mono ?_
  rintro e' W4 ⟨v4, rfl, k4⟩
  go_wp2_with fail
  go_ret
  exact ⟨_, rfl, by simpa using k4⟩
set_option maxRecDepth 100000 in
set_option maxHeartbeats 2000000 in
theorem ftoa_e_s_p (b ex mt m L M : Nat) (y : Int) (hb1 : (b : Int) / 4503599627370496 ≤ 4095) (hN : ((b : Int) / 9223372036854775808 != 0) = false) (hE : bits .and .i64 ((b : Int) / 4503599627370496) 2047 = (ex : Int)) (hM : bits .and .u64 (b : Int) 4503599627370495 = (mt : Int))
    (hx0 : ((ex : Int) == 2047) = false) (hx1 : ((ex : Int) == 0) = true) (hxl : ex ≤ 2046) (hOr : (mt : Int) = (m : Int)) (hm0 : ((m : Int) == 0) = false) (hL : Lib.bitLen m = L) (hL1 : 1 ≤ L) (hL2 : L ≤ 53) (hm1 : m < 18446744073709551616)
    (hSh : IntKind.u64.wrap ((m : Int) * 2 ^ (64 - L)) = (M : Int)) (hy : (ex : Int) + 1 + -1023 - (64 - (L : Int)) - 52 = y) (d : Nat) (p : Int) (hd1 : 1 ≤ d) (hd2 : d < 18446744073709551616) (hp : -360 ≤ p ∧ p ≤ 360) (hnd : 1 ≤ stripN (Lib.decDigits d))
    (h : Nat) (w0 w : World) (b0 : Nat) (v : Value) (l0 : List UInt8) (k : Wr w0 w 5 h b0 l0 v [])
    (hShort : ∀ W : World, Below w.heap.size w W → Calls Tryz.prog 356 #[.int .u64 M, .int .i64 y] W fun e w' => e = .returned (.tuple #[.int .u64 d, .int .i64 p]) ∧ Below W.heap.size W w')
    (hTab : ∀ W : World, Below w.heap.size w W → Lib.TabIs Tryz.prog W "internal/strconv.uint64pow10" .u64 Lib.pow10Tab) :
    Calls Tryz.prog 323 #[v, .float .f64 b, .int .u8 101, .int .i64 (-1)] w fun e w' => ∃ v', e = .returned v' ∧ Wr w0 w' 5 h w.heap.size (Lib.decDigits d) v' (eText false ((Lib.decDigits d).take (stripN (Lib.decDigits d))) (Lib.nDigits d + p - 1)) := by
  have h3 := bits_conv
  have HLen := fun w => Tryz.bits_Len64 (m : Int) w (by omega) (by omega)
  simp only [Int.toNat_natCast, hL] at HLen
  have HLen' := Lib.hid (fun w => HLen w)
  have HSh := Lib.hid hSh
  have Hy := Lib.hid hy
  have HS := Lib.hid hShort
  have HT := Lib.hid hTab
  have hn20 := nDigits_le 20 d (by omega) (by omega)
  have hnl := Lib.decDigits_length d
  have Hnl := Lib.hid hnl
  have hst : stripN (Lib.decDigits d) ≤ (Lib.decDigits d).length := strip_le _
  clear hL HLen hSh hy hShort hTab hnl
  go_enter Tryz.func323, Tryz.ntmps323
  go_wp2_with fail
  go_quiet (fail)
  go_wp2_with fail
  have hz1 := zeros_at (w.drewN nq) 293 _ (show _ = Array.replicate 32 (Value.int .u8 0) from rfl)
  have B1 : Below w.heap.size w ((w.drewN nq).alloc (.cells (Array.replicate 32 (Value.int .u8 0)) 293)) := (below_drewN (Below.refl _ w) nq).alloc (Nat.le_refl _) _
  have s1 : ((w.drewN nq).alloc (.cells (Array.replicate 32 (Value.int .u8 0)) 293)).heap.size = w.heap.size + 1 := by simp
  refine (HLen'.out ((w.drewN nq).alloc (.cells (Array.replicate 32 (Value.int .u8 0)) 293))).mono ?_
  rintro e' w' ⟨rfl, rfl⟩
  have Hz1 := Lib.hid hz1
  have S1 := Lib.hid s1
  clear hz1 s1
  go_wp2_with fail
  rw [HSh.out, Hy.out]
  refine (HS.out _ (by exact B1)).mono ?_
  rintro e' W ⟨rfl, bW⟩
  have B2 : Below w.heap.size w W := B1.trans (bW.mono (by rw [S1.out]; omega))
  have bW1 : Below (w.heap.size + 1) ((w.drewN nq).alloc (.cells (Array.replicate 32 (Value.int .u8 0)) 293)) W := by rw [S1.out] at bW; exact bW
  have hz2 : ∀ j, j < 32 → W.cell? ⟨w.heap.size, j, none⟩ = some (.int .u8 0) ∧ W.frozen? ⟨w.heap.size, j, none⟩ = false := fun j hj => ⟨(below_cells bW1 j).1.trans (Hz1.out j hj).1, (below_cells bW1 j).2.trans (Hz1.out j hj).2⟩
  have zW : w.heap.size < W.heap.size := by have := bW.size; rw [S1.out] at this; omega
  have Hz2 := Lib.hid hz2
  clear bW bW1 B1 hz2
  go_wp2_with fail
  refine wp_region_any (by kernel_rfl) ?_
  change wpAny _ _ _ _ _ _ _ (World.drew _)
  obtain ⟨W2, hW2⟩ : ∃ x, W.drew = x := ⟨_, rfl⟩
  have B3 : Below w.heap.size w W2 := by rw [← hW2]; exact below_drewN B2 1
  have hz3 : ∀ j, j < 32 → W2.cell? ⟨w.heap.size, j, none⟩ = some (.int .u8 0) ∧ W2.frozen? ⟨w.heap.size, j, none⟩ = false := by rw [← hW2]; exact Hz2.out
  have zW2 : w.heap.size < W2.heap.size := by rw [← hW2]; exact zW
  rw [hW2]
  have Hz3 := Lib.hid hz3
  clear hW2 B2 hz3 zW Hz2
  refine wpAny_take (i := 1) (v := .int .u64 d) rfl (by kernel_rfl) (by kernel_rfl) (by kernel_rfl) (fun _ _ _ h => h) (Or.inl ⟨by rfl, fun _ => by rfl⟩) ?_
  refine wpAny_take (i := 2) (v := .int .i64 p) rfl (by kernel_rfl) (by kernel_rfl) (by kernel_rfl) (fun _ _ _ h => h) (Or.inl ⟨by rfl, fun _ => by rfl⟩) ?_
  refine wpAny_take (i := 3) (v := .int .u64 d) rfl (by kernel_rfl) (by kernel_rfl) (by kernel_rfl) (fun _ _ _ h => h) (Or.inl ⟨by rfl, fun _ => by rfl⟩) ?_
  refine wpAny_take (i := 0) (v := .slice (some ⟨w.heap.size, 0, none⟩) 32 32) rfl (by kernel_rfl) (by kernel_rfl) (by kernel_rfl) (fun _ _ _ h => h) (Or.inl ⟨by rfl, fun _ => by go_simp⟩) ?_
  refine wpAny_ready (rs := [4]) (by kernel_rfl) (by simp) ?_
  refine AllReady.cons rfl (fun K hK => ?_) AllReady.nil
  go_simp
  refine (Tryz.internal_strconv_numDigits d hd1 hd2 _ (HT.out _ B3)).mono ?_
  rintro e' w' ⟨rfl, rfl⟩
  refine hK _ _ ?_
  clear hK K
  refine wpAny_ready (rs := [5]) (by kernel_rfl) (by simp) ?_
  refine AllReady.cons rfl (fun K hK => ?_) AllReady.nil
  go_simp
  refine (setDigits_any _ d p hd1 hd2 ⟨by omega, by omega⟩ _ Hz3.out).mono ?_
  rintro e' W3 ⟨rfl, hcl, bS⟩
  have B4 : Below w.heap.size w W3 := B3.trans bS
  have zW3 : w.heap.size < W3.heap.size := by have := bS.size; omega
  refine hK _ _ ?_
  clear hK K bS
  refine wpAny_take (i := 6) (v := .tuple #[.int .i64 (Lib.nDigits d + p), .int .i64 (stripN (Lib.decDigits d))]) rfl (by kernel_rfl) (by kernel_rfl) (by kernel_rfl) (fun _ _ _ h => h) (Or.inl ⟨by rfl, fun _ => by first | rfl | go_simp⟩) ?_
  refine wpAny_take (i := 7) (v := .int .i64 (Lib.nDigits d + p)) rfl (by kernel_rfl) (by kernel_rfl) (by kernel_rfl) (fun _ _ _ h => h) (Or.inl ⟨by rfl, fun _ => by first | rfl | go_simp⟩) ?_
  refine wpAny_take (i := 8) (v := .int .i64 (stripN (Lib.decDigits d))) rfl (by kernel_rfl) (by kernel_rfl) (by kernel_rfl) (fun _ _ _ h => h) (Or.inl ⟨by rfl, fun _ => by first | rfl | go_simp⟩) ?_
  refine wpAny_take (i := 9) (v := .int .i64 (Lib.nDigits d + p)) rfl (by kernel_rfl) (by kernel_rfl) (by kernel_rfl) (fun _ _ _ h => h) (Or.inl ⟨by rfl, fun _ => by first | rfl | go_simp⟩) ?_
  refine wpAny_take (i := 10) (v := .int .i64 (stripN (Lib.decDigits d))) rfl (by kernel_rfl) (by kernel_rfl) (by kernel_rfl) (fun _ _ _ h => h) (Or.inl ⟨by rfl, fun _ => by first | rfl | go_simp⟩) ?_
  refine wpAny_done (by kernel_rfl) ?_ _
  have hmx : max ((stripN (Lib.decDigits d) : Int) - 1) 0 = (stripN (Lib.decDigits d) : Int) - 1 := by omega
  have kW : Wr w0 W3 5 h w.heap.size (Lib.decDigits d) v [] := ⟨own_below k.own B4, fun hc => absurd ((k.own.lt _ hc).2) (by omega), hcl, zW3, by have := k.base; omega, k.bel.trans (B4.mono k.base)⟩
  clear hcl
  have hs20 : (stripN (Lib.decDigits d) : Int) ≤ 20 := by have := Hnl.out; omega
  have hs1 : (1 : Int) ≤ (stripN (Lib.decDigits d) : Int) := by omega
  go_wp2_with fail
  refine (fmtE_all false (Lib.decDigits d) (Lib.nDigits d + p) (stripN (Lib.decDigits d)) h w.heap.size v [] 32 (by simp) hnd hst (by rw [Hnl.out]; omega) (by rw [Hnl.out]; omega) (by omega) ⟨by omega, by omega⟩ w0 W3 kW).mono ?_
  rintro e' W4 ⟨v4, rfl, k4⟩
  go_wp2_with fail
  go_ret
  exact ⟨_, rfl, by simpa using k4⟩
set_option maxRecDepth 100000 in
set_option maxHeartbeats 2000000 in
theorem ftoa_e_z_m (b : Nat) (hb1 : (b : Int) / 4503599627370496 ≤ 4095) (hN : ((b : Int) / 9223372036854775808 != 0) = true) (hE : bits .and .i64 ((b : Int) / 4503599627370496) 2047 = 0) (hM : bits .and .u64 (b : Int) 4503599627370495 = 0)
    (h : Nat) (w0 w : World) (b0 : Nat) (v : Value) (l0 : List UInt8) (k : Wr w0 w 5 h b0 l0 v []) :
    Calls Tryz.prog 323 #[v, .float .f64 b, .int .u8 101, .int .i64 (-1)] w fun e w' => ∃ v', e = .returned v' ∧ Wr w0 w' 5 h b0 l0 v' ((if true then [45] else []) ++ [48, 101, 43, 48, 48]) := by
  have h3 := bits_conv
  go_enter Tryz.func323, Tryz.ntmps323
  go_wp2_with fail
  go_quiet (fail)
  go_wp2_with fail
  refine (fmtE_zero true h b0 l0 v [] (by simp) w0 _ (k.drewN nq)).mono ?_
  rintro e' W4 ⟨v4, rfl, k4⟩
  go_wp2_with fail
  go_ret
  exact ⟨_, rfl, by simpa using k4⟩
set_option maxRecDepth 100000 in
set_option maxHeartbeats 2000000 in
theorem ftoa_e_n_m (b ex mt m L M : Nat) (y : Int) (hb1 : (b : Int) / 4503599627370496 ≤ 4095) (hN : ((b : Int) / 9223372036854775808 != 0) = true) (hE : bits .and .i64 ((b : Int) / 4503599627370496) 2047 = (ex : Int)) (hM : bits .and .u64 (b : Int) 4503599627370495 = (mt : Int))
    (hx0 : ((ex : Int) == 2047) = false) (hx1 : ((ex : Int) == 0) = false) (hxl : ex ≤ 2046) (hOr : bits .or .u64 (mt : Int) 4503599627370496 = (m : Int)) (hm0 : ((m : Int) == 0) = false) (hL : Lib.bitLen m = L) (hL1 : 1 ≤ L) (hL2 : L ≤ 53) (hm1 : m < 18446744073709551616)
    (hSh : IntKind.u64.wrap ((m : Int) * 2 ^ (64 - L)) = (M : Int)) (hy : (ex : Int) + -1023 - (64 - (L : Int)) - 52 = y) (d : Nat) (p : Int) (hd1 : 1 ≤ d) (hd2 : d < 18446744073709551616) (hp : -360 ≤ p ∧ p ≤ 360) (hnd : 1 ≤ stripN (Lib.decDigits d))
    (h : Nat) (w0 w : World) (b0 : Nat) (v : Value) (l0 : List UInt8) (k : Wr w0 w 5 h b0 l0 v [])
    (hShort : ∀ W : World, Below w.heap.size w W → Calls Tryz.prog 356 #[.int .u64 M, .int .i64 y] W fun e w' => e = .returned (.tuple #[.int .u64 d, .int .i64 p]) ∧ Below W.heap.size W w')
    (hTab : ∀ W : World, Below w.heap.size w W → Lib.TabIs Tryz.prog W "internal/strconv.uint64pow10" .u64 Lib.pow10Tab) :
    Calls Tryz.prog 323 #[v, .float .f64 b, .int .u8 101, .int .i64 (-1)] w fun e w' => ∃ v', e = .returned v' ∧ Wr w0 w' 5 h w.heap.size (Lib.decDigits d) v' (eText true ((Lib.decDigits d).take (stripN (Lib.decDigits d))) (Lib.nDigits d + p - 1)) := by
  have h3 := bits_conv
  have HLen := fun w => Tryz.bits_Len64 (m : Int) w (by omega) (by omega)
  simp only [Int.toNat_natCast, hL] at HLen
  have HLen' := Lib.hid (fun w => HLen w)
  have HSh := Lib.hid hSh
  have Hy := Lib.hid hy
  have HS := Lib.hid hShort
  have HT := Lib.hid hTab
  have hn20 := nDigits_le 20 d (by omega) (by omega)
  have hnl := Lib.decDigits_length d
  have Hnl := Lib.hid hnl
  have hst : stripN (Lib.decDigits d) ≤ (Lib.decDigits d).length := strip_le _
  clear hL HLen hSh hy hShort hTab hnl
  go_enter Tryz.func323, Tryz.ntmps323
  go_wp2_with fail
  go_quiet (fail)
  go_wp2_with fail
  have hz1 := zeros_at (w.drewN nq) 293 _ (show _ = Array.replicate 32 (Value.int .u8 0) from rfl)
  have B1 : Below w.heap.size w ((w.drewN nq).alloc (.cells (Array.replicate 32 (Value.int .u8 0)) 293)) := (below_drewN (Below.refl _ w) nq).alloc (Nat.le_refl _) _
  have s1 : ((w.drewN nq).alloc (.cells (Array.replicate 32 (Value.int .u8 0)) 293)).heap.size = w.heap.size + 1 := by simp
  refine (HLen'.out ((w.drewN nq).alloc (.cells (Array.replicate 32 (Value.int .u8 0)) 293))).mono ?_
  rintro e' w' ⟨rfl, rfl⟩
  have Hz1 := Lib.hid hz1
  have S1 := Lib.hid s1
  clear hz1 s1
  go_wp2_with fail
  rw [HSh.out, Hy.out]
  refine (HS.out _ (by exact B1)).mono ?_
  rintro e' W ⟨rfl, bW⟩
  have B2 : Below w.heap.size w W := B1.trans (bW.mono (by rw [S1.out]; omega))
  have bW1 : Below (w.heap.size + 1) ((w.drewN nq).alloc (.cells (Array.replicate 32 (Value.int .u8 0)) 293)) W := by rw [S1.out] at bW; exact bW
  have hz2 : ∀ j, j < 32 → W.cell? ⟨w.heap.size, j, none⟩ = some (.int .u8 0) ∧ W.frozen? ⟨w.heap.size, j, none⟩ = false := fun j hj => ⟨(below_cells bW1 j).1.trans (Hz1.out j hj).1, (below_cells bW1 j).2.trans (Hz1.out j hj).2⟩
  have zW : w.heap.size < W.heap.size := by have := bW.size; rw [S1.out] at this; omega
  have Hz2 := Lib.hid hz2
  clear bW bW1 B1 hz2
  go_wp2_with fail
  refine wp_region_any (by kernel_rfl) ?_
  change wpAny _ _ _ _ _ _ _ (World.drew _)
  obtain ⟨W2, hW2⟩ : ∃ x, W.drew = x := ⟨_, rfl⟩
  have B3 : Below w.heap.size w W2 := by rw [← hW2]; exact below_drewN B2 1
  have hz3 : ∀ j, j < 32 → W2.cell? ⟨w.heap.size, j, none⟩ = some (.int .u8 0) ∧ W2.frozen? ⟨w.heap.size, j, none⟩ = false := by rw [← hW2]; exact Hz2.out
  have zW2 : w.heap.size < W2.heap.size := by rw [← hW2]; exact zW
  rw [hW2]
  have Hz3 := Lib.hid hz3
  clear hW2 B2 hz3 zW Hz2
  refine wpAny_take (i := 1) (v := .int .u64 d) rfl (by kernel_rfl) (by kernel_rfl) (by kernel_rfl) (fun _ _ _ h => h) (Or.inl ⟨by rfl, fun _ => by rfl⟩) ?_
  refine wpAny_take (i := 2) (v := .int .i64 p) rfl (by kernel_rfl) (by kernel_rfl) (by kernel_rfl) (fun _ _ _ h => h) (Or.inl ⟨by rfl, fun _ => by rfl⟩) ?_
  refine wpAny_take (i := 3) (v := .int .u64 d) rfl (by kernel_rfl) (by kernel_rfl) (by kernel_rfl) (fun _ _ _ h => h) (Or.inl ⟨by rfl, fun _ => by rfl⟩) ?_
  refine wpAny_take (i := 0) (v := .slice (some ⟨w.heap.size, 0, none⟩) 32 32) rfl (by kernel_rfl) (by kernel_rfl) (by kernel_rfl) (fun _ _ _ h => h) (Or.inl ⟨by rfl, fun _ => by go_simp⟩) ?_
  refine wpAny_ready (rs := [4]) (by kernel_rfl) (by simp) ?_
  refine AllReady.cons rfl (fun K hK => ?_) AllReady.nil
  go_simp
  refine (Tryz.internal_strconv_numDigits d hd1 hd2 _ (HT.out _ B3)).mono ?_
  rintro e' w' ⟨rfl, rfl⟩
  refine hK _ _ ?_
  clear hK K
  refine wpAny_ready (rs := [5]) (by kernel_rfl) (by simp) ?_
  refine AllReady.cons rfl (fun K hK => ?_) AllReady.nil
  go_simp
  refine (setDigits_any _ d p hd1 hd2 ⟨by omega, by omega⟩ _ Hz3.out).mono ?_
  rintro e' W3 ⟨rfl, hcl, bS⟩
  have B4 : Below w.heap.size w W3 := B3.trans bS
  have zW3 : w.heap.size < W3.heap.size := by have := bS.size; omega
  refine hK _ _ ?_
  clear hK K bS
  refine wpAny_take (i := 6) (v := .tuple #[.int .i64 (Lib.nDigits d + p), .int .i64 (stripN (Lib.decDigits d))]) rfl (by kernel_rfl) (by kernel_rfl) (by kernel_rfl) (fun _ _ _ h => h) (Or.inl ⟨by rfl, fun _ => by first | rfl | go_simp⟩) ?_
  refine wpAny_take (i := 7) (v := .int .i64 (Lib.nDigits d + p)) rfl (by kernel_rfl) (by kernel_rfl) (by kernel_rfl) (fun _ _ _ h => h) (Or.inl ⟨by rfl, fun _ => by first | rfl | go_simp⟩) ?_
  refine wpAny_take (i := 8) (v := .int .i64 (stripN (Lib.decDigits d))) rfl (by kernel_rfl) (by kernel_rfl) (by kernel_rfl) (fun _ _ _ h => h) (Or.inl ⟨by rfl, fun _ => by first | rfl | go_simp⟩) ?_
  refine wpAny_take (i := 9) (v := .int .i64 (Lib.nDigits d + p)) rfl (by kernel_rfl) (by kernel_rfl) (by kernel_rfl) (fun _ _ _ h => h) (Or.inl ⟨by rfl, fun _ => by first | rfl | go_simp⟩) ?_
  refine wpAny_take (i := 10) (v := .int .i64 (stripN (Lib.decDigits d))) rfl (by kernel_rfl) (by kernel_rfl) (by kernel_rfl) (fun _ _ _ h => h) (Or.inl ⟨by rfl, fun _ => by first | rfl | go_simp⟩) ?_
  refine wpAny_done (by kernel_rfl) ?_ _
  have hmx : max ((stripN (Lib.decDigits d) : Int) - 1) 0 = (stripN (Lib.decDigits d) : Int) - 1 := by omega
  have kW : Wr w0 W3 5 h w.heap.size (Lib.decDigits d) v [] := ⟨own_below k.own B4, fun hc => absurd ((k.own.lt _ hc).2) (by omega), hcl, zW3, by have := k.base; omega, k.bel.trans (B4.mono k.base)⟩
  clear hcl
  have hs20 : (stripN (Lib.decDigits d) : Int) ≤ 20 := by have := Hnl.out; omega
  have hs1 : (1 : Int) ≤ (stripN (Lib.decDigits d) : Int) := by omega
  go_wp2_with fail
  refine (fmtE_all true (Lib.decDigits d) (Lib.nDigits d + p) (stripN (Lib.decDigits d)) h w.heap.size v [] 32 (by simp) hnd hst (by rw [Hnl.out]; omega) (by rw [Hnl.out]; omega) (by omega) ⟨by omega, by omega⟩ w0 W3 kW).mono ?_
  rintro e' W4 ⟨v4, rfl, k4⟩
  go_wp2_with fail
  go_ret
  exact ⟨_, rfl, by simpa using k4⟩
set_option maxRecDepth 100000 in
set_option maxHeartbeats 2000000 in
theorem ftoa_e_s_m (b ex mt m L M : Nat) (y : Int) (hb1 : (b : Int) / 4503599627370496 ≤ 4095) (hN : ((b : Int) / 9223372036854775808 != 0) = true) (hE : bits .and .i64 ((b : Int) / 4503599627370496) 2047 = (ex : Int)) (hM : bits .and .u64 (b : Int) 4503599627370495 = (mt : Int))
    (hx0 : ((ex : Int) == 2047) = false) (hx1 : ((ex : Int) == 0) = true) (hxl : ex ≤ 2046) (hOr : (mt : Int) = (m : Int)) (hm0 : ((m : Int) == 0) = false) (hL : Lib.bitLen m = L) (hL1 : 1 ≤ L) (hL2 : L ≤ 53) (hm1 : m < 18446744073709551616)
    (hSh : IntKind.u64.wrap ((m : Int) * 2 ^ (64 - L)) = (M : Int)) (hy : (ex : Int) + 1 + -1023 - (64 - (L : Int)) - 52 = y) (d : Nat) (p : Int) (hd1 : 1 ≤ d) (hd2 : d < 18446744073709551616) (hp : -360 ≤ p ∧ p ≤ 360) (hnd : 1 ≤ stripN (Lib.decDigits d))
    (h : Nat) (w0 w : World) (b0 : Nat) (v : Value) (l0 : List UInt8) (k : Wr w0 w 5 h b0 l0 v [])
    (hShort : ∀ W : World, Below w.heap.size w W → Calls Tryz.prog 356 #[.int .u64 M, .int .i64 y] W fun e w' => e = .returned (.tuple #[.int .u64 d, .int .i64 p]) ∧ Below W.heap.size W w')
    (hTab : ∀ W : World, Below w.heap.size w W → Lib.TabIs Tryz.prog W "internal/strconv.uint64pow10" .u64 Lib.pow10Tab) :
    Calls Tryz.prog 323 #[v, .float .f64 b, .int .u8 101, .int .i64 (-1)] w fun e w' => ∃ v', e = .returned v' ∧ Wr w0 w' 5 h w.heap.size (Lib.decDigits d) v' (eText true ((Lib.decDigits d).take (stripN (Lib.decDigits d))) (Lib.nDigits d + p - 1)) := by
  have h3 := bits_conv
  have HLen := fun w => Tryz.bits_Len64 (m : Int) w (by omega) (by omega)
  simp only [Int.toNat_natCast, hL] at HLen
  have HLen' := Lib.hid (fun w => HLen w)
  have HSh := Lib.hid hSh
  have Hy := Lib.hid hy
  have HS := Lib.hid hShort
  have HT := Lib.hid hTab
  have hn20 := nDigits_le 20 d (by omega) (by omega)
  have hnl := Lib.decDigits_length d
  have Hnl := Lib.hid hnl
  have hst : stripN (Lib.decDigits d) ≤ (Lib.decDigits d).length := strip_le _
  clear hL HLen hSh hy hShort hTab hnl
  go_enter Tryz.func323, Tryz.ntmps323
  go_wp2_with fail
  go_quiet (fail)
  go_wp2_with fail
  have hz1 := zeros_at (w.drewN nq) 293 _ (show _ = Array.replicate 32 (Value.int .u8 0) from rfl)
  have B1 : Below w.heap.size w ((w.drewN nq).alloc (.cells (Array.replicate 32 (Value.int .u8 0)) 293)) := (below_drewN (Below.refl _ w) nq).alloc (Nat.le_refl _) _
  have s1 : ((w.drewN nq).alloc (.cells (Array.replicate 32 (Value.int .u8 0)) 293)).heap.size = w.heap.size + 1 := by simp
  refine (HLen'.out ((w.drewN nq).alloc (.cells (Array.replicate 32 (Value.int .u8 0)) 293))).mono ?_
  rintro e' w' ⟨rfl, rfl⟩
  have Hz1 := Lib.hid hz1
  have S1 := Lib.hid s1
  clear hz1 s1
  go_wp2_with fail
  rw [HSh.out, Hy.out]
  refine (HS.out _ (by exact B1)).mono ?_
  rintro e' W ⟨rfl, bW⟩
  have B2 : Below w.heap.size w W := B1.trans (bW.mono (by rw [S1.out]; omega))
  have bW1 : Below (w.heap.size + 1) ((w.drewN nq).alloc (.cells (Array.replicate 32 (Value.int .u8 0)) 293)) W := by rw [S1.out] at bW; exact bW
  have hz2 : ∀ j, j < 32 → W.cell? ⟨w.heap.size, j, none⟩ = some (.int .u8 0) ∧ W.frozen? ⟨w.heap.size, j, none⟩ = false := fun j hj => ⟨(below_cells bW1 j).1.trans (Hz1.out j hj).1, (below_cells bW1 j).2.trans (Hz1.out j hj).2⟩
  have zW : w.heap.size < W.heap.size := by have := bW.size; rw [S1.out] at this; omega
  have Hz2 := Lib.hid hz2
  clear bW bW1 B1 hz2
  go_wp2_with fail
  refine wp_region_any (by kernel_rfl) ?_
  change wpAny _ _ _ _ _ _ _ (World.drew _)
  obtain ⟨W2, hW2⟩ : ∃ x, W.drew = x := ⟨_, rfl⟩
  have B3 : Below w.heap.size w W2 := by rw [← hW2]; exact below_drewN B2 1
  have hz3 : ∀ j, j < 32 → W2.cell? ⟨w.heap.size, j, none⟩ = some (.int .u8 0) ∧ W2.frozen? ⟨w.heap.size, j, none⟩ = false := by rw [← hW2]; exact Hz2.out
  have zW2 : w.heap.size < W2.heap.size := by rw [← hW2]; exact zW
  rw [hW2]
  have Hz3 := Lib.hid hz3
  clear hW2 B2 hz3 zW Hz2
  refine wpAny_take (i := 1) (v := .int .u64 d) rfl (by kernel_rfl) (by kernel_rfl) (by kernel_rfl) (fun _ _ _ h => h) (Or.inl ⟨by rfl, fun _ => by rfl⟩) ?_
  refine wpAny_take (i := 2) (v := .int .i64 p) rfl (by kernel_rfl) (by kernel_rfl) (by kernel_rfl) (fun _ _ _ h => h) (Or.inl ⟨by rfl, fun _ => by rfl⟩) ?_
  refine wpAny_take (i := 3) (v := .int .u64 d) rfl (by kernel_rfl) (by kernel_rfl) (by kernel_rfl) (fun _ _ _ h => h) (Or.inl ⟨by rfl, fun _ => by rfl⟩) ?_
  refine wpAny_take (i := 0) (v := .slice (some ⟨w.heap.size, 0, none⟩) 32 32) rfl (by kernel_rfl) (by kernel_rfl) (by kernel_rfl) (fun _ _ _ h => h) (Or.inl ⟨by rfl, fun _ => by go_simp⟩) ?_
  refine wpAny_ready (rs := [4]) (by kernel_rfl) (by simp) ?_
  refine AllReady.cons rfl (fun K hK => ?_) AllReady.nil
  go_simp
  refine (Tryz.internal_strconv_numDigits d hd1 hd2 _ (HT.out _ B3)).mono ?_
  rintro e' w' ⟨rfl, rfl⟩
  refine hK _ _ ?_
  clear hK K
  refine wpAny_ready (rs := [5]) (by kernel_rfl) (by simp) ?_
  refine AllReady.cons rfl (fun K hK => ?_) AllReady.nil
  go_simp
  refine (setDigits_any _ d p hd1 hd2 ⟨by omega, by omega⟩ _ Hz3.out).mono ?_
  rintro e' W3 ⟨rfl, hcl, bS⟩
  have B4 : Below w.heap.size w W3 := B3.trans bS
  have zW3 : w.heap.size < W3.heap.size := by have := bS.size; omega
  refine hK _ _ ?_
  clear hK K bS
  refine wpAny_take (i := 6) (v := .tuple #[.int .i64 (Lib.nDigits d + p), .int .i64 (stripN (Lib.decDigits d))]) rfl (by kernel_rfl) (by kernel_rfl) (by kernel_rfl) (fun _ _ _ h => h) (Or.inl ⟨by rfl, fun _ => by first | rfl | go_simp⟩) ?_
  refine wpAny_take (i := 7) (v := .int .i64 (Lib.nDigits d + p)) rfl (by kernel_rfl) (by kernel_rfl) (by kernel_rfl) (fun _ _ _ h => h) (Or.inl ⟨by rfl, fun _ => by first | rfl | go_simp⟩) ?_
  refine wpAny_take (i := 8) (v := .int .i64 (stripN (Lib.decDigits d))) rfl (by kernel_rfl) (by kernel_rfl) (by kernel_rfl) (fun _ _ _ h => h) (Or.inl ⟨by rfl, fun _ => by first | rfl | go_simp⟩) ?_
  refine wpAny_take (i := 9) (v := .int .i64 (Lib.nDigits d + p)) rfl (by kernel_rfl) (by kernel_rfl) (by kernel_rfl) (fun _ _ _ h => h) (Or.inl ⟨by rfl, fun _ => by first | rfl | go_simp⟩) ?_
  refine wpAny_take (i := 10) (v := .int .i64 (stripN (Lib.decDigits d))) rfl (by kernel_rfl) (by kernel_rfl) (by kernel_rfl) (fun _ _ _ h => h) (Or.inl ⟨by rfl, fun _ => by first | rfl | go_simp⟩) ?_
  refine wpAny_done (by kernel_rfl) ?_ _
  have hmx : max ((stripN (Lib.decDigits d) : Int) - 1) 0 = (stripN (Lib.decDigits d) : Int) - 1 := by omega
  have kW : Wr w0 W3 5 h w.heap.size (Lib.decDigits d) v [] := ⟨own_below k.own B4, fun hc => absurd ((k.own.lt _ hc).2) (by omega), hcl, zW3, by have := k.base; omega, k.bel.trans (B4.mono k.base)⟩
  clear hcl
  have hs20 : (stripN (Lib.decDigits d) : Int) ≤ 20 := by have := Hnl.out; omega
  have hs1 : (1 : Int) ≤ (stripN (Lib.decDigits d) : Int) := by omega
  go_wp2_with fail
  refine (fmtE_all true (Lib.decDigits d) (Lib.nDigits d + p) (stripN (Lib.decDigits d)) h w.heap.size v [] 32 (by simp) hnd hst (by rw [Hnl.out]; omega) (by rw [Hnl.out]; omega) (by omega) ⟨by omega, by omega⟩ w0 W3 kW).mono ?_
  rintro e' W4 ⟨v4, rfl, k4⟩
  go_wp2_with fail
  go_ret
  exact ⟨_, rfl, by simpa using k4⟩
end Go.Proofs.YtpobdmkidopnnaaGreatDoor

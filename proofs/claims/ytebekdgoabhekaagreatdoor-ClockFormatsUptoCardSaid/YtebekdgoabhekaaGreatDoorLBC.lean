/- The document's piece: directives A. -/
import Derived.Test.YtebekdgoabhekaaGreatDoorLBB
namespace Go.Proofs.YtebekdgoabhekaaGreatDoor
open Go Go.RowKit Go.Shelf
variable {y m d a : Int} {s : Nat}

set_option maxRecDepth 100000 in
set_option maxHeartbeats 4000000 in
theorem rpc_97 (Q : PcQ y m d a s) (wd yd : Int) (w : World) : Calls Tryz.prog 77 #[.agg (timeV y m d (a % 86400 / 3600) (a % 86400 / 60 % 60) s wd yd), .int .i64 a, .int .u8 97] w fun e w' => e = .returned (.tuple #[.string ⟨((semP (mkMom y m d a) 97).getD []).toArray⟩, .bool true]) ∧ Below w.heap.size w w' := by
  have hsf := run_store_float Tryz.prog
  obtain ⟨h, i, n, wk, b0, iy, iw, fs, fm, q1, ss, K⟩ := Q.know
  have HTX := Lib.hid (K.txt_97)
  rw [K.eh, K.ei]
  have HFl := Lib.hid (fun w => rfloor_any a 86400 (by have := K.ba; omega) (by have := K.ba; omega) (by omega) (by omega) w)
  rw [K.en] at HFl
  have HDy := Lib.hid (fun w => rDay_yes y 0 1 K.ok1 w)
  rw [K.eb] at HDy
  have HWk := Lib.hid (fun w => rWeeks_of y m d K.ok w)
  rw [K.en2, K.eiy, K.eiw, K.efs, K.efm] at HWk
  obtain ⟨ba, by', bm, bd, bh, bi, bn, bwk, bb, biy, biw, bfs, bfm, bq1, bss⟩ := K.bounds
  have hq1 := K.r1
  have hq2 := K.r2
  have hq3 := K.r3
  have hq4 := K.r4
  have hq5 := K.r5
  have HK := Lib.hid K
  clear K
  obtain ⟨k, rfl⟩ : ∃ k : Nat, wk = k := ⟨wk.toNat, by omega⟩
  have hk : k < 7 := by omega
  unfold timeV
  go_enter Tryz.func77, Tryz.ntmps77
  go_wp2_with fail
  have hh := (HW.start w).one #[.int .i64 y, .int .i64 m, .int .i64 d, .int .i64 h, .int .i64 i, .float .f64 s, .int .i64 wd, .int .i64 yd] 24
  generalize w.alloc (.cells #[.int .i64 y, .int .i64 m, .int .i64 d, .int .i64 h, .int .i64 i, .float .f64 s, .int .i64 wd, .int .i64 yd] 24) = X0 at hh ⊢
  have H := Lib.hid hh
  clear hh
  refine (HFl.out _).mono ?_
  rintro e w1 ⟨rfl, rfl⟩
  obtain ⟨t0, t1, t2, t3, t4, t5, t6, t7⟩ := row8p (H.out.rows _ (.head _))
  go_wp2_with fail
  refine (HDy.out _).mono ?_
  rintro e w2 ⟨rfl, hb⟩
  have hh := H.out.below hb
  clear H hb t0 t1 t2 t3 t4 t5 t6 t7
  have H := Lib.hid hh
  clear hh
  go_wp2_with fail
  refine (HWk.out _).mono ?_
  rintro e w3 ⟨rfl, hb⟩
  have hh := H.out.below hb
  clear H hb HFl HDy HWk
  have H := Lib.hid hh
  clear hh
  obtain ⟨t0, t1, t2, t3, t4, t5, t6, t7⟩ := row8p (H.out.rows _ (.head _))
  go_wp2_with fail
  refine (rDays_any _).mono ?_
  rintro e w9 ⟨rfl, hg, hb⟩
  obtain ⟨nm, hnm⟩ : ∃ nm, dayNames.getD k ⟨#[]⟩ = nm := ⟨_, rfl⟩
  have hc := name_cell hg k hk nm hnm
  have hn3 := day_size ⟨k, hk⟩
  simp only [hnm] at hn3
  have HB := Lib.hid (H.out.bel.trans (hb.mono H.out.bel.size))
  have HNM := Lib.hid hnm
  clear hb hg hnm
  go_wp2_with fail
  refine bodyPost_ret (v := .tuple #[.string _, .bool true]) (by simp [results, Tryz.results77, go_sem]; rfl) rfl ⟨?_, HB.out⟩
  rw [HTX.out, nameAt_nat, HNM.out, ba_take]
set_option maxRecDepth 100000 in
set_option maxHeartbeats 4000000 in
theorem rpc_65 (Q : PcQ y m d a s) (wd yd : Int) (w : World) : Calls Tryz.prog 77 #[.agg (timeV y m d (a % 86400 / 3600) (a % 86400 / 60 % 60) s wd yd), .int .i64 a, .int .u8 65] w fun e w' => e = .returned (.tuple #[.string ⟨((semP (mkMom y m d a) 65).getD []).toArray⟩, .bool true]) ∧ Below w.heap.size w w' := by
  have hsf := run_store_float Tryz.prog
  obtain ⟨h, i, n, wk, b0, iy, iw, fs, fm, q1, ss, K⟩ := Q.know
  have HTX := Lib.hid (K.txt_65)
  rw [K.eh, K.ei]
  have HFl := Lib.hid (fun w => rfloor_any a 86400 (by have := K.ba; omega) (by have := K.ba; omega) (by omega) (by omega) w)
  rw [K.en] at HFl
  have HDy := Lib.hid (fun w => rDay_yes y 0 1 K.ok1 w)
  rw [K.eb] at HDy
  have HWk := Lib.hid (fun w => rWeeks_of y m d K.ok w)
  rw [K.en2, K.eiy, K.eiw, K.efs, K.efm] at HWk
  obtain ⟨ba, by', bm, bd, bh, bi, bn, bwk, bb, biy, biw, bfs, bfm, bq1, bss⟩ := K.bounds
  have hq1 := K.r1
  have hq2 := K.r2
  have hq3 := K.r3
  have hq4 := K.r4
  have hq5 := K.r5
  have HK := Lib.hid K
  clear K
  obtain ⟨k, rfl⟩ : ∃ k : Nat, wk = k := ⟨wk.toNat, by omega⟩
  have hk : k < 7 := by omega
  unfold timeV
  go_enter Tryz.func77, Tryz.ntmps77
  go_wp2_with fail
  have hh := (HW.start w).one #[.int .i64 y, .int .i64 m, .int .i64 d, .int .i64 h, .int .i64 i, .float .f64 s, .int .i64 wd, .int .i64 yd] 24
  generalize w.alloc (.cells #[.int .i64 y, .int .i64 m, .int .i64 d, .int .i64 h, .int .i64 i, .float .f64 s, .int .i64 wd, .int .i64 yd] 24) = X0 at hh ⊢
  have H := Lib.hid hh
  clear hh
  refine (HFl.out _).mono ?_
  rintro e w1 ⟨rfl, rfl⟩
  obtain ⟨t0, t1, t2, t3, t4, t5, t6, t7⟩ := row8p (H.out.rows _ (.head _))
  go_wp2_with fail
  refine (HDy.out _).mono ?_
  rintro e w2 ⟨rfl, hb⟩
  have hh := H.out.below hb
  clear H hb t0 t1 t2 t3 t4 t5 t6 t7
  have H := Lib.hid hh
  clear hh
  go_wp2_with fail
  refine (HWk.out _).mono ?_
  rintro e w3 ⟨rfl, hb⟩
  have hh := H.out.below hb
  clear H hb HFl HDy HWk
  have H := Lib.hid hh
  clear hh
  obtain ⟨t0, t1, t2, t3, t4, t5, t6, t7⟩ := row8p (H.out.rows _ (.head _))
  go_wp2_with fail
  refine (rDays_any _).mono ?_
  rintro e w9 ⟨rfl, hg, hb⟩
  obtain ⟨nm, hnm⟩ : ∃ nm, dayNames.getD k ⟨#[]⟩ = nm := ⟨_, rfl⟩
  have hc := name_cell hg k hk nm hnm
  have hn3 := day_size ⟨k, hk⟩
  simp only [hnm] at hn3
  have HB := Lib.hid (H.out.bel.trans (hb.mono H.out.bel.size))
  have HNM := Lib.hid hnm
  clear hb hg hnm
  go_wp2_with fail
  refine bodyPost_ret (v := .tuple #[.string _, .bool true]) (by simp [results, Tryz.results77, go_sem]; rfl) rfl ⟨?_, HB.out⟩
  rw [HTX.out, nameAt_nat, HNM.out, ← ba_all]
set_option maxRecDepth 100000 in
set_option maxHeartbeats 4000000 in
theorem rpc_98 (Q : PcQ y m d a s) (wd yd : Int) (w : World) : Calls Tryz.prog 77 #[.agg (timeV y m d (a % 86400 / 3600) (a % 86400 / 60 % 60) s wd yd), .int .i64 a, .int .u8 98] w fun e w' => e = .returned (.tuple #[.string ⟨((semP (mkMom y m d a) 98).getD []).toArray⟩, .bool true]) ∧ Below w.heap.size w w' := by
  have hsf := run_store_float Tryz.prog
  obtain ⟨h, i, n, wk, b0, iy, iw, fs, fm, q1, ss, K⟩ := Q.know
  have HTX := Lib.hid (K.txt_98)
  rw [K.eh, K.ei]
  have HFl := Lib.hid (fun w => rfloor_any a 86400 (by have := K.ba; omega) (by have := K.ba; omega) (by omega) (by omega) w)
  rw [K.en] at HFl
  have HDy := Lib.hid (fun w => rDay_yes y 0 1 K.ok1 w)
  rw [K.eb] at HDy
  have HWk := Lib.hid (fun w => rWeeks_of y m d K.ok w)
  rw [K.en2, K.eiy, K.eiw, K.efs, K.efm] at HWk
  obtain ⟨ba, by', bm, bd, bh, bi, bn, bwk, bb, biy, biw, bfs, bfm, bq1, bss⟩ := K.bounds
  have hq1 := K.r1
  have hq2 := K.r2
  have hq3 := K.r3
  have hq4 := K.r4
  have hq5 := K.r5
  have HK := Lib.hid K
  clear K
  obtain ⟨k, rfl⟩ : ∃ k : Nat, m = k := ⟨m.toNat, by omega⟩
  have hk : k < 12 := by omega
  have hk2 : (k : Int) < 12 := by omega
  unfold timeV
  go_enter Tryz.func77, Tryz.ntmps77
  go_wp2_with fail
  have hh := (HW.start w).one #[.int .i64 y, .int .i64 (k : Int), .int .i64 d, .int .i64 h, .int .i64 i, .float .f64 s, .int .i64 wd, .int .i64 yd] 24
  generalize w.alloc (.cells #[.int .i64 y, .int .i64 (k : Int), .int .i64 d, .int .i64 h, .int .i64 i, .float .f64 s, .int .i64 wd, .int .i64 yd] 24) = X0 at hh ⊢
  have H := Lib.hid hh
  clear hh
  refine (HFl.out _).mono ?_
  rintro e w1 ⟨rfl, rfl⟩
  obtain ⟨t0, t1, t2, t3, t4, t5, t6, t7⟩ := row8p (H.out.rows _ (.head _))
  go_wp2_with fail
  refine (HDy.out _).mono ?_
  rintro e w2 ⟨rfl, hb⟩
  have hh := H.out.below hb
  clear H hb t0 t1 t2 t3 t4 t5 t6 t7
  have H := Lib.hid hh
  clear hh
  go_wp2_with fail
  refine (HWk.out _).mono ?_
  rintro e w3 ⟨rfl, hb⟩
  have hh := H.out.below hb
  clear H hb HFl HDy HWk
  have H := Lib.hid hh
  clear hh
  obtain ⟨t0, t1, t2, t3, t4, t5, t6, t7⟩ := row8p (H.out.rows _ (.head _))
  go_wp2_with fail
  obtain ⟨nm, hnm⟩ : ∃ nm, monthNames.getD k ⟨#[]⟩ = nm := ⟨_, rfl⟩
  have hn3 := month_size ⟨k, hk⟩
  simp only [hnm] at hn3
  have hn4 : (3 : Int) ≤ (nm.size : Int) := by omega
  have HNM := Lib.hid hnm
  clear hnm
  go_region_law ((go_simp; go_at_call 129; refine (rMonths12 _).mono ?_; rintro e w9 ⟨rfl, hg, hb0⟩; have hb : Below w3.heap.size w3 w9 := ((Below.refl w3.heap.size w3).drew).trans hb0; have hc : w9.cell? ⟨w3.heap.size, k, none⟩ = some (.string nm) := name_cell (show w9.heap[w3.heap.size]? = _ from hg) k hk nm HNM.out; have H9 := Lib.hid (H.out.below hb); obtain ⟨s0, s1, s2, s3, s4, s5, s6, s7⟩ := row8p (H9.out.rows _ (.head _)); clear hg hb0 hb))
  all_goals
    go_wp2_with fail
    refine bodyPost_ret (v := .tuple #[.string _, .bool true]) (by simp [results, Tryz.results77, go_sem]; rfl) rfl ⟨?_, H9.out.bel⟩
    rw [HTX.out, nameAt_nat, HNM.out, ba_take]
set_option maxRecDepth 100000 in
set_option maxHeartbeats 4000000 in
theorem rpc_104 (Q : PcQ y m d a s) (wd yd : Int) (w : World) : Calls Tryz.prog 77 #[.agg (timeV y m d (a % 86400 / 3600) (a % 86400 / 60 % 60) s wd yd), .int .i64 a, .int .u8 104] w fun e w' => e = .returned (.tuple #[.string ⟨((semP (mkMom y m d a) 104).getD []).toArray⟩, .bool true]) ∧ Below w.heap.size w w' := by
  have hsf := run_store_float Tryz.prog
  obtain ⟨h, i, n, wk, b0, iy, iw, fs, fm, q1, ss, K⟩ := Q.know
  have HTX := Lib.hid (K.txt_104)
  rw [K.eh, K.ei]
  have HFl := Lib.hid (fun w => rfloor_any a 86400 (by have := K.ba; omega) (by have := K.ba; omega) (by omega) (by omega) w)
  rw [K.en] at HFl
  have HDy := Lib.hid (fun w => rDay_yes y 0 1 K.ok1 w)
  rw [K.eb] at HDy
  have HWk := Lib.hid (fun w => rWeeks_of y m d K.ok w)
  rw [K.en2, K.eiy, K.eiw, K.efs, K.efm] at HWk
  obtain ⟨ba, by', bm, bd, bh, bi, bn, bwk, bb, biy, biw, bfs, bfm, bq1, bss⟩ := K.bounds
  have hq1 := K.r1
  have hq2 := K.r2
  have hq3 := K.r3
  have hq4 := K.r4
  have hq5 := K.r5
  have HK := Lib.hid K
  clear K
  obtain ⟨k, rfl⟩ : ∃ k : Nat, m = k := ⟨m.toNat, by omega⟩
  have hk : k < 12 := by omega
  have hk2 : (k : Int) < 12 := by omega
  unfold timeV
  go_enter Tryz.func77, Tryz.ntmps77
  go_wp2_with fail
  have hh := (HW.start w).one #[.int .i64 y, .int .i64 (k : Int), .int .i64 d, .int .i64 h, .int .i64 i, .float .f64 s, .int .i64 wd, .int .i64 yd] 24
  generalize w.alloc (.cells #[.int .i64 y, .int .i64 (k : Int), .int .i64 d, .int .i64 h, .int .i64 i, .float .f64 s, .int .i64 wd, .int .i64 yd] 24) = X0 at hh ⊢
  have H := Lib.hid hh
  clear hh
  refine (HFl.out _).mono ?_
  rintro e w1 ⟨rfl, rfl⟩
  obtain ⟨t0, t1, t2, t3, t4, t5, t6, t7⟩ := row8p (H.out.rows _ (.head _))
  go_wp2_with fail
  refine (HDy.out _).mono ?_
  rintro e w2 ⟨rfl, hb⟩
  have hh := H.out.below hb
  clear H hb t0 t1 t2 t3 t4 t5 t6 t7
  have H := Lib.hid hh
  clear hh
  go_wp2_with fail
  refine (HWk.out _).mono ?_
  rintro e w3 ⟨rfl, hb⟩
  have hh := H.out.below hb
  clear H hb HFl HDy HWk
  have H := Lib.hid hh
  clear hh
  obtain ⟨t0, t1, t2, t3, t4, t5, t6, t7⟩ := row8p (H.out.rows _ (.head _))
  go_wp2_with fail
  obtain ⟨nm, hnm⟩ : ∃ nm, monthNames.getD k ⟨#[]⟩ = nm := ⟨_, rfl⟩
  have hn3 := month_size ⟨k, hk⟩
  simp only [hnm] at hn3
  have hn4 : (3 : Int) ≤ (nm.size : Int) := by omega
  have HNM := Lib.hid hnm
  clear hnm
  go_region_law ((go_simp; go_at_call 129; refine (rMonths12 _).mono ?_; rintro e w9 ⟨rfl, hg, hb0⟩; have hb : Below w3.heap.size w3 w9 := ((Below.refl w3.heap.size w3).drew).trans hb0; have hc : w9.cell? ⟨w3.heap.size, k, none⟩ = some (.string nm) := name_cell (show w9.heap[w3.heap.size]? = _ from hg) k hk nm HNM.out; have H9 := Lib.hid (H.out.below hb); obtain ⟨s0, s1, s2, s3, s4, s5, s6, s7⟩ := row8p (H9.out.rows _ (.head _)); clear hg hb0 hb))
  all_goals
    go_wp2_with fail
    refine bodyPost_ret (v := .tuple #[.string _, .bool true]) (by simp [results, Tryz.results77, go_sem]; rfl) rfl ⟨?_, H9.out.bel⟩
    rw [HTX.out, nameAt_nat, HNM.out, ba_take]
set_option maxRecDepth 100000 in
set_option maxHeartbeats 4000000 in
theorem rpc_66 (Q : PcQ y m d a s) (wd yd : Int) (w : World) : Calls Tryz.prog 77 #[.agg (timeV y m d (a % 86400 / 3600) (a % 86400 / 60 % 60) s wd yd), .int .i64 a, .int .u8 66] w fun e w' => e = .returned (.tuple #[.string ⟨((semP (mkMom y m d a) 66).getD []).toArray⟩, .bool true]) ∧ Below w.heap.size w w' := by
  have hsf := run_store_float Tryz.prog
  obtain ⟨h, i, n, wk, b0, iy, iw, fs, fm, q1, ss, K⟩ := Q.know
  have HTX := Lib.hid (K.txt_66)
  rw [K.eh, K.ei]
  have HFl := Lib.hid (fun w => rfloor_any a 86400 (by have := K.ba; omega) (by have := K.ba; omega) (by omega) (by omega) w)
  rw [K.en] at HFl
  have HDy := Lib.hid (fun w => rDay_yes y 0 1 K.ok1 w)
  rw [K.eb] at HDy
  have HWk := Lib.hid (fun w => rWeeks_of y m d K.ok w)
  rw [K.en2, K.eiy, K.eiw, K.efs, K.efm] at HWk
  obtain ⟨ba, by', bm, bd, bh, bi, bn, bwk, bb, biy, biw, bfs, bfm, bq1, bss⟩ := K.bounds
  have hq1 := K.r1
  have hq2 := K.r2
  have hq3 := K.r3
  have hq4 := K.r4
  have hq5 := K.r5
  have HK := Lib.hid K
  clear K
  obtain ⟨k, rfl⟩ : ∃ k : Nat, m = k := ⟨m.toNat, by omega⟩
  have hk : k < 12 := by omega
  have hk2 : (k : Int) < 12 := by omega
  unfold timeV
  go_enter Tryz.func77, Tryz.ntmps77
  go_wp2_with fail
  have hh := (HW.start w).one #[.int .i64 y, .int .i64 (k : Int), .int .i64 d, .int .i64 h, .int .i64 i, .float .f64 s, .int .i64 wd, .int .i64 yd] 24
  generalize w.alloc (.cells #[.int .i64 y, .int .i64 (k : Int), .int .i64 d, .int .i64 h, .int .i64 i, .float .f64 s, .int .i64 wd, .int .i64 yd] 24) = X0 at hh ⊢
  have H := Lib.hid hh
  clear hh
  refine (HFl.out _).mono ?_
  rintro e w1 ⟨rfl, rfl⟩
  obtain ⟨t0, t1, t2, t3, t4, t5, t6, t7⟩ := row8p (H.out.rows _ (.head _))
  go_wp2_with fail
  refine (HDy.out _).mono ?_
  rintro e w2 ⟨rfl, hb⟩
  have hh := H.out.below hb
  clear H hb t0 t1 t2 t3 t4 t5 t6 t7
  have H := Lib.hid hh
  clear hh
  go_wp2_with fail
  refine (HWk.out _).mono ?_
  rintro e w3 ⟨rfl, hb⟩
  have hh := H.out.below hb
  clear H hb HFl HDy HWk
  have H := Lib.hid hh
  clear hh
  obtain ⟨t0, t1, t2, t3, t4, t5, t6, t7⟩ := row8p (H.out.rows _ (.head _))
  go_wp2_with fail
  obtain ⟨nm, hnm⟩ : ∃ nm, monthNames.getD k ⟨#[]⟩ = nm := ⟨_, rfl⟩
  have hn3 := month_size ⟨k, hk⟩
  simp only [hnm] at hn3
  have hn4 : (3 : Int) ≤ (nm.size : Int) := by omega
  have HNM := Lib.hid hnm
  clear hnm
  go_region_law ((go_simp; go_at_call 129; refine (rMonths12 _).mono ?_; rintro e w9 ⟨rfl, hg, hb0⟩; have hb : Below w3.heap.size w3 w9 := ((Below.refl w3.heap.size w3).drew).trans hb0; have hc : w9.cell? ⟨w3.heap.size, k, none⟩ = some (.string nm) := name_cell (show w9.heap[w3.heap.size]? = _ from hg) k hk nm HNM.out; have H9 := Lib.hid (H.out.below hb); obtain ⟨s0, s1, s2, s3, s4, s5, s6, s7⟩ := row8p (H9.out.rows _ (.head _)); clear hg hb0 hb))
  all_goals
    go_wp2_with fail
    refine bodyPost_ret (v := .tuple #[.string _, .bool true]) (by simp [results, Tryz.results77, go_sem]; rfl) rfl ⟨?_, H9.out.bel⟩
    rw [HTX.out, nameAt_nat, HNM.out, ← ba_all]
set_option maxRecDepth 100000 in
set_option maxHeartbeats 4000000 in
theorem rpc_89 (Q : PcQ y m d a s) (wd yd : Int) (w : World) : Calls Tryz.prog 77 #[.agg (timeV y m d (a % 86400 / 3600) (a % 86400 / 60 % 60) s wd yd), .int .i64 a, .int .u8 89] w fun e w' => e = .returned (.tuple #[.string ⟨((semP (mkMom y m d a) 89).getD []).toArray⟩, .bool true]) ∧ Below w.heap.size w w' := by
  have hsf := run_store_float Tryz.prog
  obtain ⟨h, i, n, wk, b0, iy, iw, fs, fm, q1, ss, K⟩ := Q.know
  have HTX := Lib.hid (K.txt_89)
  rw [K.eh, K.ei]
  have HFl := Lib.hid (fun w => rfloor_any a 86400 (by have := K.ba; omega) (by have := K.ba; omega) (by omega) (by omega) w)
  rw [K.en] at HFl
  have HDy := Lib.hid (fun w => rDay_yes y 0 1 K.ok1 w)
  rw [K.eb] at HDy
  have HWk := Lib.hid (fun w => rWeeks_of y m d K.ok w)
  rw [K.en2, K.eiy, K.eiw, K.efs, K.efm] at HWk
  obtain ⟨ba, by', bm, bd, bh, bi, bn, bwk, bb, biy, biw, bfs, bfm, bq1, bss⟩ := K.bounds
  have hq1 := K.r1
  have hq2 := K.r2
  have hq3 := K.r3
  have hq4 := K.r4
  have hq5 := K.r5
  have HK := Lib.hid K
  clear K
  unfold timeV
  go_enter Tryz.func77, Tryz.ntmps77
  go_wp2_with fail
  have hh := (HW.start w).one #[.int .i64 y, .int .i64 m, .int .i64 d, .int .i64 h, .int .i64 i, .float .f64 s, .int .i64 wd, .int .i64 yd] 24
  generalize w.alloc (.cells #[.int .i64 y, .int .i64 m, .int .i64 d, .int .i64 h, .int .i64 i, .float .f64 s, .int .i64 wd, .int .i64 yd] 24) = X0 at hh ⊢
  have H := Lib.hid hh
  clear hh
  refine (HFl.out _).mono ?_
  rintro e w1 ⟨rfl, rfl⟩
  obtain ⟨t0, t1, t2, t3, t4, t5, t6, t7⟩ := row8p (H.out.rows _ (.head _))
  go_wp2_with fail
  refine (HDy.out _).mono ?_
  rintro e w2 ⟨rfl, hb⟩
  have hh := H.out.below hb
  clear H hb t0 t1 t2 t3 t4 t5 t6 t7
  have H := Lib.hid hh
  clear hh
  go_wp2_with fail
  refine (HWk.out _).mono ?_
  rintro e w3 ⟨rfl, hb⟩
  have hh := H.out.below hb
  clear H hb HFl HDy HWk
  have H := Lib.hid hh
  clear hh
  obtain ⟨t0, t1, t2, t3, t4, t5, t6, t7⟩ := row8p (H.out.rows _ (.head _))
  go_wp2_with fail
  refine (Dec_any y (by omega) (by omega) _).mono ?_
  rintro e w9 ⟨rfl, hb⟩
  have HB := Lib.hid (H.out.bel.trans (hb.mono H.out.bel.size))
  clear hb
  go_wp2_with fail
  refine bodyPost_ret (v := .tuple #[.string _, .bool true]) (by simp [results, Tryz.results77, go_sem]; rfl) rfl ⟨?_, HB.out⟩
  rw [HTX.out, ← dec_pad]
set_option maxRecDepth 100000 in
set_option maxHeartbeats 4000000 in
theorem rpc_67 (Q : PcQ y m d a s) (wd yd : Int) (w : World) : Calls Tryz.prog 77 #[.agg (timeV y m d (a % 86400 / 3600) (a % 86400 / 60 % 60) s wd yd), .int .i64 a, .int .u8 67] w fun e w' => e = .returned (.tuple #[.string ⟨((semP (mkMom y m d a) 67).getD []).toArray⟩, .bool true]) ∧ Below w.heap.size w w' := by
  have hsf := run_store_float Tryz.prog
  obtain ⟨h, i, n, wk, b0, iy, iw, fs, fm, q1, ss, K⟩ := Q.know
  have HTX := Lib.hid (K.txt_67)
  rw [K.eh, K.ei]
  have HFl := Lib.hid (fun w => rfloor_any a 86400 (by have := K.ba; omega) (by have := K.ba; omega) (by omega) (by omega) w)
  rw [K.en] at HFl
  have HDy := Lib.hid (fun w => rDay_yes y 0 1 K.ok1 w)
  rw [K.eb] at HDy
  have HWk := Lib.hid (fun w => rWeeks_of y m d K.ok w)
  rw [K.en2, K.eiy, K.eiw, K.efs, K.efm] at HWk
  obtain ⟨ba, by', bm, bd, bh, bi, bn, bwk, bb, biy, biw, bfs, bfm, bq1, bss⟩ := K.bounds
  have hq1 := K.r1
  have hq2 := K.r2
  have hq3 := K.r3
  have hq4 := K.r4
  have hq5 := K.r5
  have HK := Lib.hid K
  clear K
  unfold timeV
  go_enter Tryz.func77, Tryz.ntmps77
  go_wp2_with fail
  have hh := (HW.start w).one #[.int .i64 y, .int .i64 m, .int .i64 d, .int .i64 h, .int .i64 i, .float .f64 s, .int .i64 wd, .int .i64 yd] 24
  generalize w.alloc (.cells #[.int .i64 y, .int .i64 m, .int .i64 d, .int .i64 h, .int .i64 i, .float .f64 s, .int .i64 wd, .int .i64 yd] 24) = X0 at hh ⊢
  have H := Lib.hid hh
  clear hh
  refine (HFl.out _).mono ?_
  rintro e w1 ⟨rfl, rfl⟩
  obtain ⟨t0, t1, t2, t3, t4, t5, t6, t7⟩ := row8p (H.out.rows _ (.head _))
  go_wp2_with fail
  refine (HDy.out _).mono ?_
  rintro e w2 ⟨rfl, hb⟩
  have hh := H.out.below hb
  clear H hb t0 t1 t2 t3 t4 t5 t6 t7
  have H := Lib.hid hh
  clear hh
  go_wp2_with fail
  refine (HWk.out _).mono ?_
  rintro e w3 ⟨rfl, hb⟩
  have hh := H.out.below hb
  clear H hb HFl HDy HWk
  have H := Lib.hid hh
  clear hh
  obtain ⟨t0, t1, t2, t3, t4, t5, t6, t7⟩ := row8p (H.out.rows _ (.head _))
  go_wp2_with fail
  refine (rcentury_any y (by omega) (by omega) _).mono ?_
  rintro e w9 ⟨rfl, hb⟩
  have HB := Lib.hid (H.out.bel.trans (hb.mono H.out.bel.size))
  clear hb
  go_wp2_with fail
  refine bodyPost_ret (v := .tuple #[.string _, .bool true]) (by simp [results, Tryz.results77, go_sem]; rfl) rfl ⟨?_, HB.out⟩
  rw [HTX.out]
  all_goals rfl
set_option maxRecDepth 100000 in
set_option maxHeartbeats 4000000 in
theorem rpc_121 (Q : PcQ y m d a s) (wd yd : Int) (w : World) : Calls Tryz.prog 77 #[.agg (timeV y m d (a % 86400 / 3600) (a % 86400 / 60 % 60) s wd yd), .int .i64 a, .int .u8 121] w fun e w' => e = .returned (.tuple #[.string ⟨((semP (mkMom y m d a) 121).getD []).toArray⟩, .bool true]) ∧ Below w.heap.size w w' := by
  have hsf := run_store_float Tryz.prog
  obtain ⟨h, i, n, wk, b0, iy, iw, fs, fm, q1, ss, K⟩ := Q.know
  have HTX := Lib.hid (K.txt_121)
  rw [K.eh, K.ei]
  have HFl := Lib.hid (fun w => rfloor_any a 86400 (by have := K.ba; omega) (by have := K.ba; omega) (by omega) (by omega) w)
  rw [K.en] at HFl
  have HDy := Lib.hid (fun w => rDay_yes y 0 1 K.ok1 w)
  rw [K.eb] at HDy
  have HWk := Lib.hid (fun w => rWeeks_of y m d K.ok w)
  rw [K.en2, K.eiy, K.eiw, K.efs, K.efm] at HWk
  obtain ⟨ba, by', bm, bd, bh, bi, bn, bwk, bb, biy, biw, bfs, bfm, bq1, bss⟩ := K.bounds
  have hq1 := K.r1
  have hq2 := K.r2
  have hq3 := K.r3
  have hq4 := K.r4
  have hq5 := K.r5
  have HK := Lib.hid K
  clear K
  unfold timeV
  go_enter Tryz.func77, Tryz.ntmps77
  go_wp2_with fail
  have hh := (HW.start w).one #[.int .i64 y, .int .i64 m, .int .i64 d, .int .i64 h, .int .i64 i, .float .f64 s, .int .i64 wd, .int .i64 yd] 24
  generalize w.alloc (.cells #[.int .i64 y, .int .i64 m, .int .i64 d, .int .i64 h, .int .i64 i, .float .f64 s, .int .i64 wd, .int .i64 yd] 24) = X0 at hh ⊢
  have H := Lib.hid hh
  clear hh
  refine (HFl.out _).mono ?_
  rintro e w1 ⟨rfl, rfl⟩
  obtain ⟨t0, t1, t2, t3, t4, t5, t6, t7⟩ := row8p (H.out.rows _ (.head _))
  go_wp2_with fail
  refine (HDy.out _).mono ?_
  rintro e w2 ⟨rfl, hb⟩
  have hh := H.out.below hb
  clear H hb t0 t1 t2 t3 t4 t5 t6 t7
  have H := Lib.hid hh
  clear hh
  go_wp2_with fail
  refine (HWk.out _).mono ?_
  rintro e w3 ⟨rfl, hb⟩
  have hh := H.out.below hb
  clear H hb HFl HDy HWk
  have H := Lib.hid hh
  clear hh
  obtain ⟨t0, t1, t2, t3, t4, t5, t6, t7⟩ := row8p (H.out.rows _ (.head _))
  go_wp2_with fail
  have HFY := Lib.hid (fun w => rfloor_any y 100 (by omega) (by omega) (by omega) (by omega) w)
  have hc1 : -100 ≤ y / 100 ∧ y / 100 ≤ 99 ∧ 0 ≤ y - 100 * (y / 100) ∧ y - 100 * (y / 100) ≤ 99 := by omega
  obtain ⟨c, hc⟩ : ∃ c, y / 100 = c := ⟨_, rfl⟩
  rw [hc] at HFY HTX hc1
  clear hc
  have HTW := Lib.hid (fun w => rtwo_any (y - 100 * c) (by omega) (by omega) w)
  rw [show y - 100 * c = IntKind.i64.wrap (y - IntKind.i64.wrap (100 * c)) from by rw [kwrap (100 * c) (by omega) (by omega), kwrap _ (by omega) (by omega)]] at HTW HTX
  go_region_held3 (fun W => W.cell? ⟨w.heap.size, 0, none⟩ = some (.int .i64 y)) (first | with_reducible exact pc_y H.out | with_reducible exact pc_y H.out.drewH) (first | (go_at_call 132; (with_reducible refine (HTW.out _).mono ?_); rintro e w9 ⟨rfl, hb0⟩; have H9 : HW w w9 [(w.heap.size, #[.int .i64 y, .int .i64 m, .int .i64 d, .int .i64 h, .int .i64 i, .float .f64 s, .int .i64 wd, .int .i64 yd], 24)] := (by first | with_reducible exact H.out.below hb0 | with_reducible exact H.out.drewH.below hb0); clear H; have H := Lib.hid H9; clear H9 hb0) | (go_at_call 126; (with_reducible refine (HFY.out _).mono ?_); rintro e w8 ⟨rfl, rfl⟩))
  all_goals
    go_wp2_with fail
    refine bodyPost_ret (v := .tuple #[.string _, .bool true]) (by simp [results, Tryz.results77, go_sem]; rfl) rfl ⟨?_, H.out.bel⟩
    rw [HTX.out]
set_option maxRecDepth 100000 in
set_option maxHeartbeats 4000000 in
theorem rpc_109 (Q : PcQ y m d a s) (wd yd : Int) (w : World) : Calls Tryz.prog 77 #[.agg (timeV y m d (a % 86400 / 3600) (a % 86400 / 60 % 60) s wd yd), .int .i64 a, .int .u8 109] w fun e w' => e = .returned (.tuple #[.string ⟨((semP (mkMom y m d a) 109).getD []).toArray⟩, .bool true]) ∧ Below w.heap.size w w' := by
  have hsf := run_store_float Tryz.prog
  obtain ⟨h, i, n, wk, b0, iy, iw, fs, fm, q1, ss, K⟩ := Q.know
  have HTX := Lib.hid (K.txt_109)
  rw [K.eh, K.ei]
  have HFl := Lib.hid (fun w => rfloor_any a 86400 (by have := K.ba; omega) (by have := K.ba; omega) (by omega) (by omega) w)
  rw [K.en] at HFl
  have HDy := Lib.hid (fun w => rDay_yes y 0 1 K.ok1 w)
  rw [K.eb] at HDy
  have HWk := Lib.hid (fun w => rWeeks_of y m d K.ok w)
  rw [K.en2, K.eiy, K.eiw, K.efs, K.efm] at HWk
  obtain ⟨ba, by', bm, bd, bh, bi, bn, bwk, bb, biy, biw, bfs, bfm, bq1, bss⟩ := K.bounds
  have hq1 := K.r1
  have hq2 := K.r2
  have hq3 := K.r3
  have hq4 := K.r4
  have hq5 := K.r5
  have HK := Lib.hid K
  clear K
  unfold timeV
  go_enter Tryz.func77, Tryz.ntmps77
  go_wp2_with fail
  have hh := (HW.start w).one #[.int .i64 y, .int .i64 m, .int .i64 d, .int .i64 h, .int .i64 i, .float .f64 s, .int .i64 wd, .int .i64 yd] 24
  generalize w.alloc (.cells #[.int .i64 y, .int .i64 m, .int .i64 d, .int .i64 h, .int .i64 i, .float .f64 s, .int .i64 wd, .int .i64 yd] 24) = X0 at hh ⊢
  have H := Lib.hid hh
  clear hh
  refine (HFl.out _).mono ?_
  rintro e w1 ⟨rfl, rfl⟩
  obtain ⟨t0, t1, t2, t3, t4, t5, t6, t7⟩ := row8p (H.out.rows _ (.head _))
  go_wp2_with fail
  refine (HDy.out _).mono ?_
  rintro e w2 ⟨rfl, hb⟩
  have hh := H.out.below hb
  clear H hb t0 t1 t2 t3 t4 t5 t6 t7
  have H := Lib.hid hh
  clear hh
  go_wp2_with fail
  refine (HWk.out _).mono ?_
  rintro e w3 ⟨rfl, hb⟩
  have hh := H.out.below hb
  clear H hb HFl HDy HWk
  have H := Lib.hid hh
  clear hh
  obtain ⟨t0, t1, t2, t3, t4, t5, t6, t7⟩ := row8p (H.out.rows _ (.head _))
  go_wp2_with fail
  refine (rtwo_any (m + 1) (by omega) (by omega) _).mono ?_
  rintro e w9 ⟨rfl, hb⟩
  have HB := Lib.hid (H.out.bel.trans (hb.mono H.out.bel.size))
  clear hb
  go_wp2_with fail
  refine bodyPost_ret (v := .tuple #[.string _, .bool true]) (by simp [results, Tryz.results77, go_sem]; rfl) rfl ⟨?_, HB.out⟩
  rw [HTX.out]
  all_goals rfl
set_option maxRecDepth 100000 in
set_option maxHeartbeats 4000000 in
theorem rpc_100 (Q : PcQ y m d a s) (wd yd : Int) (w : World) : Calls Tryz.prog 77 #[.agg (timeV y m d (a % 86400 / 3600) (a % 86400 / 60 % 60) s wd yd), .int .i64 a, .int .u8 100] w fun e w' => e = .returned (.tuple #[.string ⟨((semP (mkMom y m d a) 100).getD []).toArray⟩, .bool true]) ∧ Below w.heap.size w w' := by
  have hsf := run_store_float Tryz.prog
  obtain ⟨h, i, n, wk, b0, iy, iw, fs, fm, q1, ss, K⟩ := Q.know
  have HTX := Lib.hid (K.txt_100)
  rw [K.eh, K.ei]
  have HFl := Lib.hid (fun w => rfloor_any a 86400 (by have := K.ba; omega) (by have := K.ba; omega) (by omega) (by omega) w)
  rw [K.en] at HFl
  have HDy := Lib.hid (fun w => rDay_yes y 0 1 K.ok1 w)
  rw [K.eb] at HDy
  have HWk := Lib.hid (fun w => rWeeks_of y m d K.ok w)
  rw [K.en2, K.eiy, K.eiw, K.efs, K.efm] at HWk
  obtain ⟨ba, by', bm, bd, bh, bi, bn, bwk, bb, biy, biw, bfs, bfm, bq1, bss⟩ := K.bounds
  have hq1 := K.r1
  have hq2 := K.r2
  have hq3 := K.r3
  have hq4 := K.r4
  have hq5 := K.r5
  have HK := Lib.hid K
  clear K
  unfold timeV
  go_enter Tryz.func77, Tryz.ntmps77
  go_wp2_with fail
  have hh := (HW.start w).one #[.int .i64 y, .int .i64 m, .int .i64 d, .int .i64 h, .int .i64 i, .float .f64 s, .int .i64 wd, .int .i64 yd] 24
  generalize w.alloc (.cells #[.int .i64 y, .int .i64 m, .int .i64 d, .int .i64 h, .int .i64 i, .float .f64 s, .int .i64 wd, .int .i64 yd] 24) = X0 at hh ⊢
  have H := Lib.hid hh
  clear hh
  refine (HFl.out _).mono ?_
  rintro e w1 ⟨rfl, rfl⟩
  obtain ⟨t0, t1, t2, t3, t4, t5, t6, t7⟩ := row8p (H.out.rows _ (.head _))
  go_wp2_with fail
  refine (HDy.out _).mono ?_
  rintro e w2 ⟨rfl, hb⟩
  have hh := H.out.below hb
  clear H hb t0 t1 t2 t3 t4 t5 t6 t7
  have H := Lib.hid hh
  clear hh
  go_wp2_with fail
  refine (HWk.out _).mono ?_
  rintro e w3 ⟨rfl, hb⟩
  have hh := H.out.below hb
  clear H hb HFl HDy HWk
  have H := Lib.hid hh
  clear hh
  obtain ⟨t0, t1, t2, t3, t4, t5, t6, t7⟩ := row8p (H.out.rows _ (.head _))
  go_wp2_with fail
  refine (rtwo_any d (by omega) (by omega) _).mono ?_
  rintro e w9 ⟨rfl, hb⟩
  have HB := Lib.hid (H.out.bel.trans (hb.mono H.out.bel.size))
  clear hb
  go_wp2_with fail
  refine bodyPost_ret (v := .tuple #[.string _, .bool true]) (by simp [results, Tryz.results77, go_sem]; rfl) rfl ⟨?_, HB.out⟩
  rw [HTX.out]
  all_goals rfl
set_option maxRecDepth 100000 in
set_option maxHeartbeats 4000000 in
theorem rpc_101 (Q : PcQ y m d a s) (wd yd : Int) (w : World) : Calls Tryz.prog 77 #[.agg (timeV y m d (a % 86400 / 3600) (a % 86400 / 60 % 60) s wd yd), .int .i64 a, .int .u8 101] w fun e w' => e = .returned (.tuple #[.string ⟨((semP (mkMom y m d a) 101).getD []).toArray⟩, .bool true]) ∧ Below w.heap.size w w' := by
  have hsf := run_store_float Tryz.prog
  obtain ⟨h, i, n, wk, b0, iy, iw, fs, fm, q1, ss, K⟩ := Q.know
  have HTX := Lib.hid (K.txt_101)
  rw [K.eh, K.ei]
  have HFl := Lib.hid (fun w => rfloor_any a 86400 (by have := K.ba; omega) (by have := K.ba; omega) (by omega) (by omega) w)
  rw [K.en] at HFl
  have HDy := Lib.hid (fun w => rDay_yes y 0 1 K.ok1 w)
  rw [K.eb] at HDy
  have HWk := Lib.hid (fun w => rWeeks_of y m d K.ok w)
  rw [K.en2, K.eiy, K.eiw, K.efs, K.efm] at HWk
  obtain ⟨ba, by', bm, bd, bh, bi, bn, bwk, bb, biy, biw, bfs, bfm, bq1, bss⟩ := K.bounds
  have hq1 := K.r1
  have hq2 := K.r2
  have hq3 := K.r3
  have hq4 := K.r4
  have hq5 := K.r5
  have HK := Lib.hid K
  clear K
  unfold timeV
  go_enter Tryz.func77, Tryz.ntmps77
  go_wp2_with fail
  have hh := (HW.start w).one #[.int .i64 y, .int .i64 m, .int .i64 d, .int .i64 h, .int .i64 i, .float .f64 s, .int .i64 wd, .int .i64 yd] 24
  generalize w.alloc (.cells #[.int .i64 y, .int .i64 m, .int .i64 d, .int .i64 h, .int .i64 i, .float .f64 s, .int .i64 wd, .int .i64 yd] 24) = X0 at hh ⊢
  have H := Lib.hid hh
  clear hh
  refine (HFl.out _).mono ?_
  rintro e w1 ⟨rfl, rfl⟩
  obtain ⟨t0, t1, t2, t3, t4, t5, t6, t7⟩ := row8p (H.out.rows _ (.head _))
  go_wp2_with fail
  refine (HDy.out _).mono ?_
  rintro e w2 ⟨rfl, hb⟩
  have hh := H.out.below hb
  clear H hb t0 t1 t2 t3 t4 t5 t6 t7
  have H := Lib.hid hh
  clear hh
  go_wp2_with fail
  refine (HWk.out _).mono ?_
  rintro e w3 ⟨rfl, hb⟩
  have hh := H.out.below hb
  clear H hb HFl HDy HWk
  have H := Lib.hid hh
  clear hh
  obtain ⟨t0, t1, t2, t3, t4, t5, t6, t7⟩ := row8p (H.out.rows _ (.head _))
  go_wp2_with fail
  refine (rpad_any d (by omega) (by omega) 2 (by omega) 32 _).mono ?_
  rintro e w9 ⟨rfl, hb⟩
  have HB := Lib.hid (H.out.bel.trans (hb.mono H.out.bel.size))
  clear hb
  go_wp2_with fail
  refine bodyPost_ret (v := .tuple #[.string _, .bool true]) (by simp [results, Tryz.results77, go_sem]; rfl) rfl ⟨?_, HB.out⟩
  rw [HTX.out]
  all_goals rfl
end Go.Proofs.YtebekdgoabhekaaGreatDoor

/- The document's piece: directives B. -/
import Derived.Test.YtebekdgoabhekaaGreatDoorLBB
namespace Go.Proofs.YtebekdgoabhekaaGreatDoor
open Go Go.RowKit Go.Shelf
variable {y m d a : Int} {s : Nat}

set_option maxRecDepth 100000 in
set_option maxHeartbeats 4000000 in
theorem rpc_72 (Q : PcQ y m d a s) (wd yd : Int) (w : World) : Calls Tryz.prog 77 #[.agg (timeV y m d (a % 86400 / 3600) (a % 86400 / 60 % 60) s wd yd), .int .i64 a, .int .u8 72] w fun e w' => e = .returned (.tuple #[.string ⟨((semP (mkMom y m d a) 72).getD []).toArray⟩, .bool true]) ∧ Below w.heap.size w w' := by
  have hsf := run_store_float Tryz.prog
  obtain ⟨h, i, n, wk, b0, iy, iw, fs, fm, q1, ss, K⟩ := Q.know
  have HTX := Lib.hid (K.txt_72)
  rw [K.eh, K.ei]
  have HFl := Lib.hid (fun w => rfloor_any a 86400 (by have := K.ba; omega) (by have := K.ba; omega) (by omega) (by omega) w)
  rw [K.en] at HFl
  have HDy := Lib.hid (fun w => rDay_yes y 0 1 K.ok1 w)
  rw [K.eb] at HDy
  have HWk := Lib.hid (fun w => rWeeks_of y m d K.ok w)
  rw [K.en2, K.eiy, K.eiw, K.efs, K.efm] at HWk
  obtain ⟨ba, by', bm, bd, bh, bi, bn, bwk, bb, biy, biw, bfs, bfm, bq1, bss⟩ := K.bounds
  have hq1 := K.r1
  have hq2 := K.r2
  have hq3 := K.r3
  have hq4 := K.r4
  have hq5 := K.r5
  have HK := Lib.hid K
  clear K
  unfold timeV
  go_enter Tryz.func77, Tryz.ntmps77
  go_wp2_with fail
  have hh := (HW.start w).one #[.int .i64 y, .int .i64 m, .int .i64 d, .int .i64 h, .int .i64 i, .float .f64 s, .int .i64 wd, .int .i64 yd] 24
  generalize w.alloc (.cells #[.int .i64 y, .int .i64 m, .int .i64 d, .int .i64 h, .int .i64 i, .float .f64 s, .int .i64 wd, .int .i64 yd] 24) = X0 at hh ⊢
  have H := Lib.hid hh
  clear hh
  refine (HFl.out _).mono ?_
  rintro e w1 ⟨rfl, rfl⟩
  obtain ⟨t0, t1, t2, t3, t4, t5, t6, t7⟩ := row8p (H.out.rows _ (.head _))
  go_wp2_with fail
  refine (HDy.out _).mono ?_
  rintro e w2 ⟨rfl, hb⟩
  have hh := H.out.below hb
  clear H hb t0 t1 t2 t3 t4 t5 t6 t7
  have H := Lib.hid hh
  clear hh
  go_wp2_with fail
  refine (HWk.out _).mono ?_
  rintro e w3 ⟨rfl, hb⟩
  have hh := H.out.below hb
  clear H hb HFl HDy HWk
  have H := Lib.hid hh
  clear hh
  obtain ⟨t0, t1, t2, t3, t4, t5, t6, t7⟩ := row8p (H.out.rows _ (.head _))
  go_wp2_with fail
  refine (rtwo_any h (by omega) (by omega) _).mono ?_
  rintro e w9 ⟨rfl, hb⟩
  have HB := Lib.hid (H.out.bel.trans (hb.mono H.out.bel.size))
  clear hb
  go_wp2_with fail
  refine bodyPost_ret (v := .tuple #[.string _, .bool true]) (by simp [results, Tryz.results77, go_sem]; rfl) rfl ⟨?_, HB.out⟩
  rw [HTX.out]
  all_goals rfl
set_option maxRecDepth 100000 in
set_option maxHeartbeats 4000000 in
theorem rpc_107 (Q : PcQ y m d a s) (wd yd : Int) (w : World) : Calls Tryz.prog 77 #[.agg (timeV y m d (a % 86400 / 3600) (a % 86400 / 60 % 60) s wd yd), .int .i64 a, .int .u8 107] w fun e w' => e = .returned (.tuple #[.string ⟨((semP (mkMom y m d a) 107).getD []).toArray⟩, .bool true]) ∧ Below w.heap.size w w' := by
  have hsf := run_store_float Tryz.prog
  obtain ⟨h, i, n, wk, b0, iy, iw, fs, fm, q1, ss, K⟩ := Q.know
  have HTX := Lib.hid (K.txt_107)
  rw [K.eh, K.ei]
  have HFl := Lib.hid (fun w => rfloor_any a 86400 (by have := K.ba; omega) (by have := K.ba; omega) (by omega) (by omega) w)
  rw [K.en] at HFl
  have HDy := Lib.hid (fun w => rDay_yes y 0 1 K.ok1 w)
  rw [K.eb] at HDy
  have HWk := Lib.hid (fun w => rWeeks_of y m d K.ok w)
  rw [K.en2, K.eiy, K.eiw, K.efs, K.efm] at HWk
  obtain ⟨ba, by', bm, bd, bh, bi, bn, bwk, bb, biy, biw, bfs, bfm, bq1, bss⟩ := K.bounds
  have hq1 := K.r1
  have hq2 := K.r2
  have hq3 := K.r3
  have hq4 := K.r4
  have hq5 := K.r5
  have HK := Lib.hid K
  clear K
  unfold timeV
  go_enter Tryz.func77, Tryz.ntmps77
  go_wp2_with fail
  have hh := (HW.start w).one #[.int .i64 y, .int .i64 m, .int .i64 d, .int .i64 h, .int .i64 i, .float .f64 s, .int .i64 wd, .int .i64 yd] 24
  generalize w.alloc (.cells #[.int .i64 y, .int .i64 m, .int .i64 d, .int .i64 h, .int .i64 i, .float .f64 s, .int .i64 wd, .int .i64 yd] 24) = X0 at hh ⊢
  have H := Lib.hid hh
  clear hh
  refine (HFl.out _).mono ?_
  rintro e w1 ⟨rfl, rfl⟩
  obtain ⟨t0, t1, t2, t3, t4, t5, t6, t7⟩ := row8p (H.out.rows _ (.head _))
  go_wp2_with fail
  refine (HDy.out _).mono ?_
  rintro e w2 ⟨rfl, hb⟩
  have hh := H.out.below hb
  clear H hb t0 t1 t2 t3 t4 t5 t6 t7
  have H := Lib.hid hh
  clear hh
  go_wp2_with fail
  refine (HWk.out _).mono ?_
  rintro e w3 ⟨rfl, hb⟩
  have hh := H.out.below hb
  clear H hb HFl HDy HWk
  have H := Lib.hid hh
  clear hh
  obtain ⟨t0, t1, t2, t3, t4, t5, t6, t7⟩ := row8p (H.out.rows _ (.head _))
  go_wp2_with fail
  refine (rpad_any h (by omega) (by omega) 2 (by omega) 32 _).mono ?_
  rintro e w9 ⟨rfl, hb⟩
  have HB := Lib.hid (H.out.bel.trans (hb.mono H.out.bel.size))
  clear hb
  go_wp2_with fail
  refine bodyPost_ret (v := .tuple #[.string _, .bool true]) (by simp [results, Tryz.results77, go_sem]; rfl) rfl ⟨?_, HB.out⟩
  rw [HTX.out]
  all_goals rfl
set_option maxRecDepth 100000 in
set_option maxHeartbeats 4000000 in
theorem rpc_73 (Q : PcQ y m d a s) (wd yd : Int) (w : World) : Calls Tryz.prog 77 #[.agg (timeV y m d (a % 86400 / 3600) (a % 86400 / 60 % 60) s wd yd), .int .i64 a, .int .u8 73] w fun e w' => e = .returned (.tuple #[.string ⟨((semP (mkMom y m d a) 73).getD []).toArray⟩, .bool true]) ∧ Below w.heap.size w w' := by
  have hsf := run_store_float Tryz.prog
  obtain ⟨h, i, n, wk, b0, iy, iw, fs, fm, q1, ss, K⟩ := Q.know
  have HTX := Lib.hid (K.txt_73)
  rw [K.eh, K.ei]
  have HFl := Lib.hid (fun w => rfloor_any a 86400 (by have := K.ba; omega) (by have := K.ba; omega) (by omega) (by omega) w)
  rw [K.en] at HFl
  have HDy := Lib.hid (fun w => rDay_yes y 0 1 K.ok1 w)
  rw [K.eb] at HDy
  have HWk := Lib.hid (fun w => rWeeks_of y m d K.ok w)
  rw [K.en2, K.eiy, K.eiw, K.efs, K.efm] at HWk
  obtain ⟨ba, by', bm, bd, bh, bi, bn, bwk, bb, biy, biw, bfs, bfm, bq1, bss⟩ := K.bounds
  have hq1 := K.r1
  have hq2 := K.r2
  have hq3 := K.r3
  have hq4 := K.r4
  have hq5 := K.r5
  have HK := Lib.hid K
  clear K
  unfold timeV
  go_enter Tryz.func77, Tryz.ntmps77
  go_wp2_with fail
  have hh := (HW.start w).one #[.int .i64 y, .int .i64 m, .int .i64 d, .int .i64 h, .int .i64 i, .float .f64 s, .int .i64 wd, .int .i64 yd] 24
  generalize w.alloc (.cells #[.int .i64 y, .int .i64 m, .int .i64 d, .int .i64 h, .int .i64 i, .float .f64 s, .int .i64 wd, .int .i64 yd] 24) = X0 at hh ⊢
  have H := Lib.hid hh
  clear hh
  refine (HFl.out _).mono ?_
  rintro e w1 ⟨rfl, rfl⟩
  obtain ⟨t0, t1, t2, t3, t4, t5, t6, t7⟩ := row8p (H.out.rows _ (.head _))
  go_wp2_with fail
  refine (HDy.out _).mono ?_
  rintro e w2 ⟨rfl, hb⟩
  have hh := H.out.below hb
  clear H hb t0 t1 t2 t3 t4 t5 t6 t7
  have H := Lib.hid hh
  clear hh
  go_wp2_with fail
  refine (HWk.out _).mono ?_
  rintro e w3 ⟨rfl, hb⟩
  have hh := H.out.below hb
  clear H hb HFl HDy HWk
  have H := Lib.hid hh
  clear hh
  obtain ⟨t0, t1, t2, t3, t4, t5, t6, t7⟩ := row8p (H.out.rows _ (.head _))
  go_wp2_with fail
  refine (rtwo_any _ (by omega) (by omega) _).mono ?_
  rintro e w9 ⟨rfl, hb⟩
  have HB := Lib.hid (H.out.bel.trans (hb.mono H.out.bel.size))
  clear hb
  go_wp2_with fail
  refine bodyPost_ret (v := .tuple #[.string _, .bool true]) (by simp [results, Tryz.results77, go_sem]; rfl) rfl ⟨?_, HB.out⟩
  rw [HTX.out]
  all_goals rfl
set_option maxRecDepth 100000 in
set_option maxHeartbeats 4000000 in
theorem rpc_108 (Q : PcQ y m d a s) (wd yd : Int) (w : World) : Calls Tryz.prog 77 #[.agg (timeV y m d (a % 86400 / 3600) (a % 86400 / 60 % 60) s wd yd), .int .i64 a, .int .u8 108] w fun e w' => e = .returned (.tuple #[.string ⟨((semP (mkMom y m d a) 108).getD []).toArray⟩, .bool true]) ∧ Below w.heap.size w w' := by
  have hsf := run_store_float Tryz.prog
  obtain ⟨h, i, n, wk, b0, iy, iw, fs, fm, q1, ss, K⟩ := Q.know
  have HTX := Lib.hid (K.txt_108)
  rw [K.eh, K.ei]
  have HFl := Lib.hid (fun w => rfloor_any a 86400 (by have := K.ba; omega) (by have := K.ba; omega) (by omega) (by omega) w)
  rw [K.en] at HFl
  have HDy := Lib.hid (fun w => rDay_yes y 0 1 K.ok1 w)
  rw [K.eb] at HDy
  have HWk := Lib.hid (fun w => rWeeks_of y m d K.ok w)
  rw [K.en2, K.eiy, K.eiw, K.efs, K.efm] at HWk
  obtain ⟨ba, by', bm, bd, bh, bi, bn, bwk, bb, biy, biw, bfs, bfm, bq1, bss⟩ := K.bounds
  have hq1 := K.r1
  have hq2 := K.r2
  have hq3 := K.r3
  have hq4 := K.r4
  have hq5 := K.r5
  have HK := Lib.hid K
  clear K
  unfold timeV
  go_enter Tryz.func77, Tryz.ntmps77
  go_wp2_with fail
  have hh := (HW.start w).one #[.int .i64 y, .int .i64 m, .int .i64 d, .int .i64 h, .int .i64 i, .float .f64 s, .int .i64 wd, .int .i64 yd] 24
  generalize w.alloc (.cells #[.int .i64 y, .int .i64 m, .int .i64 d, .int .i64 h, .int .i64 i, .float .f64 s, .int .i64 wd, .int .i64 yd] 24) = X0 at hh ⊢
  have H := Lib.hid hh
  clear hh
  refine (HFl.out _).mono ?_
  rintro e w1 ⟨rfl, rfl⟩
  obtain ⟨t0, t1, t2, t3, t4, t5, t6, t7⟩ := row8p (H.out.rows _ (.head _))
  go_wp2_with fail
  refine (HDy.out _).mono ?_
  rintro e w2 ⟨rfl, hb⟩
  have hh := H.out.below hb
  clear H hb t0 t1 t2 t3 t4 t5 t6 t7
  have H := Lib.hid hh
  clear hh
  go_wp2_with fail
  refine (HWk.out _).mono ?_
  rintro e w3 ⟨rfl, hb⟩
  have hh := H.out.below hb
  clear H hb HFl HDy HWk
  have H := Lib.hid hh
  clear hh
  obtain ⟨t0, t1, t2, t3, t4, t5, t6, t7⟩ := row8p (H.out.rows _ (.head _))
  go_wp2_with fail
  refine (rpad_any _ (by omega) (by omega) 2 (by omega) 32 _).mono ?_
  rintro e w9 ⟨rfl, hb⟩
  have HB := Lib.hid (H.out.bel.trans (hb.mono H.out.bel.size))
  clear hb
  go_wp2_with fail
  refine bodyPost_ret (v := .tuple #[.string _, .bool true]) (by simp [results, Tryz.results77, go_sem]; rfl) rfl ⟨?_, HB.out⟩
  rw [HTX.out]
  all_goals rfl
set_option maxRecDepth 100000 in
set_option maxHeartbeats 4000000 in
theorem rpc_77 (Q : PcQ y m d a s) (wd yd : Int) (w : World) : Calls Tryz.prog 77 #[.agg (timeV y m d (a % 86400 / 3600) (a % 86400 / 60 % 60) s wd yd), .int .i64 a, .int .u8 77] w fun e w' => e = .returned (.tuple #[.string ⟨((semP (mkMom y m d a) 77).getD []).toArray⟩, .bool true]) ∧ Below w.heap.size w w' := by
  have hsf := run_store_float Tryz.prog
  obtain ⟨h, i, n, wk, b0, iy, iw, fs, fm, q1, ss, K⟩ := Q.know
  have HTX := Lib.hid (K.txt_77)
  rw [K.eh, K.ei]
  have HFl := Lib.hid (fun w => rfloor_any a 86400 (by have := K.ba; omega) (by have := K.ba; omega) (by omega) (by omega) w)
  rw [K.en] at HFl
  have HDy := Lib.hid (fun w => rDay_yes y 0 1 K.ok1 w)
  rw [K.eb] at HDy
  have HWk := Lib.hid (fun w => rWeeks_of y m d K.ok w)
  rw [K.en2, K.eiy, K.eiw, K.efs, K.efm] at HWk
  obtain ⟨ba, by', bm, bd, bh, bi, bn, bwk, bb, biy, biw, bfs, bfm, bq1, bss⟩ := K.bounds
  have hq1 := K.r1
  have hq2 := K.r2
  have hq3 := K.r3
  have hq4 := K.r4
  have hq5 := K.r5
  have HK := Lib.hid K
  clear K
  unfold timeV
  go_enter Tryz.func77, Tryz.ntmps77
  go_wp2_with fail
  have hh := (HW.start w).one #[.int .i64 y, .int .i64 m, .int .i64 d, .int .i64 h, .int .i64 i, .float .f64 s, .int .i64 wd, .int .i64 yd] 24
  generalize w.alloc (.cells #[.int .i64 y, .int .i64 m, .int .i64 d, .int .i64 h, .int .i64 i, .float .f64 s, .int .i64 wd, .int .i64 yd] 24) = X0 at hh ⊢
  have H := Lib.hid hh
  clear hh
  refine (HFl.out _).mono ?_
  rintro e w1 ⟨rfl, rfl⟩
  obtain ⟨t0, t1, t2, t3, t4, t5, t6, t7⟩ := row8p (H.out.rows _ (.head _))
  go_wp2_with fail
  refine (HDy.out _).mono ?_
  rintro e w2 ⟨rfl, hb⟩
  have hh := H.out.below hb
  clear H hb t0 t1 t2 t3 t4 t5 t6 t7
  have H := Lib.hid hh
  clear hh
  go_wp2_with fail
  refine (HWk.out _).mono ?_
  rintro e w3 ⟨rfl, hb⟩
  have hh := H.out.below hb
  clear H hb HFl HDy HWk
  have H := Lib.hid hh
  clear hh
  obtain ⟨t0, t1, t2, t3, t4, t5, t6, t7⟩ := row8p (H.out.rows _ (.head _))
  go_wp2_with fail
  refine (rtwo_any i (by omega) (by omega) _).mono ?_
  rintro e w9 ⟨rfl, hb⟩
  have HB := Lib.hid (H.out.bel.trans (hb.mono H.out.bel.size))
  clear hb
  go_wp2_with fail
  refine bodyPost_ret (v := .tuple #[.string _, .bool true]) (by simp [results, Tryz.results77, go_sem]; rfl) rfl ⟨?_, HB.out⟩
  rw [HTX.out]
  all_goals rfl
set_option maxRecDepth 100000 in
set_option maxHeartbeats 4000000 in
theorem rpc_83 (Q : PcQ y m d a s) (wd yd : Int) (w : World) : Calls Tryz.prog 77 #[.agg (timeV y m d (a % 86400 / 3600) (a % 86400 / 60 % 60) s wd yd), .int .i64 a, .int .u8 83] w fun e w' => e = .returned (.tuple #[.string ⟨((semP (mkMom y m d a) 83).getD []).toArray⟩, .bool true]) ∧ Below w.heap.size w w' := by
  have hsf := run_store_float Tryz.prog
  obtain ⟨h, i, n, wk, b0, iy, iw, fs, fm, q1, ss, K⟩ := Q.know
  have HTX := Lib.hid (K.txt_83)
  rw [K.eh, K.ei]
  have HFl := Lib.hid (fun w => rfloor_any a 86400 (by have := K.ba; omega) (by have := K.ba; omega) (by omega) (by omega) w)
  rw [K.en] at HFl
  have HDy := Lib.hid (fun w => rDay_yes y 0 1 K.ok1 w)
  rw [K.eb] at HDy
  have HWk := Lib.hid (fun w => rWeeks_of y m d K.ok w)
  rw [K.en2, K.eiy, K.eiw, K.efs, K.efm] at HWk
  obtain ⟨ba, by', bm, bd, bh, bi, bn, bwk, bb, biy, biw, bfs, bfm, bq1, bss⟩ := K.bounds
  have hq1 := K.r1
  have hq2 := K.r2
  have hq3 := K.r3
  have hq4 := K.r4
  have hq5 := K.r5
  have HK := Lib.hid K
  clear K
  unfold timeV
  go_enter Tryz.func77, Tryz.ntmps77
  go_wp2_with fail
  have hh := (HW.start w).one #[.int .i64 y, .int .i64 m, .int .i64 d, .int .i64 h, .int .i64 i, .float .f64 s, .int .i64 wd, .int .i64 yd] 24
  generalize w.alloc (.cells #[.int .i64 y, .int .i64 m, .int .i64 d, .int .i64 h, .int .i64 i, .float .f64 s, .int .i64 wd, .int .i64 yd] 24) = X0 at hh ⊢
  have H := Lib.hid hh
  clear hh
  refine (HFl.out _).mono ?_
  rintro e w1 ⟨rfl, rfl⟩
  obtain ⟨t0, t1, t2, t3, t4, t5, t6, t7⟩ := row8p (H.out.rows _ (.head _))
  go_wp2_with fail
  refine (HDy.out _).mono ?_
  rintro e w2 ⟨rfl, hb⟩
  have hh := H.out.below hb
  clear H hb t0 t1 t2 t3 t4 t5 t6 t7
  have H := Lib.hid hh
  clear hh
  go_wp2_with fail
  refine (HWk.out _).mono ?_
  rintro e w3 ⟨rfl, hb⟩
  have hh := H.out.below hb
  clear H hb HFl HDy HWk
  have H := Lib.hid hh
  clear hh
  obtain ⟨t0, t1, t2, t3, t4, t5, t6, t7⟩ := row8p (H.out.rows _ (.head _))
  go_wp2_with fail
  have hcv := fun w => conv_floor s HK.out.sz (by have := HK.out.fl; omega) (by have := HK.out.fl; omega) w
  rw [HK.out.fl] at hcv
  refine (Floor_num s (Nat.le_of_lt HK.out.sz) _).mono ?_
  rintro e w8 ⟨rfl, rfl⟩
  go_wp2_with fail
  refine (rtwo_any ss (by omega) (by omega) _).mono ?_
  rintro e w9 ⟨rfl, hb⟩
  have HB := Lib.hid (H.out.bel.trans (hb.mono H.out.bel.size))
  clear hb
  go_wp2_with fail
  refine bodyPost_ret (v := .tuple #[.string _, .bool true]) (by simp [results, Tryz.results77, go_sem]; rfl) rfl ⟨?_, HB.out⟩
  rw [HTX.out]
  all_goals rfl
set_option maxRecDepth 100000 in
set_option maxHeartbeats 4000000 in
theorem rpc_106 (Q : PcQ y m d a s) (wd yd : Int) (w : World) : Calls Tryz.prog 77 #[.agg (timeV y m d (a % 86400 / 3600) (a % 86400 / 60 % 60) s wd yd), .int .i64 a, .int .u8 106] w fun e w' => e = .returned (.tuple #[.string ⟨((semP (mkMom y m d a) 106).getD []).toArray⟩, .bool true]) ∧ Below w.heap.size w w' := by
  have hsf := run_store_float Tryz.prog
  obtain ⟨h, i, n, wk, b0, iy, iw, fs, fm, q1, ss, K⟩ := Q.know
  have HTX := Lib.hid (K.txt_106)
  rw [K.eh, K.ei]
  have HFl := Lib.hid (fun w => rfloor_any a 86400 (by have := K.ba; omega) (by have := K.ba; omega) (by omega) (by omega) w)
  rw [K.en] at HFl
  have HDy := Lib.hid (fun w => rDay_yes y 0 1 K.ok1 w)
  rw [K.eb] at HDy
  have HWk := Lib.hid (fun w => rWeeks_of y m d K.ok w)
  rw [K.en2, K.eiy, K.eiw, K.efs, K.efm] at HWk
  obtain ⟨ba, by', bm, bd, bh, bi, bn, bwk, bb, biy, biw, bfs, bfm, bq1, bss⟩ := K.bounds
  have hq1 := K.r1
  have hq2 := K.r2
  have hq3 := K.r3
  have hq4 := K.r4
  have hq5 := K.r5
  have HK := Lib.hid K
  clear K
  unfold timeV
  go_enter Tryz.func77, Tryz.ntmps77
  go_wp2_with fail
  have hh := (HW.start w).one #[.int .i64 y, .int .i64 m, .int .i64 d, .int .i64 h, .int .i64 i, .float .f64 s, .int .i64 wd, .int .i64 yd] 24
  generalize w.alloc (.cells #[.int .i64 y, .int .i64 m, .int .i64 d, .int .i64 h, .int .i64 i, .float .f64 s, .int .i64 wd, .int .i64 yd] 24) = X0 at hh ⊢
  have H := Lib.hid hh
  clear hh
  refine (HFl.out _).mono ?_
  rintro e w1 ⟨rfl, rfl⟩
  obtain ⟨t0, t1, t2, t3, t4, t5, t6, t7⟩ := row8p (H.out.rows _ (.head _))
  go_wp2_with fail
  refine (HDy.out _).mono ?_
  rintro e w2 ⟨rfl, hb⟩
  have hh := H.out.below hb
  clear H hb t0 t1 t2 t3 t4 t5 t6 t7
  have H := Lib.hid hh
  clear hh
  go_wp2_with fail
  refine (HWk.out _).mono ?_
  rintro e w3 ⟨rfl, hb⟩
  have hh := H.out.below hb
  clear H hb HFl HDy HWk
  have H := Lib.hid hh
  clear hh
  obtain ⟨t0, t1, t2, t3, t4, t5, t6, t7⟩ := row8p (H.out.rows _ (.head _))
  go_wp2_with fail
  refine (rpad_any _ (by omega) (by omega) 3 (by omega) 48 _).mono ?_
  rintro e w9 ⟨rfl, hb⟩
  have HB := Lib.hid (H.out.bel.trans (hb.mono H.out.bel.size))
  clear hb
  go_wp2_with fail
  refine bodyPost_ret (v := .tuple #[.string _, .bool true]) (by simp [results, Tryz.results77, go_sem]; rfl) rfl ⟨?_, HB.out⟩
  rw [HTX.out]
  all_goals rfl
set_option maxRecDepth 100000 in
set_option maxHeartbeats 4000000 in
theorem rpc_112_0 (hx : a % 86400 / 3600 / 12 = 0) (Q : PcQ y m d a s) (wd yd : Int) (w : World) : Calls Tryz.prog 77 #[.agg (timeV y m d (a % 86400 / 3600) (a % 86400 / 60 % 60) s wd yd), .int .i64 a, .int .u8 112] w fun e w' => e = .returned (.tuple #[.string ⟨((semP (mkMom y m d a) 112).getD []).toArray⟩, .bool true]) ∧ Below w.heap.size w w' := by
  have hsf := run_store_float Tryz.prog
  obtain ⟨h, i, n, wk, b0, iy, iw, fs, fm, q1, ss, K⟩ := Q.know
  have HTX := Lib.hid (K.txt_112)
  rw [K.eh, K.ei]
  have HFl := Lib.hid (fun w => rfloor_any a 86400 (by have := K.ba; omega) (by have := K.ba; omega) (by omega) (by omega) w)
  rw [K.en] at HFl
  have HDy := Lib.hid (fun w => rDay_yes y 0 1 K.ok1 w)
  rw [K.eb] at HDy
  have HWk := Lib.hid (fun w => rWeeks_of y m d K.ok w)
  rw [K.en2, K.eiy, K.eiw, K.efs, K.efm] at HWk
  obtain ⟨ba, by', bm, bd, bh, bi, bn, bwk, bb, biy, biw, bfs, bfm, bq1, bss⟩ := K.bounds
  have hq1 := K.r1
  have hq2 := K.r2
  have hq3 := K.r3
  have hq4 := K.r4
  have hq5 := K.r5
  have HK := Lib.hid K
  clear K
  have hf : h / 12 = 0 := by rw [← HK.out.eh]; exact hx
  rw [hf] at hq4
  rw [if_pos (show h < 12 by omega)] at HTX
  clear hf hx
  unfold timeV
  go_enter Tryz.func77, Tryz.ntmps77
  go_wp2_with fail
  have hh := (HW.start w).one #[.int .i64 y, .int .i64 m, .int .i64 d, .int .i64 h, .int .i64 i, .float .f64 s, .int .i64 wd, .int .i64 yd] 24
  generalize w.alloc (.cells #[.int .i64 y, .int .i64 m, .int .i64 d, .int .i64 h, .int .i64 i, .float .f64 s, .int .i64 wd, .int .i64 yd] 24) = X0 at hh ⊢
  have H := Lib.hid hh
  clear hh
  refine (HFl.out _).mono ?_
  rintro e w1 ⟨rfl, rfl⟩
  obtain ⟨t0, t1, t2, t3, t4, t5, t6, t7⟩ := row8p (H.out.rows _ (.head _))
  go_wp2_with fail
  refine (HDy.out _).mono ?_
  rintro e w2 ⟨rfl, hb⟩
  have hh := H.out.below hb
  clear H hb t0 t1 t2 t3 t4 t5 t6 t7
  have H := Lib.hid hh
  clear hh
  go_wp2_with fail
  refine (HWk.out _).mono ?_
  rintro e w3 ⟨rfl, hb⟩
  have hh := H.out.below hb
  clear H hb HFl HDy HWk
  have H := Lib.hid hh
  clear hh
  obtain ⟨t0, t1, t2, t3, t4, t5, t6, t7⟩ := row8p (H.out.rows _ (.head _))
  go_wp2_with fail
  have HB := Lib.hid (H.out.one #[.string ⟨#[65, 77]⟩, .string ⟨#[80, 77]⟩] 9).bel
  refine bodyPost_ret (v := .tuple #[.string _, .bool true]) (by simp [results, Tryz.results77, go_sem]; rfl) rfl ⟨?_, HB.out⟩
  rw [HTX.out]
  all_goals rfl
set_option maxRecDepth 100000 in
set_option maxHeartbeats 4000000 in
theorem rpc_112_1 (hx : a % 86400 / 3600 / 12 = 1) (Q : PcQ y m d a s) (wd yd : Int) (w : World) : Calls Tryz.prog 77 #[.agg (timeV y m d (a % 86400 / 3600) (a % 86400 / 60 % 60) s wd yd), .int .i64 a, .int .u8 112] w fun e w' => e = .returned (.tuple #[.string ⟨((semP (mkMom y m d a) 112).getD []).toArray⟩, .bool true]) ∧ Below w.heap.size w w' := by
  have hsf := run_store_float Tryz.prog
  obtain ⟨h, i, n, wk, b0, iy, iw, fs, fm, q1, ss, K⟩ := Q.know
  have HTX := Lib.hid (K.txt_112)
  rw [K.eh, K.ei]
  have HFl := Lib.hid (fun w => rfloor_any a 86400 (by have := K.ba; omega) (by have := K.ba; omega) (by omega) (by omega) w)
  rw [K.en] at HFl
  have HDy := Lib.hid (fun w => rDay_yes y 0 1 K.ok1 w)
  rw [K.eb] at HDy
  have HWk := Lib.hid (fun w => rWeeks_of y m d K.ok w)
  rw [K.en2, K.eiy, K.eiw, K.efs, K.efm] at HWk
  obtain ⟨ba, by', bm, bd, bh, bi, bn, bwk, bb, biy, biw, bfs, bfm, bq1, bss⟩ := K.bounds
  have hq1 := K.r1
  have hq2 := K.r2
  have hq3 := K.r3
  have hq4 := K.r4
  have hq5 := K.r5
  have HK := Lib.hid K
  clear K
  have hf : h / 12 = 1 := by rw [← HK.out.eh]; exact hx
  rw [hf] at hq4
  rw [if_neg (show ¬ h < 12 by omega)] at HTX
  clear hf hx
  unfold timeV
  go_enter Tryz.func77, Tryz.ntmps77
  go_wp2_with fail
  have hh := (HW.start w).one #[.int .i64 y, .int .i64 m, .int .i64 d, .int .i64 h, .int .i64 i, .float .f64 s, .int .i64 wd, .int .i64 yd] 24
  generalize w.alloc (.cells #[.int .i64 y, .int .i64 m, .int .i64 d, .int .i64 h, .int .i64 i, .float .f64 s, .int .i64 wd, .int .i64 yd] 24) = X0 at hh ⊢
  have H := Lib.hid hh
  clear hh
  refine (HFl.out _).mono ?_
  rintro e w1 ⟨rfl, rfl⟩
  obtain ⟨t0, t1, t2, t3, t4, t5, t6, t7⟩ := row8p (H.out.rows _ (.head _))
  go_wp2_with fail
  refine (HDy.out _).mono ?_
  rintro e w2 ⟨rfl, hb⟩
  have hh := H.out.below hb
  clear H hb t0 t1 t2 t3 t4 t5 t6 t7
  have H := Lib.hid hh
  clear hh
  go_wp2_with fail
  refine (HWk.out _).mono ?_
  rintro e w3 ⟨rfl, hb⟩
  have hh := H.out.below hb
  clear H hb HFl HDy HWk
  have H := Lib.hid hh
  clear hh
  obtain ⟨t0, t1, t2, t3, t4, t5, t6, t7⟩ := row8p (H.out.rows _ (.head _))
  go_wp2_with fail
  have HB := Lib.hid (H.out.one #[.string ⟨#[65, 77]⟩, .string ⟨#[80, 77]⟩] 9).bel
  refine bodyPost_ret (v := .tuple #[.string _, .bool true]) (by simp [results, Tryz.results77, go_sem]; rfl) rfl ⟨?_, HB.out⟩
  rw [HTX.out]
  all_goals rfl
theorem rpc_112 (Q : PcQ y m d a s) (wd yd : Int) (w : World) : Calls Tryz.prog 77 #[.agg (timeV y m d (a % 86400 / 3600) (a % 86400 / 60 % 60) s wd yd), .int .i64 a, .int .u8 112] w fun e w' => e = .returned (.tuple #[.string ⟨((semP (mkMom y m d a) 112).getD []).toArray⟩, .bool true]) ∧ Below w.heap.size w w' := by
  rcases (show a % 86400 / 3600 / 12 = 0 ∨ a % 86400 / 3600 / 12 = 1 by omega) with h | h
  · exact rpc_112_0 h Q wd yd w
  · exact rpc_112_1 h Q wd yd w
set_option maxRecDepth 100000 in
set_option maxHeartbeats 4000000 in
theorem rpc_80_0 (hx : a % 86400 / 3600 / 12 = 0) (Q : PcQ y m d a s) (wd yd : Int) (w : World) : Calls Tryz.prog 77 #[.agg (timeV y m d (a % 86400 / 3600) (a % 86400 / 60 % 60) s wd yd), .int .i64 a, .int .u8 80] w fun e w' => e = .returned (.tuple #[.string ⟨((semP (mkMom y m d a) 80).getD []).toArray⟩, .bool true]) ∧ Below w.heap.size w w' := by
  have hsf := run_store_float Tryz.prog
  obtain ⟨h, i, n, wk, b0, iy, iw, fs, fm, q1, ss, K⟩ := Q.know
  have HTX := Lib.hid (K.txt_80)
  rw [K.eh, K.ei]
  have HFl := Lib.hid (fun w => rfloor_any a 86400 (by have := K.ba; omega) (by have := K.ba; omega) (by omega) (by omega) w)
  rw [K.en] at HFl
  have HDy := Lib.hid (fun w => rDay_yes y 0 1 K.ok1 w)
  rw [K.eb] at HDy
  have HWk := Lib.hid (fun w => rWeeks_of y m d K.ok w)
  rw [K.en2, K.eiy, K.eiw, K.efs, K.efm] at HWk
  obtain ⟨ba, by', bm, bd, bh, bi, bn, bwk, bb, biy, biw, bfs, bfm, bq1, bss⟩ := K.bounds
  have hq1 := K.r1
  have hq2 := K.r2
  have hq3 := K.r3
  have hq4 := K.r4
  have hq5 := K.r5
  have HK := Lib.hid K
  clear K
  have hf : h / 12 = 0 := by rw [← HK.out.eh]; exact hx
  rw [hf] at hq4
  rw [if_pos (show h < 12 by omega)] at HTX
  clear hf hx
  unfold timeV
  go_enter Tryz.func77, Tryz.ntmps77
  go_wp2_with fail
  have hh := (HW.start w).one #[.int .i64 y, .int .i64 m, .int .i64 d, .int .i64 h, .int .i64 i, .float .f64 s, .int .i64 wd, .int .i64 yd] 24
  generalize w.alloc (.cells #[.int .i64 y, .int .i64 m, .int .i64 d, .int .i64 h, .int .i64 i, .float .f64 s, .int .i64 wd, .int .i64 yd] 24) = X0 at hh ⊢
  have H := Lib.hid hh
  clear hh
  refine (HFl.out _).mono ?_
  rintro e w1 ⟨rfl, rfl⟩
  obtain ⟨t0, t1, t2, t3, t4, t5, t6, t7⟩ := row8p (H.out.rows _ (.head _))
  go_wp2_with fail
  refine (HDy.out _).mono ?_
  rintro e w2 ⟨rfl, hb⟩
  have hh := H.out.below hb
  clear H hb t0 t1 t2 t3 t4 t5 t6 t7
  have H := Lib.hid hh
  clear hh
  go_wp2_with fail
  refine (HWk.out _).mono ?_
  rintro e w3 ⟨rfl, hb⟩
  have hh := H.out.below hb
  clear H hb HFl HDy HWk
  have H := Lib.hid hh
  clear hh
  obtain ⟨t0, t1, t2, t3, t4, t5, t6, t7⟩ := row8p (H.out.rows _ (.head _))
  go_wp2_with fail
  have HB := Lib.hid (H.out.one #[.string ⟨#[97, 109]⟩, .string ⟨#[112, 109]⟩] 9).bel
  refine bodyPost_ret (v := .tuple #[.string _, .bool true]) (by simp [results, Tryz.results77, go_sem]; rfl) rfl ⟨?_, HB.out⟩
  rw [HTX.out]
  all_goals rfl
set_option maxRecDepth 100000 in
set_option maxHeartbeats 4000000 in
theorem rpc_80_1 (hx : a % 86400 / 3600 / 12 = 1) (Q : PcQ y m d a s) (wd yd : Int) (w : World) : Calls Tryz.prog 77 #[.agg (timeV y m d (a % 86400 / 3600) (a % 86400 / 60 % 60) s wd yd), .int .i64 a, .int .u8 80] w fun e w' => e = .returned (.tuple #[.string ⟨((semP (mkMom y m d a) 80).getD []).toArray⟩, .bool true]) ∧ Below w.heap.size w w' := by
  have hsf := run_store_float Tryz.prog
  obtain ⟨h, i, n, wk, b0, iy, iw, fs, fm, q1, ss, K⟩ := Q.know
  have HTX := Lib.hid (K.txt_80)
  rw [K.eh, K.ei]
  have HFl := Lib.hid (fun w => rfloor_any a 86400 (by have := K.ba; omega) (by have := K.ba; omega) (by omega) (by omega) w)
  rw [K.en] at HFl
  have HDy := Lib.hid (fun w => rDay_yes y 0 1 K.ok1 w)
  rw [K.eb] at HDy
  have HWk := Lib.hid (fun w => rWeeks_of y m d K.ok w)
  rw [K.en2, K.eiy, K.eiw, K.efs, K.efm] at HWk
  obtain ⟨ba, by', bm, bd, bh, bi, bn, bwk, bb, biy, biw, bfs, bfm, bq1, bss⟩ := K.bounds
  have hq1 := K.r1
  have hq2 := K.r2
  have hq3 := K.r3
  have hq4 := K.r4
  have hq5 := K.r5
  have HK := Lib.hid K
  clear K
  have hf : h / 12 = 1 := by rw [← HK.out.eh]; exact hx
  rw [hf] at hq4
  rw [if_neg (show ¬ h < 12 by omega)] at HTX
  clear hf hx
  unfold timeV
  go_enter Tryz.func77, Tryz.ntmps77
  go_wp2_with fail
  have hh := (HW.start w).one #[.int .i64 y, .int .i64 m, .int .i64 d, .int .i64 h, .int .i64 i, .float .f64 s, .int .i64 wd, .int .i64 yd] 24
  generalize w.alloc (.cells #[.int .i64 y, .int .i64 m, .int .i64 d, .int .i64 h, .int .i64 i, .float .f64 s, .int .i64 wd, .int .i64 yd] 24) = X0 at hh ⊢
  have H := Lib.hid hh
  clear hh
  refine (HFl.out _).mono ?_
  rintro e w1 ⟨rfl, rfl⟩
  obtain ⟨t0, t1, t2, t3, t4, t5, t6, t7⟩ := row8p (H.out.rows _ (.head _))
  go_wp2_with fail
  refine (HDy.out _).mono ?_
  rintro e w2 ⟨rfl, hb⟩
  have hh := H.out.below hb
  clear H hb t0 t1 t2 t3 t4 t5 t6 t7
  have H := Lib.hid hh
  clear hh
  go_wp2_with fail
  refine (HWk.out _).mono ?_
  rintro e w3 ⟨rfl, hb⟩
  have hh := H.out.below hb
  clear H hb HFl HDy HWk
  have H := Lib.hid hh
  clear hh
  obtain ⟨t0, t1, t2, t3, t4, t5, t6, t7⟩ := row8p (H.out.rows _ (.head _))
  go_wp2_with fail
  have HB := Lib.hid (H.out.one #[.string ⟨#[97, 109]⟩, .string ⟨#[112, 109]⟩] 9).bel
  refine bodyPost_ret (v := .tuple #[.string _, .bool true]) (by simp [results, Tryz.results77, go_sem]; rfl) rfl ⟨?_, HB.out⟩
  rw [HTX.out]
  all_goals rfl
theorem rpc_80 (Q : PcQ y m d a s) (wd yd : Int) (w : World) : Calls Tryz.prog 77 #[.agg (timeV y m d (a % 86400 / 3600) (a % 86400 / 60 % 60) s wd yd), .int .i64 a, .int .u8 80] w fun e w' => e = .returned (.tuple #[.string ⟨((semP (mkMom y m d a) 80).getD []).toArray⟩, .bool true]) ∧ Below w.heap.size w w' := by
  rcases (show a % 86400 / 3600 / 12 = 0 ∨ a % 86400 / 3600 / 12 = 1 by omega) with h | h
  · exact rpc_80_0 h Q wd yd w
  · exact rpc_80_1 h Q wd yd w
set_option maxRecDepth 100000 in
set_option maxHeartbeats 4000000 in
theorem rpc_117 (Q : PcQ y m d a s) (wd yd : Int) (w : World) : Calls Tryz.prog 77 #[.agg (timeV y m d (a % 86400 / 3600) (a % 86400 / 60 % 60) s wd yd), .int .i64 a, .int .u8 117] w fun e w' => e = .returned (.tuple #[.string ⟨((semP (mkMom y m d a) 117).getD []).toArray⟩, .bool true]) ∧ Below w.heap.size w w' := by
  have hsf := run_store_float Tryz.prog
  obtain ⟨h, i, n, wk, b0, iy, iw, fs, fm, q1, ss, K⟩ := Q.know
  have HTX := Lib.hid (K.txt_117)
  rw [K.eh, K.ei]
  have HFl := Lib.hid (fun w => rfloor_any a 86400 (by have := K.ba; omega) (by have := K.ba; omega) (by omega) (by omega) w)
  rw [K.en] at HFl
  have HDy := Lib.hid (fun w => rDay_yes y 0 1 K.ok1 w)
  rw [K.eb] at HDy
  have HWk := Lib.hid (fun w => rWeeks_of y m d K.ok w)
  rw [K.en2, K.eiy, K.eiw, K.efs, K.efm] at HWk
  obtain ⟨ba, by', bm, bd, bh, bi, bn, bwk, bb, biy, biw, bfs, bfm, bq1, bss⟩ := K.bounds
  have hq1 := K.r1
  have hq2 := K.r2
  have hq3 := K.r3
  have hq4 := K.r4
  have hq5 := K.r5
  have HK := Lib.hid K
  clear K
  unfold timeV
  go_enter Tryz.func77, Tryz.ntmps77
  go_wp2_with fail
  have hh := (HW.start w).one #[.int .i64 y, .int .i64 m, .int .i64 d, .int .i64 h, .int .i64 i, .float .f64 s, .int .i64 wd, .int .i64 yd] 24
  generalize w.alloc (.cells #[.int .i64 y, .int .i64 m, .int .i64 d, .int .i64 h, .int .i64 i, .float .f64 s, .int .i64 wd, .int .i64 yd] 24) = X0 at hh ⊢
  have H := Lib.hid hh
  clear hh
  refine (HFl.out _).mono ?_
  rintro e w1 ⟨rfl, rfl⟩
  obtain ⟨t0, t1, t2, t3, t4, t5, t6, t7⟩ := row8p (H.out.rows _ (.head _))
  go_wp2_with fail
  refine (HDy.out _).mono ?_
  rintro e w2 ⟨rfl, hb⟩
  have hh := H.out.below hb
  clear H hb t0 t1 t2 t3 t4 t5 t6 t7
  have H := Lib.hid hh
  clear hh
  go_wp2_with fail
  refine (HWk.out _).mono ?_
  rintro e w3 ⟨rfl, hb⟩
  have hh := H.out.below hb
  clear H hb HFl HDy HWk
  have H := Lib.hid hh
  clear hh
  obtain ⟨t0, t1, t2, t3, t4, t5, t6, t7⟩ := row8p (H.out.rows _ (.head _))
  go_wp2_with fail
  refine (Dec_any _ (by omega) (by omega) _).mono ?_
  rintro e w9 ⟨rfl, hb⟩
  have HB := Lib.hid (H.out.bel.trans (hb.mono H.out.bel.size))
  clear hb
  go_wp2_with fail
  refine bodyPost_ret (v := .tuple #[.string _, .bool true]) (by simp [results, Tryz.results77, go_sem]; rfl) rfl ⟨?_, HB.out⟩
  rw [HTX.out, ← dec_pad]
set_option maxRecDepth 100000 in
set_option maxHeartbeats 4000000 in
theorem rpc_119 (Q : PcQ y m d a s) (wd yd : Int) (w : World) : Calls Tryz.prog 77 #[.agg (timeV y m d (a % 86400 / 3600) (a % 86400 / 60 % 60) s wd yd), .int .i64 a, .int .u8 119] w fun e w' => e = .returned (.tuple #[.string ⟨((semP (mkMom y m d a) 119).getD []).toArray⟩, .bool true]) ∧ Below w.heap.size w w' := by
  have hsf := run_store_float Tryz.prog
  obtain ⟨h, i, n, wk, b0, iy, iw, fs, fm, q1, ss, K⟩ := Q.know
  have HTX := Lib.hid (K.txt_119)
  rw [K.eh, K.ei]
  have HFl := Lib.hid (fun w => rfloor_any a 86400 (by have := K.ba; omega) (by have := K.ba; omega) (by omega) (by omega) w)
  rw [K.en] at HFl
  have HDy := Lib.hid (fun w => rDay_yes y 0 1 K.ok1 w)
  rw [K.eb] at HDy
  have HWk := Lib.hid (fun w => rWeeks_of y m d K.ok w)
  rw [K.en2, K.eiy, K.eiw, K.efs, K.efm] at HWk
  obtain ⟨ba, by', bm, bd, bh, bi, bn, bwk, bb, biy, biw, bfs, bfm, bq1, bss⟩ := K.bounds
  have hq1 := K.r1
  have hq2 := K.r2
  have hq3 := K.r3
  have hq4 := K.r4
  have hq5 := K.r5
  have HK := Lib.hid K
  clear K
  unfold timeV
  go_enter Tryz.func77, Tryz.ntmps77
  go_wp2_with fail
  have hh := (HW.start w).one #[.int .i64 y, .int .i64 m, .int .i64 d, .int .i64 h, .int .i64 i, .float .f64 s, .int .i64 wd, .int .i64 yd] 24
  generalize w.alloc (.cells #[.int .i64 y, .int .i64 m, .int .i64 d, .int .i64 h, .int .i64 i, .float .f64 s, .int .i64 wd, .int .i64 yd] 24) = X0 at hh ⊢
  have H := Lib.hid hh
  clear hh
  refine (HFl.out _).mono ?_
  rintro e w1 ⟨rfl, rfl⟩
  obtain ⟨t0, t1, t2, t3, t4, t5, t6, t7⟩ := row8p (H.out.rows _ (.head _))
  go_wp2_with fail
  refine (HDy.out _).mono ?_
  rintro e w2 ⟨rfl, hb⟩
  have hh := H.out.below hb
  clear H hb t0 t1 t2 t3 t4 t5 t6 t7
  have H := Lib.hid hh
  clear hh
  go_wp2_with fail
  refine (HWk.out _).mono ?_
  rintro e w3 ⟨rfl, hb⟩
  have hh := H.out.below hb
  clear H hb HFl HDy HWk
  have H := Lib.hid hh
  clear hh
  obtain ⟨t0, t1, t2, t3, t4, t5, t6, t7⟩ := row8p (H.out.rows _ (.head _))
  go_wp2_with fail
  refine (Dec_any wk (by omega) (by omega) _).mono ?_
  rintro e w9 ⟨rfl, hb⟩
  have HB := Lib.hid (H.out.bel.trans (hb.mono H.out.bel.size))
  clear hb
  go_wp2_with fail
  refine bodyPost_ret (v := .tuple #[.string _, .bool true]) (by simp [results, Tryz.results77, go_sem]; rfl) rfl ⟨?_, HB.out⟩
  rw [HTX.out, ← dec_pad]
end Go.Proofs.YtebekdgoabhekaaGreatDoor

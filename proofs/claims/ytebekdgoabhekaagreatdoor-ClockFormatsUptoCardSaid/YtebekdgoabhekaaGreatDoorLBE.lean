/- The document's piece: directives C. -/
import Derived.Test.YtebekdgoabhekaaGreatDoorLBB
import Derived.Test.YtebekdgoabhekaaGreatDoorLBC
import Derived.Test.YtebekdgoabhekaaGreatDoorLBD
namespace Go.Proofs.YtebekdgoabhekaaGreatDoor
open Go Go.RowKit Go.Shelf
variable {y m d a : Int} {s : Nat}

set_option maxRecDepth 100000 in
set_option maxHeartbeats 4000000 in
theorem rpc_85 (Q : PcQ y m d a s) (wd yd : Int) (w : World) : Calls Tryz.prog 77 #[.agg (timeV y m d (a % 86400 / 3600) (a % 86400 / 60 % 60) s wd yd), .int .i64 a, .int .u8 85] w fun e w' => e = .returned (.tuple #[.string ⟨((semP (mkMom y m d a) 85).getD []).toArray⟩, .bool true]) ∧ Below w.heap.size w w' := by
  have hsf := run_store_float Tryz.prog
  obtain ⟨h, i, n, wk, b0, iy, iw, fs, fm, q1, ss, K⟩ := Q.know
  have HTX := Lib.hid (K.txt_85)
  rw [K.eh, K.ei]
  have HFl := Lib.hid (fun w => rfloor_any a 86400 (by have := K.ba; omega) (by have := K.ba; omega) (by omega) (by omega) w)
  rw [K.en] at HFl
  have HDy := Lib.hid (fun w => rDay_yes y 0 1 K.ok1 w)
  rw [K.eb] at HDy
  have HWk := Lib.hid (fun w => rWeeks_of y m d K.ok w)
  rw [K.en2, K.eiy, K.eiw, K.efs, K.efm] at HWk
  obtain ⟨ba, by', bm, bd, bh, bi, bn, bwk, bb, biy, biw, bfs, bfm, bq1, bss⟩ := K.bounds
  have hq1 := K.r1
  have hq2 := K.r2
  have hq3 := K.r3
  have hq4 := K.r4
  have hq5 := K.r5
  have HK := Lib.hid K
  clear K
  unfold timeV
  go_enter Tryz.func77, Tryz.ntmps77
  go_wp2_with fail
  have hh := (HW.start w).one #[.int .i64 y, .int .i64 m, .int .i64 d, .int .i64 h, .int .i64 i, .float .f64 s, .int .i64 wd, .int .i64 yd] 24
  generalize w.alloc (.cells #[.int .i64 y, .int .i64 m, .int .i64 d, .int .i64 h, .int .i64 i, .float .f64 s, .int .i64 wd, .int .i64 yd] 24) = X0 at hh ⊢
  have H := Lib.hid hh
  clear hh
  refine (HFl.out _).mono ?_
  rintro e w1 ⟨rfl, rfl⟩
  obtain ⟨t0, t1, t2, t3, t4, t5, t6, t7⟩ := row8p (H.out.rows _ (.head _))
  go_wp2_with fail
  refine (HDy.out _).mono ?_
  rintro e w2 ⟨rfl, hb⟩
  have hh := H.out.below hb
  clear H hb t0 t1 t2 t3 t4 t5 t6 t7
  have H := Lib.hid hh
  clear hh
  go_wp2_with fail
  refine (HWk.out _).mono ?_
  rintro e w3 ⟨rfl, hb⟩
  have hh := H.out.below hb
  clear H hb HFl HDy HWk
  have H := Lib.hid hh
  clear hh
  obtain ⟨t0, t1, t2, t3, t4, t5, t6, t7⟩ := row8p (H.out.rows _ (.head _))
  go_wp2_with fail
  refine (rtwo_any fs (by omega) (by omega) _).mono ?_
  rintro e w9 ⟨rfl, hb⟩
  have HB := Lib.hid (H.out.bel.trans (hb.mono H.out.bel.size))
  clear hb
  go_wp2_with fail
  refine bodyPost_ret (v := .tuple #[.string _, .bool true]) (by simp [results, Tryz.results77, go_sem]; rfl) rfl ⟨?_, HB.out⟩
  rw [HTX.out]
  all_goals rfl
set_option maxRecDepth 100000 in
set_option maxHeartbeats 4000000 in
theorem rpc_87 (Q : PcQ y m d a s) (wd yd : Int) (w : World) : Calls Tryz.prog 77 #[.agg (timeV y m d (a % 86400 / 3600) (a % 86400 / 60 % 60) s wd yd), .int .i64 a, .int .u8 87] w fun e w' => e = .returned (.tuple #[.string ⟨((semP (mkMom y m d a) 87).getD []).toArray⟩, .bool true]) ∧ Below w.heap.size w w' := by
  have hsf := run_store_float Tryz.prog
  obtain ⟨h, i, n, wk, b0, iy, iw, fs, fm, q1, ss, K⟩ := Q.know
  have HTX := Lib.hid (K.txt_87)
  rw [K.eh, K.ei]
  have HFl := Lib.hid (fun w => rfloor_any a 86400 (by have := K.ba; omega) (by have := K.ba; omega) (by omega) (by omega) w)
  rw [K.en] at HFl
  have HDy := Lib.hid (fun w => rDay_yes y 0 1 K.ok1 w)
  rw [K.eb] at HDy
  have HWk := Lib.hid (fun w => rWeeks_of y m d K.ok w)
  rw [K.en2, K.eiy, K.eiw, K.efs, K.efm] at HWk
  obtain ⟨ba, by', bm, bd, bh, bi, bn, bwk, bb, biy, biw, bfs, bfm, bq1, bss⟩ := K.bounds
  have hq1 := K.r1
  have hq2 := K.r2
  have hq3 := K.r3
  have hq4 := K.r4
  have hq5 := K.r5
  have HK := Lib.hid K
  clear K
  unfold timeV
  go_enter Tryz.func77, Tryz.ntmps77
  go_wp2_with fail
  have hh := (HW.start w).one #[.int .i64 y, .int .i64 m, .int .i64 d, .int .i64 h, .int .i64 i, .float .f64 s, .int .i64 wd, .int .i64 yd] 24
  generalize w.alloc (.cells #[.int .i64 y, .int .i64 m, .int .i64 d, .int .i64 h, .int .i64 i, .float .f64 s, .int .i64 wd, .int .i64 yd] 24) = X0 at hh ⊢
  have H := Lib.hid hh
  clear hh
  refine (HFl.out _).mono ?_
  rintro e w1 ⟨rfl, rfl⟩
  obtain ⟨t0, t1, t2, t3, t4, t5, t6, t7⟩ := row8p (H.out.rows _ (.head _))
  go_wp2_with fail
  refine (HDy.out _).mono ?_
  rintro e w2 ⟨rfl, hb⟩
  have hh := H.out.below hb
  clear H hb t0 t1 t2 t3 t4 t5 t6 t7
  have H := Lib.hid hh
  clear hh
  go_wp2_with fail
  refine (HWk.out _).mono ?_
  rintro e w3 ⟨rfl, hb⟩
  have hh := H.out.below hb
  clear H hb HFl HDy HWk
  have H := Lib.hid hh
  clear hh
  obtain ⟨t0, t1, t2, t3, t4, t5, t6, t7⟩ := row8p (H.out.rows _ (.head _))
  go_wp2_with fail
  refine (rtwo_any fm (by omega) (by omega) _).mono ?_
  rintro e w9 ⟨rfl, hb⟩
  have HB := Lib.hid (H.out.bel.trans (hb.mono H.out.bel.size))
  clear hb
  go_wp2_with fail
  refine bodyPost_ret (v := .tuple #[.string _, .bool true]) (by simp [results, Tryz.results77, go_sem]; rfl) rfl ⟨?_, HB.out⟩
  rw [HTX.out]
  all_goals rfl
set_option maxRecDepth 100000 in
set_option maxHeartbeats 4000000 in
theorem rpc_86 (Q : PcQ y m d a s) (wd yd : Int) (w : World) : Calls Tryz.prog 77 #[.agg (timeV y m d (a % 86400 / 3600) (a % 86400 / 60 % 60) s wd yd), .int .i64 a, .int .u8 86] w fun e w' => e = .returned (.tuple #[.string ⟨((semP (mkMom y m d a) 86).getD []).toArray⟩, .bool true]) ∧ Below w.heap.size w w' := by
  have hsf := run_store_float Tryz.prog
  obtain ⟨h, i, n, wk, b0, iy, iw, fs, fm, q1, ss, K⟩ := Q.know
  have HTX := Lib.hid (K.txt_86)
  rw [K.eh, K.ei]
  have HFl := Lib.hid (fun w => rfloor_any a 86400 (by have := K.ba; omega) (by have := K.ba; omega) (by omega) (by omega) w)
  rw [K.en] at HFl
  have HDy := Lib.hid (fun w => rDay_yes y 0 1 K.ok1 w)
  rw [K.eb] at HDy
  have HWk := Lib.hid (fun w => rWeeks_of y m d K.ok w)
  rw [K.en2, K.eiy, K.eiw, K.efs, K.efm] at HWk
  obtain ⟨ba, by', bm, bd, bh, bi, bn, bwk, bb, biy, biw, bfs, bfm, bq1, bss⟩ := K.bounds
  have hq1 := K.r1
  have hq2 := K.r2
  have hq3 := K.r3
  have hq4 := K.r4
  have hq5 := K.r5
  have HK := Lib.hid K
  clear K
  unfold timeV
  go_enter Tryz.func77, Tryz.ntmps77
  go_wp2_with fail
  have hh := (HW.start w).one #[.int .i64 y, .int .i64 m, .int .i64 d, .int .i64 h, .int .i64 i, .float .f64 s, .int .i64 wd, .int .i64 yd] 24
  generalize w.alloc (.cells #[.int .i64 y, .int .i64 m, .int .i64 d, .int .i64 h, .int .i64 i, .float .f64 s, .int .i64 wd, .int .i64 yd] 24) = X0 at hh ⊢
  have H := Lib.hid hh
  clear hh
  refine (HFl.out _).mono ?_
  rintro e w1 ⟨rfl, rfl⟩
  obtain ⟨t0, t1, t2, t3, t4, t5, t6, t7⟩ := row8p (H.out.rows _ (.head _))
  go_wp2_with fail
  refine (HDy.out _).mono ?_
  rintro e w2 ⟨rfl, hb⟩
  have hh := H.out.below hb
  clear H hb t0 t1 t2 t3 t4 t5 t6 t7
  have H := Lib.hid hh
  clear hh
  go_wp2_with fail
  refine (HWk.out _).mono ?_
  rintro e w3 ⟨rfl, hb⟩
  have hh := H.out.below hb
  clear H hb HFl HDy HWk
  have H := Lib.hid hh
  clear hh
  obtain ⟨t0, t1, t2, t3, t4, t5, t6, t7⟩ := row8p (H.out.rows _ (.head _))
  go_wp2_with fail
  refine (rtwo_any iw (by omega) (by omega) _).mono ?_
  rintro e w9 ⟨rfl, hb⟩
  have HB := Lib.hid (H.out.bel.trans (hb.mono H.out.bel.size))
  clear hb
  go_wp2_with fail
  refine bodyPost_ret (v := .tuple #[.string _, .bool true]) (by simp [results, Tryz.results77, go_sem]; rfl) rfl ⟨?_, HB.out⟩
  rw [HTX.out]
  all_goals rfl
set_option maxRecDepth 100000 in
set_option maxHeartbeats 4000000 in
theorem rpc_71 (Q : PcQ y m d a s) (wd yd : Int) (w : World) : Calls Tryz.prog 77 #[.agg (timeV y m d (a % 86400 / 3600) (a % 86400 / 60 % 60) s wd yd), .int .i64 a, .int .u8 71] w fun e w' => e = .returned (.tuple #[.string ⟨((semP (mkMom y m d a) 71).getD []).toArray⟩, .bool true]) ∧ Below w.heap.size w w' := by
  have hsf := run_store_float Tryz.prog
  obtain ⟨h, i, n, wk, b0, iy, iw, fs, fm, q1, ss, K⟩ := Q.know
  have HTX := Lib.hid (K.txt_71)
  rw [K.eh, K.ei]
  have HFl := Lib.hid (fun w => rfloor_any a 86400 (by have := K.ba; omega) (by have := K.ba; omega) (by omega) (by omega) w)
  rw [K.en] at HFl
  have HDy := Lib.hid (fun w => rDay_yes y 0 1 K.ok1 w)
  rw [K.eb] at HDy
  have HWk := Lib.hid (fun w => rWeeks_of y m d K.ok w)
  rw [K.en2, K.eiy, K.eiw, K.efs, K.efm] at HWk
  obtain ⟨ba, by', bm, bd, bh, bi, bn, bwk, bb, biy, biw, bfs, bfm, bq1, bss⟩ := K.bounds
  have hq1 := K.r1
  have hq2 := K.r2
  have hq3 := K.r3
  have hq4 := K.r4
  have hq5 := K.r5
  have HK := Lib.hid K
  clear K
  unfold timeV
  go_enter Tryz.func77, Tryz.ntmps77
  go_wp2_with fail
  have hh := (HW.start w).one #[.int .i64 y, .int .i64 m, .int .i64 d, .int .i64 h, .int .i64 i, .float .f64 s, .int .i64 wd, .int .i64 yd] 24
  generalize w.alloc (.cells #[.int .i64 y, .int .i64 m, .int .i64 d, .int .i64 h, .int .i64 i, .float .f64 s, .int .i64 wd, .int .i64 yd] 24) = X0 at hh ⊢
  have H := Lib.hid hh
  clear hh
  refine (HFl.out _).mono ?_
  rintro e w1 ⟨rfl, rfl⟩
  obtain ⟨t0, t1, t2, t3, t4, t5, t6, t7⟩ := row8p (H.out.rows _ (.head _))
  go_wp2_with fail
  refine (HDy.out _).mono ?_
  rintro e w2 ⟨rfl, hb⟩
  have hh := H.out.below hb
  clear H hb t0 t1 t2 t3 t4 t5 t6 t7
  have H := Lib.hid hh
  clear hh
  go_wp2_with fail
  refine (HWk.out _).mono ?_
  rintro e w3 ⟨rfl, hb⟩
  have hh := H.out.below hb
  clear H hb HFl HDy HWk
  have H := Lib.hid hh
  clear hh
  obtain ⟨t0, t1, t2, t3, t4, t5, t6, t7⟩ := row8p (H.out.rows _ (.head _))
  go_wp2_with fail
  refine (Dec_any iy (by omega) (by omega) _).mono ?_
  rintro e w9 ⟨rfl, hb⟩
  have HB := Lib.hid (H.out.bel.trans (hb.mono H.out.bel.size))
  clear hb
  go_wp2_with fail
  refine bodyPost_ret (v := .tuple #[.string _, .bool true]) (by simp [results, Tryz.results77, go_sem]; rfl) rfl ⟨?_, HB.out⟩
  rw [HTX.out, ← dec_pad]
set_option maxRecDepth 100000 in
set_option maxHeartbeats 4000000 in
theorem rpc_103 (Q : PcQ y m d a s) (wd yd : Int) (w : World) : Calls Tryz.prog 77 #[.agg (timeV y m d (a % 86400 / 3600) (a % 86400 / 60 % 60) s wd yd), .int .i64 a, .int .u8 103] w fun e w' => e = .returned (.tuple #[.string ⟨((semP (mkMom y m d a) 103).getD []).toArray⟩, .bool true]) ∧ Below w.heap.size w w' := by
  have hsf := run_store_float Tryz.prog
  obtain ⟨h, i, n, wk, b0, iy, iw, fs, fm, q1, ss, K⟩ := Q.know
  have HTX := Lib.hid (K.txt_103)
  rw [K.eh, K.ei]
  have HFl := Lib.hid (fun w => rfloor_any a 86400 (by have := K.ba; omega) (by have := K.ba; omega) (by omega) (by omega) w)
  rw [K.en] at HFl
  have HDy := Lib.hid (fun w => rDay_yes y 0 1 K.ok1 w)
  rw [K.eb] at HDy
  have HWk := Lib.hid (fun w => rWeeks_of y m d K.ok w)
  rw [K.en2, K.eiy, K.eiw, K.efs, K.efm] at HWk
  obtain ⟨ba, by', bm, bd, bh, bi, bn, bwk, bb, biy, biw, bfs, bfm, bq1, bss⟩ := K.bounds
  have hq1 := K.r1
  have hq2 := K.r2
  have hq3 := K.r3
  have hq4 := K.r4
  have hq5 := K.r5
  have HK := Lib.hid K
  clear K
  unfold timeV
  go_enter Tryz.func77, Tryz.ntmps77
  go_wp2_with fail
  have hh := (HW.start w).one #[.int .i64 y, .int .i64 m, .int .i64 d, .int .i64 h, .int .i64 i, .float .f64 s, .int .i64 wd, .int .i64 yd] 24
  generalize w.alloc (.cells #[.int .i64 y, .int .i64 m, .int .i64 d, .int .i64 h, .int .i64 i, .float .f64 s, .int .i64 wd, .int .i64 yd] 24) = X0 at hh ⊢
  have H := Lib.hid hh
  clear hh
  refine (HFl.out _).mono ?_
  rintro e w1 ⟨rfl, rfl⟩
  obtain ⟨t0, t1, t2, t3, t4, t5, t6, t7⟩ := row8p (H.out.rows _ (.head _))
  go_wp2_with fail
  refine (HDy.out _).mono ?_
  rintro e w2 ⟨rfl, hb⟩
  have hh := H.out.below hb
  clear H hb t0 t1 t2 t3 t4 t5 t6 t7
  have H := Lib.hid hh
  clear hh
  go_wp2_with fail
  refine (HWk.out _).mono ?_
  rintro e w3 ⟨rfl, hb⟩
  have hh := H.out.below hb
  clear H hb HFl HDy HWk
  have H := Lib.hid hh
  clear hh
  obtain ⟨t0, t1, t2, t3, t4, t5, t6, t7⟩ := row8p (H.out.rows _ (.head _))
  go_wp2_with fail
  refine (rfloor_any iy 100 (by omega) (by omega) (by omega) (by omega) _).mono ?_
  rintro e w8 ⟨rfl, rfl⟩
  go_wp2_with fail
  refine (rtwo_any (iy - 100 * (iy / 100)) (by omega) (by omega) _).mono ?_
  rintro e w9 ⟨rfl, hb⟩
  have HB := Lib.hid (H.out.bel.trans (hb.mono H.out.bel.size))
  clear hb
  go_wp2_with fail
  refine bodyPost_ret (v := .tuple #[.string _, .bool true]) (by simp [results, Tryz.results77, go_sem]; rfl) rfl ⟨?_, HB.out⟩
  rw [HTX.out]
  all_goals rfl
set_option maxRecDepth 100000 in
set_option maxHeartbeats 4000000 in
theorem rpc_115 (Q : PcQ y m d a s) (wd yd : Int) (w : World) : Calls Tryz.prog 77 #[.agg (timeV y m d (a % 86400 / 3600) (a % 86400 / 60 % 60) s wd yd), .int .i64 a, .int .u8 115] w fun e w' => e = .returned (.tuple #[.string ⟨((semP (mkMom y m d a) 115).getD []).toArray⟩, .bool true]) ∧ Below w.heap.size w w' := by
  have hsf := run_store_float Tryz.prog
  obtain ⟨h, i, n, wk, b0, iy, iw, fs, fm, q1, ss, K⟩ := Q.know
  have HTX := Lib.hid (K.txt_115)
  rw [K.eh, K.ei]
  have HFl := Lib.hid (fun w => rfloor_any a 86400 (by have := K.ba; omega) (by have := K.ba; omega) (by omega) (by omega) w)
  rw [K.en] at HFl
  have HDy := Lib.hid (fun w => rDay_yes y 0 1 K.ok1 w)
  rw [K.eb] at HDy
  have HWk := Lib.hid (fun w => rWeeks_of y m d K.ok w)
  rw [K.en2, K.eiy, K.eiw, K.efs, K.efm] at HWk
  obtain ⟨ba, by', bm, bd, bh, bi, bn, bwk, bb, biy, biw, bfs, bfm, bq1, bss⟩ := K.bounds
  have hq1 := K.r1
  have hq2 := K.r2
  have hq3 := K.r3
  have hq4 := K.r4
  have hq5 := K.r5
  have HK := Lib.hid K
  clear K
  unfold timeV
  go_enter Tryz.func77, Tryz.ntmps77
  go_wp2_with fail
  have hh := (HW.start w).one #[.int .i64 y, .int .i64 m, .int .i64 d, .int .i64 h, .int .i64 i, .float .f64 s, .int .i64 wd, .int .i64 yd] 24
  generalize w.alloc (.cells #[.int .i64 y, .int .i64 m, .int .i64 d, .int .i64 h, .int .i64 i, .float .f64 s, .int .i64 wd, .int .i64 yd] 24) = X0 at hh ⊢
  have H := Lib.hid hh
  clear hh
  refine (HFl.out _).mono ?_
  rintro e w1 ⟨rfl, rfl⟩
  obtain ⟨t0, t1, t2, t3, t4, t5, t6, t7⟩ := row8p (H.out.rows _ (.head _))
  go_wp2_with fail
  refine (HDy.out _).mono ?_
  rintro e w2 ⟨rfl, hb⟩
  have hh := H.out.below hb
  clear H hb t0 t1 t2 t3 t4 t5 t6 t7
  have H := Lib.hid hh
  clear hh
  go_wp2_with fail
  refine (HWk.out _).mono ?_
  rintro e w3 ⟨rfl, hb⟩
  have hh := H.out.below hb
  clear H hb HFl HDy HWk
  have H := Lib.hid hh
  clear hh
  obtain ⟨t0, t1, t2, t3, t4, t5, t6, t7⟩ := row8p (H.out.rows _ (.head _))
  go_wp2_with fail
  refine (Dec_any a (by omega) (by omega) _).mono ?_
  rintro e w9 ⟨rfl, hb⟩
  have HB := Lib.hid (H.out.bel.trans (hb.mono H.out.bel.size))
  clear hb
  go_wp2_with fail
  refine bodyPost_ret (v := .tuple #[.string _, .bool true]) (by simp [results, Tryz.results77, go_sem]; rfl) rfl ⟨?_, HB.out⟩
  rw [HTX.out, ← dec_pad]
set_option maxRecDepth 100000 in
set_option maxHeartbeats 4000000 in
theorem rpc_110 (Q : PcQ y m d a s) (wd yd : Int) (w : World) : Calls Tryz.prog 77 #[.agg (timeV y m d (a % 86400 / 3600) (a % 86400 / 60 % 60) s wd yd), .int .i64 a, .int .u8 110] w fun e w' => e = .returned (.tuple #[.string ⟨((semP (mkMom y m d a) 110).getD []).toArray⟩, .bool true]) ∧ Below w.heap.size w w' := by
  have hsf := run_store_float Tryz.prog
  obtain ⟨h, i, n, wk, b0, iy, iw, fs, fm, q1, ss, K⟩ := Q.know
  have HTX := Lib.hid (K.txt_110)
  rw [K.eh, K.ei]
  have HFl := Lib.hid (fun w => rfloor_any a 86400 (by have := K.ba; omega) (by have := K.ba; omega) (by omega) (by omega) w)
  rw [K.en] at HFl
  have HDy := Lib.hid (fun w => rDay_yes y 0 1 K.ok1 w)
  rw [K.eb] at HDy
  have HWk := Lib.hid (fun w => rWeeks_of y m d K.ok w)
  rw [K.en2, K.eiy, K.eiw, K.efs, K.efm] at HWk
  obtain ⟨ba, by', bm, bd, bh, bi, bn, bwk, bb, biy, biw, bfs, bfm, bq1, bss⟩ := K.bounds
  have hq1 := K.r1
  have hq2 := K.r2
  have hq3 := K.r3
  have hq4 := K.r4
  have hq5 := K.r5
  have HK := Lib.hid K
  clear K
  unfold timeV
  go_enter Tryz.func77, Tryz.ntmps77
  go_wp2_with fail
  have hh := (HW.start w).one #[.int .i64 y, .int .i64 m, .int .i64 d, .int .i64 h, .int .i64 i, .float .f64 s, .int .i64 wd, .int .i64 yd] 24
  generalize w.alloc (.cells #[.int .i64 y, .int .i64 m, .int .i64 d, .int .i64 h, .int .i64 i, .float .f64 s, .int .i64 wd, .int .i64 yd] 24) = X0 at hh ⊢
  have H := Lib.hid hh
  clear hh
  refine (HFl.out _).mono ?_
  rintro e w1 ⟨rfl, rfl⟩
  obtain ⟨t0, t1, t2, t3, t4, t5, t6, t7⟩ := row8p (H.out.rows _ (.head _))
  go_wp2_with fail
  refine (HDy.out _).mono ?_
  rintro e w2 ⟨rfl, hb⟩
  have hh := H.out.below hb
  clear H hb t0 t1 t2 t3 t4 t5 t6 t7
  have H := Lib.hid hh
  clear hh
  go_wp2_with fail
  refine (HWk.out _).mono ?_
  rintro e w3 ⟨rfl, hb⟩
  have hh := H.out.below hb
  clear H hb HFl HDy HWk
  have H := Lib.hid hh
  clear hh
  obtain ⟨t0, t1, t2, t3, t4, t5, t6, t7⟩ := row8p (H.out.rows _ (.head _))
  go_wp2_with fail
  have HB := Lib.hid H.out.bel
  refine bodyPost_ret (v := .tuple #[.string _, .bool true]) (by simp [results, Tryz.results77, go_sem]; rfl) rfl ⟨?_, HB.out⟩
  rw [HTX.out]
  all_goals rfl
set_option maxRecDepth 100000 in
set_option maxHeartbeats 4000000 in
theorem rpc_116 (Q : PcQ y m d a s) (wd yd : Int) (w : World) : Calls Tryz.prog 77 #[.agg (timeV y m d (a % 86400 / 3600) (a % 86400 / 60 % 60) s wd yd), .int .i64 a, .int .u8 116] w fun e w' => e = .returned (.tuple #[.string ⟨((semP (mkMom y m d a) 116).getD []).toArray⟩, .bool true]) ∧ Below w.heap.size w w' := by
  have hsf := run_store_float Tryz.prog
  obtain ⟨h, i, n, wk, b0, iy, iw, fs, fm, q1, ss, K⟩ := Q.know
  have HTX := Lib.hid (K.txt_116)
  rw [K.eh, K.ei]
  have HFl := Lib.hid (fun w => rfloor_any a 86400 (by have := K.ba; omega) (by have := K.ba; omega) (by omega) (by omega) w)
  rw [K.en] at HFl
  have HDy := Lib.hid (fun w => rDay_yes y 0 1 K.ok1 w)
  rw [K.eb] at HDy
  have HWk := Lib.hid (fun w => rWeeks_of y m d K.ok w)
  rw [K.en2, K.eiy, K.eiw, K.efs, K.efm] at HWk
  obtain ⟨ba, by', bm, bd, bh, bi, bn, bwk, bb, biy, biw, bfs, bfm, bq1, bss⟩ := K.bounds
  have hq1 := K.r1
  have hq2 := K.r2
  have hq3 := K.r3
  have hq4 := K.r4
  have hq5 := K.r5
  have HK := Lib.hid K
  clear K
  unfold timeV
  go_enter Tryz.func77, Tryz.ntmps77
  go_wp2_with fail
  have hh := (HW.start w).one #[.int .i64 y, .int .i64 m, .int .i64 d, .int .i64 h, .int .i64 i, .float .f64 s, .int .i64 wd, .int .i64 yd] 24
  generalize w.alloc (.cells #[.int .i64 y, .int .i64 m, .int .i64 d, .int .i64 h, .int .i64 i, .float .f64 s, .int .i64 wd, .int .i64 yd] 24) = X0 at hh ⊢
  have H := Lib.hid hh
  clear hh
  refine (HFl.out _).mono ?_
  rintro e w1 ⟨rfl, rfl⟩
  obtain ⟨t0, t1, t2, t3, t4, t5, t6, t7⟩ := row8p (H.out.rows _ (.head _))
  go_wp2_with fail
  refine (HDy.out _).mono ?_
  rintro e w2 ⟨rfl, hb⟩
  have hh := H.out.below hb
  clear H hb t0 t1 t2 t3 t4 t5 t6 t7
  have H := Lib.hid hh
  clear hh
  go_wp2_with fail
  refine (HWk.out _).mono ?_
  rintro e w3 ⟨rfl, hb⟩
  have hh := H.out.below hb
  clear H hb HFl HDy HWk
  have H := Lib.hid hh
  clear hh
  obtain ⟨t0, t1, t2, t3, t4, t5, t6, t7⟩ := row8p (H.out.rows _ (.head _))
  go_wp2_with fail
  have HB := Lib.hid H.out.bel
  refine bodyPost_ret (v := .tuple #[.string _, .bool true]) (by simp [results, Tryz.results77, go_sem]; rfl) rfl ⟨?_, HB.out⟩
  rw [HTX.out]
  all_goals rfl
set_option maxRecDepth 100000 in
set_option maxHeartbeats 4000000 in
theorem rpc_37 (Q : PcQ y m d a s) (wd yd : Int) (w : World) : Calls Tryz.prog 77 #[.agg (timeV y m d (a % 86400 / 3600) (a % 86400 / 60 % 60) s wd yd), .int .i64 a, .int .u8 37] w fun e w' => e = .returned (.tuple #[.string ⟨((semP (mkMom y m d a) 37).getD []).toArray⟩, .bool true]) ∧ Below w.heap.size w w' := by
  have hsf := run_store_float Tryz.prog
  obtain ⟨h, i, n, wk, b0, iy, iw, fs, fm, q1, ss, K⟩ := Q.know
  have HTX := Lib.hid (K.txt_37)
  rw [K.eh, K.ei]
  have HFl := Lib.hid (fun w => rfloor_any a 86400 (by have := K.ba; omega) (by have := K.ba; omega) (by omega) (by omega) w)
  rw [K.en] at HFl
  have HDy := Lib.hid (fun w => rDay_yes y 0 1 K.ok1 w)
  rw [K.eb] at HDy
  have HWk := Lib.hid (fun w => rWeeks_of y m d K.ok w)
  rw [K.en2, K.eiy, K.eiw, K.efs, K.efm] at HWk
  obtain ⟨ba, by', bm, bd, bh, bi, bn, bwk, bb, biy, biw, bfs, bfm, bq1, bss⟩ := K.bounds
  have hq1 := K.r1
  have hq2 := K.r2
  have hq3 := K.r3
  have hq4 := K.r4
  have hq5 := K.r5
  have HK := Lib.hid K
  clear K
  unfold timeV
  go_enter Tryz.func77, Tryz.ntmps77
  go_wp2_with fail
  have hh := (HW.start w).one #[.int .i64 y, .int .i64 m, .int .i64 d, .int .i64 h, .int .i64 i, .float .f64 s, .int .i64 wd, .int .i64 yd] 24
  generalize w.alloc (.cells #[.int .i64 y, .int .i64 m, .int .i64 d, .int .i64 h, .int .i64 i, .float .f64 s, .int .i64 wd, .int .i64 yd] 24) = X0 at hh ⊢
  have H := Lib.hid hh
  clear hh
  refine (HFl.out _).mono ?_
  rintro e w1 ⟨rfl, rfl⟩
  obtain ⟨t0, t1, t2, t3, t4, t5, t6, t7⟩ := row8p (H.out.rows _ (.head _))
  go_wp2_with fail
  refine (HDy.out _).mono ?_
  rintro e w2 ⟨rfl, hb⟩
  have hh := H.out.below hb
  clear H hb t0 t1 t2 t3 t4 t5 t6 t7
  have H := Lib.hid hh
  clear hh
  go_wp2_with fail
  refine (HWk.out _).mono ?_
  rintro e w3 ⟨rfl, hb⟩
  have hh := H.out.below hb
  clear H hb HFl HDy HWk
  have H := Lib.hid hh
  clear hh
  obtain ⟨t0, t1, t2, t3, t4, t5, t6, t7⟩ := row8p (H.out.rows _ (.head _))
  go_wp2_with fail
  have HB := Lib.hid H.out.bel
  refine bodyPost_ret (v := .tuple #[.string _, .bool true]) (by simp [results, Tryz.results77, go_sem]; rfl) rfl ⟨?_, HB.out⟩
  rw [HTX.out]
  all_goals rfl
set_option maxRecDepth 100000 in
set_option maxHeartbeats 4000000 in
theorem rpc_122 (Q : PcQ y m d a s) (wd yd : Int) (w : World) : Calls Tryz.prog 77 #[.agg (timeV y m d (a % 86400 / 3600) (a % 86400 / 60 % 60) s wd yd), .int .i64 a, .int .u8 122] w fun e w' => e = .returned (.tuple #[.string ⟨((semP (mkMom y m d a) 122).getD []).toArray⟩, .bool true]) ∧ Below w.heap.size w w' := by
  have hsf := run_store_float Tryz.prog
  obtain ⟨h, i, n, wk, b0, iy, iw, fs, fm, q1, ss, K⟩ := Q.know
  have HTX := Lib.hid (K.txt_122)
  rw [K.eh, K.ei]
  have HFl := Lib.hid (fun w => rfloor_any a 86400 (by have := K.ba; omega) (by have := K.ba; omega) (by omega) (by omega) w)
  rw [K.en] at HFl
  have HDy := Lib.hid (fun w => rDay_yes y 0 1 K.ok1 w)
  rw [K.eb] at HDy
  have HWk := Lib.hid (fun w => rWeeks_of y m d K.ok w)
  rw [K.en2, K.eiy, K.eiw, K.efs, K.efm] at HWk
  obtain ⟨ba, by', bm, bd, bh, bi, bn, bwk, bb, biy, biw, bfs, bfm, bq1, bss⟩ := K.bounds
  have hq1 := K.r1
  have hq2 := K.r2
  have hq3 := K.r3
  have hq4 := K.r4
  have hq5 := K.r5
  have HK := Lib.hid K
  clear K
  unfold timeV
  go_enter Tryz.func77, Tryz.ntmps77
  go_wp2_with fail
  have hh := (HW.start w).one #[.int .i64 y, .int .i64 m, .int .i64 d, .int .i64 h, .int .i64 i, .float .f64 s, .int .i64 wd, .int .i64 yd] 24
  generalize w.alloc (.cells #[.int .i64 y, .int .i64 m, .int .i64 d, .int .i64 h, .int .i64 i, .float .f64 s, .int .i64 wd, .int .i64 yd] 24) = X0 at hh ⊢
  have H := Lib.hid hh
  clear hh
  refine (HFl.out _).mono ?_
  rintro e w1 ⟨rfl, rfl⟩
  obtain ⟨t0, t1, t2, t3, t4, t5, t6, t7⟩ := row8p (H.out.rows _ (.head _))
  go_wp2_with fail
  refine (HDy.out _).mono ?_
  rintro e w2 ⟨rfl, hb⟩
  have hh := H.out.below hb
  clear H hb t0 t1 t2 t3 t4 t5 t6 t7
  have H := Lib.hid hh
  clear hh
  go_wp2_with fail
  refine (HWk.out _).mono ?_
  rintro e w3 ⟨rfl, hb⟩
  have hh := H.out.below hb
  clear H hb HFl HDy HWk
  have H := Lib.hid hh
  clear hh
  obtain ⟨t0, t1, t2, t3, t4, t5, t6, t7⟩ := row8p (H.out.rows _ (.head _))
  go_wp2_with fail
  have HB := Lib.hid H.out.bel
  refine bodyPost_ret (v := .tuple #[.string _, .bool true]) (by simp [results, Tryz.results77, go_sem]; rfl) rfl ⟨?_, HB.out⟩
  rw [HTX.out]
  all_goals rfl
set_option maxRecDepth 100000 in
set_option maxHeartbeats 4000000 in
theorem rpc_90 (Q : PcQ y m d a s) (wd yd : Int) (w : World) : Calls Tryz.prog 77 #[.agg (timeV y m d (a % 86400 / 3600) (a % 86400 / 60 % 60) s wd yd), .int .i64 a, .int .u8 90] w fun e w' => e = .returned (.tuple #[.string ⟨((semP (mkMom y m d a) 90).getD []).toArray⟩, .bool true]) ∧ Below w.heap.size w w' := by
  have hsf := run_store_float Tryz.prog
  obtain ⟨h, i, n, wk, b0, iy, iw, fs, fm, q1, ss, K⟩ := Q.know
  have HTX := Lib.hid (K.txt_90)
  rw [K.eh, K.ei]
  have HFl := Lib.hid (fun w => rfloor_any a 86400 (by have := K.ba; omega) (by have := K.ba; omega) (by omega) (by omega) w)
  rw [K.en] at HFl
  have HDy := Lib.hid (fun w => rDay_yes y 0 1 K.ok1 w)
  rw [K.eb] at HDy
  have HWk := Lib.hid (fun w => rWeeks_of y m d K.ok w)
  rw [K.en2, K.eiy, K.eiw, K.efs, K.efm] at HWk
  obtain ⟨ba, by', bm, bd, bh, bi, bn, bwk, bb, biy, biw, bfs, bfm, bq1, bss⟩ := K.bounds
  have hq1 := K.r1
  have hq2 := K.r2
  have hq3 := K.r3
  have hq4 := K.r4
  have hq5 := K.r5
  have HK := Lib.hid K
  clear K
  unfold timeV
  go_enter Tryz.func77, Tryz.ntmps77
  go_wp2_with fail
  have hh := (HW.start w).one #[.int .i64 y, .int .i64 m, .int .i64 d, .int .i64 h, .int .i64 i, .float .f64 s, .int .i64 wd, .int .i64 yd] 24
  generalize w.alloc (.cells #[.int .i64 y, .int .i64 m, .int .i64 d, .int .i64 h, .int .i64 i, .float .f64 s, .int .i64 wd, .int .i64 yd] 24) = X0 at hh ⊢
  have H := Lib.hid hh
  clear hh
  refine (HFl.out _).mono ?_
  rintro e w1 ⟨rfl, rfl⟩
  obtain ⟨t0, t1, t2, t3, t4, t5, t6, t7⟩ := row8p (H.out.rows _ (.head _))
  go_wp2_with fail
  refine (HDy.out _).mono ?_
  rintro e w2 ⟨rfl, hb⟩
  have hh := H.out.below hb
  clear H hb t0 t1 t2 t3 t4 t5 t6 t7
  have H := Lib.hid hh
  clear hh
  go_wp2_with fail
  refine (HWk.out _).mono ?_
  rintro e w3 ⟨rfl, hb⟩
  have hh := H.out.below hb
  clear H hb HFl HDy HWk
  have H := Lib.hid hh
  clear hh
  obtain ⟨t0, t1, t2, t3, t4, t5, t6, t7⟩ := row8p (H.out.rows _ (.head _))
  go_wp2_with fail
  have HB := Lib.hid H.out.bel
  refine bodyPost_ret (v := .tuple #[.string _, .bool true]) (by simp [results, Tryz.results77, go_sem]; rfl) rfl ⟨?_, HB.out⟩
  rw [HTX.out]
  all_goals rfl
set_option maxRecDepth 100000 in
set_option maxHeartbeats 4000000 in
theorem rpc_none (c : Nat) (g97 : ¬ (c : Int) = 97) (g65 : ¬ (c : Int) = 65) (g98 : ¬ (c : Int) = 98) (g104 : ¬ (c : Int) = 104) (g66 : ¬ (c : Int) = 66) (g89 : ¬ (c : Int) = 89) (g67 : ¬ (c : Int) = 67) (g121 : ¬ (c : Int) = 121) (g109 : ¬ (c : Int) = 109) (g100 : ¬ (c : Int) = 100) (g101 : ¬ (c : Int) = 101) (g72 : ¬ (c : Int) = 72) (g107 : ¬ (c : Int) = 107) (g73 : ¬ (c : Int) = 73) (g108 : ¬ (c : Int) = 108) (g77 : ¬ (c : Int) = 77) (g83 : ¬ (c : Int) = 83) (g106 : ¬ (c : Int) = 106) (g112 : ¬ (c : Int) = 112) (g80 : ¬ (c : Int) = 80) (g117 : ¬ (c : Int) = 117) (g119 : ¬ (c : Int) = 119) (g85 : ¬ (c : Int) = 85) (g87 : ¬ (c : Int) = 87) (g86 : ¬ (c : Int) = 86) (g71 : ¬ (c : Int) = 71) (g103 : ¬ (c : Int) = 103) (g115 : ¬ (c : Int) = 115) (g110 : ¬ (c : Int) = 110) (g116 : ¬ (c : Int) = 116) (g37 : ¬ (c : Int) = 37) (g122 : ¬ (c : Int) = 122) (g90 : ¬ (c : Int) = 90) (Q : PcQ y m d a s) (wd yd : Int) (w : World) : Calls Tryz.prog 77 #[.agg (timeV y m d (a % 86400 / 3600) (a % 86400 / 60 % 60) s wd yd), .int .i64 a, .int .u8 (c : Int)] w fun e w' => e = .returned (.tuple #[.string ⟨#[]⟩, .bool false]) ∧ Below w.heap.size w w' := by
  have hsf := run_store_float Tryz.prog
  obtain ⟨h, i, n, wk, b0, iy, iw, fs, fm, q1, ss, K⟩ := Q.know
  rw [K.eh, K.ei]
  have HFl := Lib.hid (fun w => rfloor_any a 86400 (by have := K.ba; omega) (by have := K.ba; omega) (by omega) (by omega) w)
  rw [K.en] at HFl
  have HDy := Lib.hid (fun w => rDay_yes y 0 1 K.ok1 w)
  rw [K.eb] at HDy
  have HWk := Lib.hid (fun w => rWeeks_of y m d K.ok w)
  rw [K.en2, K.eiy, K.eiw, K.efs, K.efm] at HWk
  obtain ⟨ba, by', bm, bd, bh, bi, bn, bwk, bb, biy, biw, bfs, bfm, bq1, bss⟩ := K.bounds
  have hq1 := K.r1
  have hq2 := K.r2
  have hq3 := K.r3
  have hq4 := K.r4
  have hq5 := K.r5
  have HK := Lib.hid K
  clear K
  unfold timeV
  go_enter Tryz.func77, Tryz.ntmps77
  go_wp2_with fail
  have hh := (HW.start w).one #[.int .i64 y, .int .i64 m, .int .i64 d, .int .i64 h, .int .i64 i, .float .f64 s, .int .i64 wd, .int .i64 yd] 24
  generalize w.alloc (.cells #[.int .i64 y, .int .i64 m, .int .i64 d, .int .i64 h, .int .i64 i, .float .f64 s, .int .i64 wd, .int .i64 yd] 24) = X0 at hh ⊢
  have H := Lib.hid hh
  clear hh
  refine (HFl.out _).mono ?_
  rintro e w1 ⟨rfl, rfl⟩
  obtain ⟨t0, t1, t2, t3, t4, t5, t6, t7⟩ := row8p (H.out.rows _ (.head _))
  go_wp2_with fail
  refine (HDy.out _).mono ?_
  rintro e w2 ⟨rfl, hb⟩
  have hh := H.out.below hb
  clear H hb t0 t1 t2 t3 t4 t5 t6 t7
  have H := Lib.hid hh
  clear hh
  go_wp2_with fail
  refine (HWk.out _).mono ?_
  rintro e w3 ⟨rfl, hb⟩
  have hh := H.out.below hb
  clear H hb HFl HDy HWk
  have H := Lib.hid hh
  clear hh
  obtain ⟨t0, t1, t2, t3, t4, t5, t6, t7⟩ := row8p (H.out.rows _ (.head _))
  go_wp2_with fail
  have HB := Lib.hid H.out.bel
  refine bodyPost_ret (v := .tuple #[.string ⟨#[]⟩, .bool false]) (by simp [results, Tryz.results77, go_sem]) rfl ⟨rfl, HB.out⟩
end Go.Proofs.YtebekdgoabhekaaGreatDoor
namespace Go.Proofs.YtebekdgoabhekaaGreatDoor
open Go Go.RowKit Go.Shelf
variable {y m d a : Int} {s : Nat}

/-- What piece answers. -/
def PieceP (M : Mom) (c : Nat) (w : World) (e : Ending) (w' : World) : Prop := (match semP M c with
    | some t => e = .returned (.tuple #[.string ⟨t.toArray⟩, .bool true])
    | none => e = .returned (.tuple #[.string ⟨#[]⟩, .bool false])) ∧ Below w.heap.size w w'
theorem pieceP_some {M : Mom} {c : Nat} {w : World} {e : Ending} {w' : World} (hs : (semP M c).isSome = true) (h : e = .returned (.tuple #[.string ⟨((semP M c).getD []).toArray⟩, .bool true]) ∧ Below w.heap.size w w') : PieceP M c w e w' := by
  unfold PieceP
  obtain ⟨t, ht⟩ := Option.isSome_iff_exists.1 hs
  rw [ht] at h ⊢
  exact h
theorem rPiece_any (Q : PcQ y m d a s) (wd yd : Int) (c : Nat) (w : World) : Calls Tryz.prog 77 #[.agg (timeV y m d (a % 86400 / 3600) (a % 86400 / 60 % 60) s wd yd), .int .i64 a, .int .u8 (c : Int)] w fun e w' => PieceP (mkMom y m d a) c w e w' := by
  by_cases h97 : c = 97
  · subst h97
    exact (rpc_97 Q wd yd w).mono fun _ _ h => pieceP_some rfl h
  by_cases h65 : c = 65
  · subst h65
    exact (rpc_65 Q wd yd w).mono fun _ _ h => pieceP_some rfl h
  by_cases h98 : c = 98
  · subst h98
    exact (rpc_98 Q wd yd w).mono fun _ _ h => pieceP_some rfl h
  by_cases h104 : c = 104
  · subst h104
    exact (rpc_104 Q wd yd w).mono fun _ _ h => pieceP_some rfl h
  by_cases h66 : c = 66
  · subst h66
    exact (rpc_66 Q wd yd w).mono fun _ _ h => pieceP_some rfl h
  by_cases h89 : c = 89
  · subst h89
    exact (rpc_89 Q wd yd w).mono fun _ _ h => pieceP_some rfl h
  by_cases h67 : c = 67
  · subst h67
    exact (rpc_67 Q wd yd w).mono fun _ _ h => pieceP_some rfl h
  by_cases h121 : c = 121
  · subst h121
    exact (rpc_121 Q wd yd w).mono fun _ _ h => pieceP_some rfl h
  by_cases h109 : c = 109
  · subst h109
    exact (rpc_109 Q wd yd w).mono fun _ _ h => pieceP_some rfl h
  by_cases h100 : c = 100
  · subst h100
    exact (rpc_100 Q wd yd w).mono fun _ _ h => pieceP_some rfl h
  by_cases h101 : c = 101
  · subst h101
    exact (rpc_101 Q wd yd w).mono fun _ _ h => pieceP_some rfl h
  by_cases h72 : c = 72
  · subst h72
    exact (rpc_72 Q wd yd w).mono fun _ _ h => pieceP_some rfl h
  by_cases h107 : c = 107
  · subst h107
    exact (rpc_107 Q wd yd w).mono fun _ _ h => pieceP_some rfl h
  by_cases h73 : c = 73
  · subst h73
    exact (rpc_73 Q wd yd w).mono fun _ _ h => pieceP_some rfl h
  by_cases h108 : c = 108
  · subst h108
    exact (rpc_108 Q wd yd w).mono fun _ _ h => pieceP_some rfl h
  by_cases h77 : c = 77
  · subst h77
    exact (rpc_77 Q wd yd w).mono fun _ _ h => pieceP_some rfl h
  by_cases h83 : c = 83
  · subst h83
    exact (rpc_83 Q wd yd w).mono fun _ _ h => pieceP_some rfl h
  by_cases h106 : c = 106
  · subst h106
    exact (rpc_106 Q wd yd w).mono fun _ _ h => pieceP_some rfl h
  by_cases h112 : c = 112
  · subst h112
    exact (rpc_112 Q wd yd w).mono fun _ _ h => pieceP_some rfl h
  by_cases h80 : c = 80
  · subst h80
    exact (rpc_80 Q wd yd w).mono fun _ _ h => pieceP_some rfl h
  by_cases h117 : c = 117
  · subst h117
    exact (rpc_117 Q wd yd w).mono fun _ _ h => pieceP_some rfl h
  by_cases h119 : c = 119
  · subst h119
    exact (rpc_119 Q wd yd w).mono fun _ _ h => pieceP_some rfl h
  by_cases h85 : c = 85
  · subst h85
    exact (rpc_85 Q wd yd w).mono fun _ _ h => pieceP_some rfl h
  by_cases h87 : c = 87
  · subst h87
    exact (rpc_87 Q wd yd w).mono fun _ _ h => pieceP_some rfl h
  by_cases h86 : c = 86
  · subst h86
    exact (rpc_86 Q wd yd w).mono fun _ _ h => pieceP_some rfl h
  by_cases h71 : c = 71
  · subst h71
    exact (rpc_71 Q wd yd w).mono fun _ _ h => pieceP_some rfl h
  by_cases h103 : c = 103
  · subst h103
    exact (rpc_103 Q wd yd w).mono fun _ _ h => pieceP_some rfl h
  by_cases h115 : c = 115
  · subst h115
    exact (rpc_115 Q wd yd w).mono fun _ _ h => pieceP_some rfl h
  by_cases h110 : c = 110
  · subst h110
    exact (rpc_110 Q wd yd w).mono fun _ _ h => pieceP_some rfl h
  by_cases h116 : c = 116
  · subst h116
    exact (rpc_116 Q wd yd w).mono fun _ _ h => pieceP_some rfl h
  by_cases h37 : c = 37
  · subst h37
    exact (rpc_37 Q wd yd w).mono fun _ _ h => pieceP_some rfl h
  by_cases h122 : c = 122
  · subst h122
    exact (rpc_122 Q wd yd w).mono fun _ _ h => pieceP_some rfl h
  by_cases h90 : c = 90
  · subst h90
    exact (rpc_90 Q wd yd w).mono fun _ _ h => pieceP_some rfl h
  refine (rpc_none c (by omega) (by omega) (by omega) (by omega) (by omega) (by omega) (by omega) (by omega) (by omega) (by omega) (by omega) (by omega) (by omega) (by omega) (by omega) (by omega) (by omega) (by omega) (by omega) (by omega) (by omega) (by omega) (by omega) (by omega) (by omega) (by omega) (by omega) (by omega) (by omega) (by omega) (by omega) (by omega) (by omega) Q wd yd w).mono fun e w1 h => ?_
  unfold PieceP
  have e0 : semP (mkMom y m d a) c = none := by
    unfold semP plainW
    rw [if_neg h97, if_neg h65, if_neg h98, if_neg h104, if_neg h66, if_neg h112, if_neg h80, if_neg h110, if_neg h116, if_neg h37, if_neg h122, if_neg h90, if_neg h89, if_neg h67, if_neg h121, if_neg h109, if_neg h100, if_neg h101, if_neg h72, if_neg h107, if_neg h73, if_neg h108, if_neg h77, if_neg h83, if_neg h106, if_neg h117, if_neg h119, if_neg h85, if_neg h87, if_neg h86, if_neg h71, if_neg h103, if_neg h115]
    rfl
  rw [e0]
  exact h
end Go.Proofs.YtebekdgoabhekaaGreatDoor

/- The document's reading: each directive of a number. -/
import Derived.Test.YtpjncnoejdaplaaGreatDoorLBI
namespace Go.Proofs.YtpjncnoejdaplaaGreatDoor
open Go Go.RowKit Go.Shelf

set_option maxRecDepth 100000 in
set_option maxHeartbeats 4000000 in
theorem rdir_89 (rb : Nat) (r : Dr) (hl : r.s.length ≤ 70368744177664) (w : World) (h : DrAt w rb r) :
    Calls Tryz.prog 86 #[.pointer (some ⟨rb, 0, none⟩), .int .u8 89] w fun e w' => e = .returned (.tuple #[]) ∧ DrPost rb w (RP.stepD r (.num 4 0 9999 1)) w' := by
  have hb := numD_bd 4 0 9999 (by decide) r
  have hq := rnumber_any 4 (by decide) 0 9999 rb r hl w h
  have he : RP.stepD r (.num 4 0 9999 1) = tellD 1 (numD 4 0 9999 r).1 (numD 4 0 9999 r).2 := rfl
  obtain ⟨n, hn⟩ : ∃ n, (numD 4 0 9999 r).1 = n := ⟨_, rfl⟩
  obtain ⟨r2, hr2⟩ : ∃ r2, (numD 4 0 9999 r).2 = r2 := ⟨_, rfl⟩
  rw [hn, hr2] at hq he
  rw [hn] at hb
  obtain ⟨b1, b2⟩ := hb
  have HQ := Lib.hid hq
  have HE := Lib.hid he
  clear h hq he hn hr2 hl
  go_enter Tryz.func86, Tryz.ntmps86
  go_wp2_with fail
  refine HQ.out.mono ?_
  rintro e w1 ⟨rfl, h1⟩
  have H1 := Lib.hid h1
  have z2 := h1.1.ice 2
  have c2 := h1.1.cell 2 _ rfl
  have z6 := h1.1.ice 6
  have c6 := h1.1.cell 6 _ rfl
  have z5 := h1.1.ice 5
  have c5 := h1.1.cell 5 _ rfl
  clear h1
  go_wp2_with fail
  go_end0
  rw [HE.out]
  exact ⟨rfl, (((H1.out.put 2 (.int .i64 n) ({ r2 with year := n }) rfl).put 6 (.bool true) ({ r2 with year := n, anyY := true }) rfl).put 5 (.bool false) ({ r2 with year := n, anyY := true, late := false }) rfl)⟩
set_option maxRecDepth 100000 in
set_option maxHeartbeats 4000000 in
theorem rdir_67 (rb : Nat) (r : Dr) (hl : r.s.length ≤ 70368744177664) (w : World) (h : DrAt w rb r) :
    Calls Tryz.prog 86 #[.pointer (some ⟨rb, 0, none⟩), .int .u8 67] w fun e w' => e = .returned (.tuple #[]) ∧ DrPost rb w (RP.stepD r (.num 2 0 99 2)) w' := by
  have hb := numD_bd 2 0 99 (by decide) r
  have hq := rnumber_any 2 (by decide) 0 99 rb r hl w h
  have he : RP.stepD r (.num 2 0 99 2) = tellD 2 (numD 2 0 99 r).1 (numD 2 0 99 r).2 := rfl
  obtain ⟨n, hn⟩ : ∃ n, (numD 2 0 99 r).1 = n := ⟨_, rfl⟩
  obtain ⟨r2, hr2⟩ : ∃ r2, (numD 2 0 99 r).2 = r2 := ⟨_, rfl⟩
  rw [hn, hr2] at hq he
  rw [hn] at hb
  obtain ⟨b1, b2⟩ := hb
  have HQ := Lib.hid hq
  have HE := Lib.hid he
  clear h hq he hn hr2 hl
  go_enter Tryz.func86, Tryz.ntmps86
  go_wp2_with fail
  refine HQ.out.mono ?_
  rintro e w1 ⟨rfl, h1⟩
  have H1 := Lib.hid h1
  have z3 := h1.1.ice 3
  have c3 := h1.1.cell 3 _ rfl
  have z5 := h1.1.ice 5
  have c5 := h1.1.cell 5 _ rfl
  clear h1
  go_wp2_with fail
  go_end0
  rw [HE.out]
  exact ⟨rfl, ((H1.out.put 3 (.int .i64 n) ({ r2 with cent := n }) rfl).put 5 (.bool true) ({ r2 with cent := n, late := true }) rfl)⟩
set_option maxRecDepth 100000 in
set_option maxHeartbeats 4000000 in
theorem rdir_121 (rb : Nat) (r : Dr) (hl : r.s.length ≤ 70368744177664) (w : World) (h : DrAt w rb r) :
    Calls Tryz.prog 86 #[.pointer (some ⟨rb, 0, none⟩), .int .u8 121] w fun e w' => e = .returned (.tuple #[]) ∧ DrPost rb w (RP.stepD r (.num 2 0 99 3)) w' := by
  have hb := numD_bd 2 0 99 (by decide) r
  have hq := rnumber_any 2 (by decide) 0 99 rb r hl w h
  have he : RP.stepD r (.num 2 0 99 3) = tellD 3 (numD 2 0 99 r).1 (numD 2 0 99 r).2 := rfl
  obtain ⟨n, hn⟩ : ∃ n, (numD 2 0 99 r).1 = n := ⟨_, rfl⟩
  obtain ⟨r2, hr2⟩ : ∃ r2, (numD 2 0 99 r).2 = r2 := ⟨_, rfl⟩
  rw [hn, hr2] at hq he
  rw [hn] at hb
  obtain ⟨b1, b2⟩ := hb
  have HQ := Lib.hid hq
  have HE := Lib.hid he
  clear h hq he hn hr2 hl
  go_enter Tryz.func86, Tryz.ntmps86
  go_wp2_with fail
  refine HQ.out.mono ?_
  rintro e w1 ⟨rfl, h1⟩
  have H1 := Lib.hid h1
  have z4 := h1.1.ice 4
  have c4 := h1.1.cell 4 _ rfl
  have z5 := h1.1.ice 5
  have c5 := h1.1.cell 5 _ rfl
  clear h1
  go_wp2_with fail
  go_end0
  rw [HE.out]
  exact ⟨rfl, ((H1.out.put 4 (.int .i64 n) ({ r2 with two := n }) rfl).put 5 (.bool true) ({ r2 with two := n, late := true }) rfl)⟩
set_option maxRecDepth 100000 in
set_option maxHeartbeats 4000000 in
theorem rdir_109 (rb : Nat) (r : Dr) (hl : r.s.length ≤ 70368744177664) (w : World) (h : DrAt w rb r) :
    Calls Tryz.prog 86 #[.pointer (some ⟨rb, 0, none⟩), .int .u8 109] w fun e w' => e = .returned (.tuple #[]) ∧ DrPost rb w (RP.stepD r (.num 2 1 12 4)) w' := by
  have hb := numD_bd 2 1 12 (by decide) r
  have hq := rnumber_any 2 (by decide) 1 12 rb r hl w h
  have he : RP.stepD r (.num 2 1 12 4) = tellD 4 (numD 2 1 12 r).1 (numD 2 1 12 r).2 := rfl
  obtain ⟨n, hn⟩ : ∃ n, (numD 2 1 12 r).1 = n := ⟨_, rfl⟩
  obtain ⟨r2, hr2⟩ : ∃ r2, (numD 2 1 12 r).2 = r2 := ⟨_, rfl⟩
  rw [hn, hr2] at hq he
  rw [hn] at hb
  obtain ⟨b1, b2⟩ := hb
  have HQ := Lib.hid hq
  have HE := Lib.hid he
  clear h hq he hn hr2 hl
  go_enter Tryz.func86, Tryz.ntmps86
  go_wp2_with fail
  refine HQ.out.mono ?_
  rintro e w1 ⟨rfl, h1⟩
  have H1 := Lib.hid h1
  have z7 := h1.1.ice 7
  have c7 := h1.1.cell 7 _ rfl
  have z9 := h1.1.ice 9
  have c9 := h1.1.cell 9 _ rfl
  clear h1
  go_wp2_with fail
  go_end0
  rw [HE.out]
  exact ⟨rfl, ((H1.out.put 7 (.int .i64 (n - 1)) ({ r2 with month := n - 1 }) rfl).put 9 (.bool true) ({ r2 with month := n - 1, date := true }) rfl)⟩
set_option maxRecDepth 100000 in
set_option maxHeartbeats 4000000 in
theorem rdir_100 (rb : Nat) (r : Dr) (hl : r.s.length ≤ 70368744177664) (w : World) (h : DrAt w rb r) :
    Calls Tryz.prog 86 #[.pointer (some ⟨rb, 0, none⟩), .int .u8 100] w fun e w' => e = .returned (.tuple #[]) ∧ DrPost rb w (RP.stepD r (.num 2 1 31 5)) w' := by
  have hb := numD_bd 2 1 31 (by decide) r
  have hq := rnumber_any 2 (by decide) 1 31 rb r hl w h
  have he : RP.stepD r (.num 2 1 31 5) = tellD 5 (numD 2 1 31 r).1 (numD 2 1 31 r).2 := rfl
  obtain ⟨n, hn⟩ : ∃ n, (numD 2 1 31 r).1 = n := ⟨_, rfl⟩
  obtain ⟨r2, hr2⟩ : ∃ r2, (numD 2 1 31 r).2 = r2 := ⟨_, rfl⟩
  rw [hn, hr2] at hq he
  rw [hn] at hb
  obtain ⟨b1, b2⟩ := hb
  have HQ := Lib.hid hq
  have HE := Lib.hid he
  clear h hq he hn hr2 hl
  go_enter Tryz.func86, Tryz.ntmps86
  go_wp2_with fail
  refine HQ.out.mono ?_
  rintro e w1 ⟨rfl, h1⟩
  have H1 := Lib.hid h1
  have z8 := h1.1.ice 8
  have c8 := h1.1.cell 8 _ rfl
  have z9 := h1.1.ice 9
  have c9 := h1.1.cell 9 _ rfl
  clear h1
  go_wp2_with fail
  go_end0
  rw [HE.out]
  exact ⟨rfl, ((H1.out.put 8 (.int .i64 n) ({ r2 with day := n }) rfl).put 9 (.bool true) ({ r2 with day := n, date := true }) rfl)⟩
set_option maxRecDepth 100000 in
set_option maxHeartbeats 4000000 in
theorem rdir_101 (rb : Nat) (r : Dr) (hl : r.s.length ≤ 70368744177664) (w : World) (h : DrAt w rb r) :
    Calls Tryz.prog 86 #[.pointer (some ⟨rb, 0, none⟩), .int .u8 101] w fun e w' => e = .returned (.tuple #[]) ∧ DrPost rb w (RP.stepD r (.num 2 1 31 5)) w' := by
  have hb := numD_bd 2 1 31 (by decide) r
  have hq := rnumber_any 2 (by decide) 1 31 rb r hl w h
  have he : RP.stepD r (.num 2 1 31 5) = tellD 5 (numD 2 1 31 r).1 (numD 2 1 31 r).2 := rfl
  obtain ⟨n, hn⟩ : ∃ n, (numD 2 1 31 r).1 = n := ⟨_, rfl⟩
  obtain ⟨r2, hr2⟩ : ∃ r2, (numD 2 1 31 r).2 = r2 := ⟨_, rfl⟩
  rw [hn, hr2] at hq he
  rw [hn] at hb
  obtain ⟨b1, b2⟩ := hb
  have HQ := Lib.hid hq
  have HE := Lib.hid he
  clear h hq he hn hr2 hl
  go_enter Tryz.func86, Tryz.ntmps86
  go_wp2_with fail
  refine HQ.out.mono ?_
  rintro e w1 ⟨rfl, h1⟩
  have H1 := Lib.hid h1
  have z8 := h1.1.ice 8
  have c8 := h1.1.cell 8 _ rfl
  have z9 := h1.1.ice 9
  have c9 := h1.1.cell 9 _ rfl
  clear h1
  go_wp2_with fail
  go_end0
  rw [HE.out]
  exact ⟨rfl, ((H1.out.put 8 (.int .i64 n) ({ r2 with day := n }) rfl).put 9 (.bool true) ({ r2 with day := n, date := true }) rfl)⟩
set_option maxRecDepth 100000 in
set_option maxHeartbeats 4000000 in
theorem rdir_72 (rb : Nat) (r : Dr) (hl : r.s.length ≤ 70368744177664) (w : World) (h : DrAt w rb r) :
    Calls Tryz.prog 86 #[.pointer (some ⟨rb, 0, none⟩), .int .u8 72] w fun e w' => e = .returned (.tuple #[]) ∧ DrPost rb w (RP.stepD r (.num 2 0 23 7)) w' := by
  have hb := numD_bd 2 0 23 (by decide) r
  have hq := rnumber_any 2 (by decide) 0 23 rb r hl w h
  have he : RP.stepD r (.num 2 0 23 7) = tellD 7 (numD 2 0 23 r).1 (numD 2 0 23 r).2 := rfl
  obtain ⟨n, hn⟩ : ∃ n, (numD 2 0 23 r).1 = n := ⟨_, rfl⟩
  obtain ⟨r2, hr2⟩ : ∃ r2, (numD 2 0 23 r).2 = r2 := ⟨_, rfl⟩
  rw [hn, hr2] at hq he
  rw [hn] at hb
  obtain ⟨b1, b2⟩ := hb
  have HQ := Lib.hid hq
  have HE := Lib.hid he
  clear h hq he hn hr2 hl
  go_enter Tryz.func86, Tryz.ntmps86
  go_wp2_with fail
  refine HQ.out.mono ?_
  rintro e w1 ⟨rfl, h1⟩
  have H1 := Lib.hid h1
  have z11 := h1.1.ice 11
  have c11 := h1.1.cell 11 _ rfl
  have z13 := h1.1.ice 13
  have c13 := h1.1.cell 13 _ rfl
  clear h1
  go_wp2_with fail
  go_end0
  rw [HE.out]
  exact ⟨rfl, ((H1.out.put 11 (.int .i64 n) ({ r2 with hour := n }) rfl).put 13 (.bool false) ({ r2 with hour := n, twelv := false }) rfl)⟩
set_option maxRecDepth 100000 in
set_option maxHeartbeats 4000000 in
theorem rdir_107 (rb : Nat) (r : Dr) (hl : r.s.length ≤ 70368744177664) (w : World) (h : DrAt w rb r) :
    Calls Tryz.prog 86 #[.pointer (some ⟨rb, 0, none⟩), .int .u8 107] w fun e w' => e = .returned (.tuple #[]) ∧ DrPost rb w (RP.stepD r (.num 2 0 23 7)) w' := by
  have hb := numD_bd 2 0 23 (by decide) r
  have hq := rnumber_any 2 (by decide) 0 23 rb r hl w h
  have he : RP.stepD r (.num 2 0 23 7) = tellD 7 (numD 2 0 23 r).1 (numD 2 0 23 r).2 := rfl
  obtain ⟨n, hn⟩ : ∃ n, (numD 2 0 23 r).1 = n := ⟨_, rfl⟩
  obtain ⟨r2, hr2⟩ : ∃ r2, (numD 2 0 23 r).2 = r2 := ⟨_, rfl⟩
  rw [hn, hr2] at hq he
  rw [hn] at hb
  obtain ⟨b1, b2⟩ := hb
  have HQ := Lib.hid hq
  have HE := Lib.hid he
  clear h hq he hn hr2 hl
  go_enter Tryz.func86, Tryz.ntmps86
  go_wp2_with fail
  refine HQ.out.mono ?_
  rintro e w1 ⟨rfl, h1⟩
  have H1 := Lib.hid h1
  have z11 := h1.1.ice 11
  have c11 := h1.1.cell 11 _ rfl
  have z13 := h1.1.ice 13
  have c13 := h1.1.cell 13 _ rfl
  clear h1
  go_wp2_with fail
  go_end0
  rw [HE.out]
  exact ⟨rfl, ((H1.out.put 11 (.int .i64 n) ({ r2 with hour := n }) rfl).put 13 (.bool false) ({ r2 with hour := n, twelv := false }) rfl)⟩
set_option maxRecDepth 100000 in
set_option maxHeartbeats 4000000 in
theorem rdir_73 (rb : Nat) (r : Dr) (hl : r.s.length ≤ 70368744177664) (w : World) (h : DrAt w rb r) :
    Calls Tryz.prog 86 #[.pointer (some ⟨rb, 0, none⟩), .int .u8 73] w fun e w' => e = .returned (.tuple #[]) ∧ DrPost rb w (RP.stepD r (.num 2 1 12 8)) w' := by
  have hb := numD_bd 2 1 12 (by decide) r
  have hq := rnumber_any 2 (by decide) 1 12 rb r hl w h
  have he : RP.stepD r (.num 2 1 12 8) = tellD 8 (numD 2 1 12 r).1 (numD 2 1 12 r).2 := rfl
  obtain ⟨n, hn⟩ : ∃ n, (numD 2 1 12 r).1 = n := ⟨_, rfl⟩
  obtain ⟨r2, hr2⟩ : ∃ r2, (numD 2 1 12 r).2 = r2 := ⟨_, rfl⟩
  rw [hn, hr2] at hq he
  rw [hn] at hb
  obtain ⟨b1, b2⟩ := hb
  have HQ := Lib.hid hq
  have HE := Lib.hid he
  clear h hq he hn hr2 hl
  go_enter Tryz.func86, Tryz.ntmps86
  go_wp2_with fail
  refine HQ.out.mono ?_
  rintro e w1 ⟨rfl, h1⟩
  have H1 := Lib.hid h1
  have z11 := h1.1.ice 11
  have c11 := h1.1.cell 11 _ rfl
  have z13 := h1.1.ice 13
  have c13 := h1.1.cell 13 _ rfl
  clear h1
  go_wp2_with fail
  go_end0
  rw [HE.out]
  exact ⟨rfl, ((H1.out.put 11 (.int .i64 (n % 12)) ({ r2 with hour := n % 12 }) rfl).put 13 (.bool true) ({ r2 with hour := n % 12, twelv := true }) rfl)⟩
set_option maxRecDepth 100000 in
set_option maxHeartbeats 4000000 in
theorem rdir_108 (rb : Nat) (r : Dr) (hl : r.s.length ≤ 70368744177664) (w : World) (h : DrAt w rb r) :
    Calls Tryz.prog 86 #[.pointer (some ⟨rb, 0, none⟩), .int .u8 108] w fun e w' => e = .returned (.tuple #[]) ∧ DrPost rb w (RP.stepD r (.num 2 1 12 8)) w' := by
  have hb := numD_bd 2 1 12 (by decide) r
  have hq := rnumber_any 2 (by decide) 1 12 rb r hl w h
  have he : RP.stepD r (.num 2 1 12 8) = tellD 8 (numD 2 1 12 r).1 (numD 2 1 12 r).2 := rfl
  obtain ⟨n, hn⟩ : ∃ n, (numD 2 1 12 r).1 = n := ⟨_, rfl⟩
  obtain ⟨r2, hr2⟩ : ∃ r2, (numD 2 1 12 r).2 = r2 := ⟨_, rfl⟩
  rw [hn, hr2] at hq he
  rw [hn] at hb
  obtain ⟨b1, b2⟩ := hb
  have HQ := Lib.hid hq
  have HE := Lib.hid he
  clear h hq he hn hr2 hl
  go_enter Tryz.func86, Tryz.ntmps86
  go_wp2_with fail
  refine HQ.out.mono ?_
  rintro e w1 ⟨rfl, h1⟩
  have H1 := Lib.hid h1
  have z11 := h1.1.ice 11
  have c11 := h1.1.cell 11 _ rfl
  have z13 := h1.1.ice 13
  have c13 := h1.1.cell 13 _ rfl
  clear h1
  go_wp2_with fail
  go_end0
  rw [HE.out]
  exact ⟨rfl, ((H1.out.put 11 (.int .i64 (n % 12)) ({ r2 with hour := n % 12 }) rfl).put 13 (.bool true) ({ r2 with hour := n % 12, twelv := true }) rfl)⟩
set_option maxRecDepth 100000 in
set_option maxHeartbeats 4000000 in
theorem rdir_77 (rb : Nat) (r : Dr) (hl : r.s.length ≤ 70368744177664) (w : World) (h : DrAt w rb r) :
    Calls Tryz.prog 86 #[.pointer (some ⟨rb, 0, none⟩), .int .u8 77] w fun e w' => e = .returned (.tuple #[]) ∧ DrPost rb w (RP.stepD r (.num 2 0 59 10)) w' := by
  have hb := numD_bd 2 0 59 (by decide) r
  have hq := rnumber_any 2 (by decide) 0 59 rb r hl w h
  have he : RP.stepD r (.num 2 0 59 10) = tellD 10 (numD 2 0 59 r).1 (numD 2 0 59 r).2 := rfl
  obtain ⟨n, hn⟩ : ∃ n, (numD 2 0 59 r).1 = n := ⟨_, rfl⟩
  obtain ⟨r2, hr2⟩ : ∃ r2, (numD 2 0 59 r).2 = r2 := ⟨_, rfl⟩
  rw [hn, hr2] at hq he
  rw [hn] at hb
  obtain ⟨b1, b2⟩ := hb
  have HQ := Lib.hid hq
  have HE := Lib.hid he
  clear h hq he hn hr2 hl
  go_enter Tryz.func86, Tryz.ntmps86
  go_wp2_with fail
  refine HQ.out.mono ?_
  rintro e w1 ⟨rfl, h1⟩
  have H1 := Lib.hid h1
  have z14 := h1.1.ice 14
  have c14 := h1.1.cell 14 _ rfl
  clear h1
  go_wp2_with fail
  go_end0
  rw [HE.out]
  exact ⟨rfl, (H1.out.put 14 (.int .i64 n) ({ r2 with min := n }) rfl)⟩
set_option maxRecDepth 100000 in
set_option maxHeartbeats 4000000 in
theorem rdir_83 (rb : Nat) (r : Dr) (hl : r.s.length ≤ 70368744177664) (w : World) (h : DrAt w rb r) :
    Calls Tryz.prog 86 #[.pointer (some ⟨rb, 0, none⟩), .int .u8 83] w fun e w' => e = .returned (.tuple #[]) ∧ DrPost rb w (RP.stepD r (.num 2 0 60 11)) w' := by
  have hb := numD_bd 2 0 60 (by decide) r
  have hq := rnumber_any 2 (by decide) 0 60 rb r hl w h
  have he : RP.stepD r (.num 2 0 60 11) = tellD 11 (numD 2 0 60 r).1 (numD 2 0 60 r).2 := rfl
  obtain ⟨n, hn⟩ : ∃ n, (numD 2 0 60 r).1 = n := ⟨_, rfl⟩
  obtain ⟨r2, hr2⟩ : ∃ r2, (numD 2 0 60 r).2 = r2 := ⟨_, rfl⟩
  rw [hn, hr2] at hq he
  rw [hn] at hb
  obtain ⟨b1, b2⟩ := hb
  have HQ := Lib.hid hq
  have HE := Lib.hid he
  clear h hq he hn hr2 hl
  go_enter Tryz.func86, Tryz.ntmps86
  go_wp2_with fail
  refine HQ.out.mono ?_
  rintro e w1 ⟨rfl, h1⟩
  have H1 := Lib.hid h1
  have z15 := h1.1.ice 15
  have c15 := h1.1.cell 15 _ rfl
  clear h1
  go_wp2_with fail
  go_end0
  rw [HE.out]
  exact ⟨rfl, (H1.out.put 15 (.int .i64 n) ({ r2 with sec := n }) rfl)⟩
set_option maxRecDepth 100000 in
set_option maxHeartbeats 4000000 in
theorem rdir_106 (rb : Nat) (r : Dr) (hl : r.s.length ≤ 70368744177664) (w : World) (h : DrAt w rb r) :
    Calls Tryz.prog 86 #[.pointer (some ⟨rb, 0, none⟩), .int .u8 106] w fun e w' => e = .returned (.tuple #[]) ∧ DrPost rb w (RP.stepD r (.num 3 1 366 6)) w' := by
  have hb := numD_bd 3 1 366 (by decide) r
  have hq := rnumber_any 3 (by decide) 1 366 rb r hl w h
  have he : RP.stepD r (.num 3 1 366 6) = tellD 6 (numD 3 1 366 r).1 (numD 3 1 366 r).2 := rfl
  obtain ⟨n, hn⟩ : ∃ n, (numD 3 1 366 r).1 = n := ⟨_, rfl⟩
  obtain ⟨r2, hr2⟩ : ∃ r2, (numD 3 1 366 r).2 = r2 := ⟨_, rfl⟩
  rw [hn, hr2] at hq he
  rw [hn] at hb
  obtain ⟨b1, b2⟩ := hb
  have HQ := Lib.hid hq
  have HE := Lib.hid he
  clear h hq he hn hr2 hl
  go_enter Tryz.func86, Tryz.ntmps86
  go_wp2_with fail
  refine HQ.out.mono ?_
  rintro e w1 ⟨rfl, h1⟩
  have H1 := Lib.hid h1
  have z10 := h1.1.ice 10
  have c10 := h1.1.cell 10 _ rfl
  clear h1
  go_wp2_with fail
  go_end0
  rw [HE.out]
  exact ⟨rfl, (H1.out.put 10 (.int .i64 n) ({ r2 with yday := n }) rfl)⟩
set_option maxRecDepth 100000 in
set_option maxHeartbeats 4000000 in
theorem rdir_85 (rb : Nat) (r : Dr) (hl : r.s.length ≤ 70368744177664) (w : World) (h : DrAt w rb r) :
    Calls Tryz.prog 86 #[.pointer (some ⟨rb, 0, none⟩), .int .u8 85] w fun e w' => e = .returned (.tuple #[]) ∧ DrPost rb w (RP.stepD r (.num 2 0 53 0)) w' := by
  have hb := numD_bd 2 0 53 (by decide) r
  have hq := rnumber_any 2 (by decide) 0 53 rb r hl w h
  have he : RP.stepD r (.num 2 0 53 0) = tellD 0 (numD 2 0 53 r).1 (numD 2 0 53 r).2 := rfl
  obtain ⟨n, hn⟩ : ∃ n, (numD 2 0 53 r).1 = n := ⟨_, rfl⟩
  obtain ⟨r2, hr2⟩ : ∃ r2, (numD 2 0 53 r).2 = r2 := ⟨_, rfl⟩
  rw [hn, hr2] at hq he
  rw [hn] at hb
  obtain ⟨b1, b2⟩ := hb
  have HQ := Lib.hid hq
  have HE := Lib.hid he
  clear h hq he hn hr2 hl
  go_enter Tryz.func86, Tryz.ntmps86
  go_wp2_with fail
  refine HQ.out.mono ?_
  rintro e w1 ⟨rfl, h1⟩
  have H1 := Lib.hid h1
  clear h1
  go_wp2_with fail
  go_end0
  rw [HE.out]
  exact ⟨rfl, H1.out⟩
set_option maxRecDepth 100000 in
set_option maxHeartbeats 4000000 in
theorem rdir_87 (rb : Nat) (r : Dr) (hl : r.s.length ≤ 70368744177664) (w : World) (h : DrAt w rb r) :
    Calls Tryz.prog 86 #[.pointer (some ⟨rb, 0, none⟩), .int .u8 87] w fun e w' => e = .returned (.tuple #[]) ∧ DrPost rb w (RP.stepD r (.num 2 0 53 0)) w' := by
  have hb := numD_bd 2 0 53 (by decide) r
  have hq := rnumber_any 2 (by decide) 0 53 rb r hl w h
  have he : RP.stepD r (.num 2 0 53 0) = tellD 0 (numD 2 0 53 r).1 (numD 2 0 53 r).2 := rfl
  obtain ⟨n, hn⟩ : ∃ n, (numD 2 0 53 r).1 = n := ⟨_, rfl⟩
  obtain ⟨r2, hr2⟩ : ∃ r2, (numD 2 0 53 r).2 = r2 := ⟨_, rfl⟩
  rw [hn, hr2] at hq he
  rw [hn] at hb
  obtain ⟨b1, b2⟩ := hb
  have HQ := Lib.hid hq
  have HE := Lib.hid he
  clear h hq he hn hr2 hl
  go_enter Tryz.func86, Tryz.ntmps86
  go_wp2_with fail
  refine HQ.out.mono ?_
  rintro e w1 ⟨rfl, h1⟩
  have H1 := Lib.hid h1
  clear h1
  go_wp2_with fail
  go_end0
  rw [HE.out]
  exact ⟨rfl, H1.out⟩
set_option maxRecDepth 100000 in
set_option maxHeartbeats 4000000 in
theorem rdir_86 (rb : Nat) (r : Dr) (hl : r.s.length ≤ 70368744177664) (w : World) (h : DrAt w rb r) :
    Calls Tryz.prog 86 #[.pointer (some ⟨rb, 0, none⟩), .int .u8 86] w fun e w' => e = .returned (.tuple #[]) ∧ DrPost rb w (RP.stepD r (.num 2 0 53 0)) w' := by
  have hb := numD_bd 2 0 53 (by decide) r
  have hq := rnumber_any 2 (by decide) 0 53 rb r hl w h
  have he : RP.stepD r (.num 2 0 53 0) = tellD 0 (numD 2 0 53 r).1 (numD 2 0 53 r).2 := rfl
  obtain ⟨n, hn⟩ : ∃ n, (numD 2 0 53 r).1 = n := ⟨_, rfl⟩
  obtain ⟨r2, hr2⟩ : ∃ r2, (numD 2 0 53 r).2 = r2 := ⟨_, rfl⟩
  rw [hn, hr2] at hq he
  rw [hn] at hb
  obtain ⟨b1, b2⟩ := hb
  have HQ := Lib.hid hq
  have HE := Lib.hid he
  clear h hq he hn hr2 hl
  go_enter Tryz.func86, Tryz.ntmps86
  go_wp2_with fail
  refine HQ.out.mono ?_
  rintro e w1 ⟨rfl, h1⟩
  have H1 := Lib.hid h1
  clear h1
  go_wp2_with fail
  go_end0
  rw [HE.out]
  exact ⟨rfl, H1.out⟩
set_option maxRecDepth 100000 in
set_option maxHeartbeats 4000000 in
theorem rdir_117 (rb : Nat) (r : Dr) (hl : r.s.length ≤ 70368744177664) (w : World) (h : DrAt w rb r) :
    Calls Tryz.prog 86 #[.pointer (some ⟨rb, 0, none⟩), .int .u8 117] w fun e w' => e = .returned (.tuple #[]) ∧ DrPost rb w (RP.stepD r (.num 1 0 7 0)) w' := by
  have hb := numD_bd 1 0 7 (by decide) r
  have hq := rnumber_any 1 (by decide) 0 7 rb r hl w h
  have he : RP.stepD r (.num 1 0 7 0) = tellD 0 (numD 1 0 7 r).1 (numD 1 0 7 r).2 := rfl
  obtain ⟨n, hn⟩ : ∃ n, (numD 1 0 7 r).1 = n := ⟨_, rfl⟩
  obtain ⟨r2, hr2⟩ : ∃ r2, (numD 1 0 7 r).2 = r2 := ⟨_, rfl⟩
  rw [hn, hr2] at hq he
  rw [hn] at hb
  obtain ⟨b1, b2⟩ := hb
  have HQ := Lib.hid hq
  have HE := Lib.hid he
  clear h hq he hn hr2 hl
  go_enter Tryz.func86, Tryz.ntmps86
  go_wp2_with fail
  refine HQ.out.mono ?_
  rintro e w1 ⟨rfl, h1⟩
  have H1 := Lib.hid h1
  clear h1
  go_wp2_with fail
  go_end0
  rw [HE.out]
  exact ⟨rfl, H1.out⟩
set_option maxRecDepth 100000 in
set_option maxHeartbeats 4000000 in
theorem rdir_119 (rb : Nat) (r : Dr) (hl : r.s.length ≤ 70368744177664) (w : World) (h : DrAt w rb r) :
    Calls Tryz.prog 86 #[.pointer (some ⟨rb, 0, none⟩), .int .u8 119] w fun e w' => e = .returned (.tuple #[]) ∧ DrPost rb w (RP.stepD r (.num 1 0 7 0)) w' := by
  have hb := numD_bd 1 0 7 (by decide) r
  have hq := rnumber_any 1 (by decide) 0 7 rb r hl w h
  have he : RP.stepD r (.num 1 0 7 0) = tellD 0 (numD 1 0 7 r).1 (numD 1 0 7 r).2 := rfl
  obtain ⟨n, hn⟩ : ∃ n, (numD 1 0 7 r).1 = n := ⟨_, rfl⟩
  obtain ⟨r2, hr2⟩ : ∃ r2, (numD 1 0 7 r).2 = r2 := ⟨_, rfl⟩
  rw [hn, hr2] at hq he
  rw [hn] at hb
  obtain ⟨b1, b2⟩ := hb
  have HQ := Lib.hid hq
  have HE := Lib.hid he
  clear h hq he hn hr2 hl
  go_enter Tryz.func86, Tryz.ntmps86
  go_wp2_with fail
  refine HQ.out.mono ?_
  rintro e w1 ⟨rfl, h1⟩
  have H1 := Lib.hid h1
  clear h1
  go_wp2_with fail
  go_end0
  rw [HE.out]
  exact ⟨rfl, H1.out⟩
set_option maxRecDepth 100000 in
set_option maxHeartbeats 4000000 in
theorem rdir_71 (rb : Nat) (r : Dr) (hl : r.s.length ≤ 70368744177664) (w : World) (h : DrAt w rb r) :
    Calls Tryz.prog 86 #[.pointer (some ⟨rb, 0, none⟩), .int .u8 71] w fun e w' => e = .returned (.tuple #[]) ∧ DrPost rb w (RP.stepD r (.num 4 0 9999 0)) w' := by
  have hb := numD_bd 4 0 9999 (by decide) r
  have hq := rnumber_any 4 (by decide) 0 9999 rb r hl w h
  have he : RP.stepD r (.num 4 0 9999 0) = tellD 0 (numD 4 0 9999 r).1 (numD 4 0 9999 r).2 := rfl
  obtain ⟨n, hn⟩ : ∃ n, (numD 4 0 9999 r).1 = n := ⟨_, rfl⟩
  obtain ⟨r2, hr2⟩ : ∃ r2, (numD 4 0 9999 r).2 = r2 := ⟨_, rfl⟩
  rw [hn, hr2] at hq he
  rw [hn] at hb
  obtain ⟨b1, b2⟩ := hb
  have HQ := Lib.hid hq
  have HE := Lib.hid he
  clear h hq he hn hr2 hl
  go_enter Tryz.func86, Tryz.ntmps86
  go_wp2_with fail
  refine HQ.out.mono ?_
  rintro e w1 ⟨rfl, h1⟩
  have H1 := Lib.hid h1
  clear h1
  go_wp2_with fail
  go_end0
  rw [HE.out]
  exact ⟨rfl, H1.out⟩
set_option maxRecDepth 100000 in
set_option maxHeartbeats 4000000 in
theorem rdir_103 (rb : Nat) (r : Dr) (hl : r.s.length ≤ 70368744177664) (w : World) (h : DrAt w rb r) :
    Calls Tryz.prog 86 #[.pointer (some ⟨rb, 0, none⟩), .int .u8 103] w fun e w' => e = .returned (.tuple #[]) ∧ DrPost rb w (RP.stepD r (.num 2 0 99 0)) w' := by
  have hb := numD_bd 2 0 99 (by decide) r
  have hq := rnumber_any 2 (by decide) 0 99 rb r hl w h
  have he : RP.stepD r (.num 2 0 99 0) = tellD 0 (numD 2 0 99 r).1 (numD 2 0 99 r).2 := rfl
  obtain ⟨n, hn⟩ : ∃ n, (numD 2 0 99 r).1 = n := ⟨_, rfl⟩
  obtain ⟨r2, hr2⟩ : ∃ r2, (numD 2 0 99 r).2 = r2 := ⟨_, rfl⟩
  rw [hn, hr2] at hq he
  rw [hn] at hb
  obtain ⟨b1, b2⟩ := hb
  have HQ := Lib.hid hq
  have HE := Lib.hid he
  clear h hq he hn hr2 hl
  go_enter Tryz.func86, Tryz.ntmps86
  go_wp2_with fail
  refine HQ.out.mono ?_
  rintro e w1 ⟨rfl, h1⟩
  have H1 := Lib.hid h1
  clear h1
  go_wp2_with fail
  go_end0
  rw [HE.out]
  exact ⟨rfl, H1.out⟩
end Go.Proofs.YtpjncnoejdaplaaGreatDoor

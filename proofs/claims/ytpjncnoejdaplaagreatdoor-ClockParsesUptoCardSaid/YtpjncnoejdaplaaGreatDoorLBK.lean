/- The document's reading: the other directives. -/
import Derived.Test.YtpjncnoejdaplaaGreatDoorLBI
import Derived.LoopTactic
import Derived.BigQuiet
import Derived.Test.YtpjncnoejdaplaaGreatDoorLBJ
namespace Go.Proofs.YtpjncnoejdaplaaGreatDoor
open Go Go.RowKit Go.Shelf

set_option maxRecDepth 100000 in
set_option maxHeartbeats 4000000 in
theorem rdir_110 (rb : Nat) (r : Dr) (hl : r.s.length ≤ 70368744177664) (w : World) (h : DrAt w rb r) :
    Calls Tryz.prog 86 #[.pointer (some ⟨rb, 0, none⟩), .int .u8 110] w fun e w' => e = .returned (.tuple #[]) ∧ DrPost rb w (RP.stepD r (.many false)) w' := by
  have HQ : Hid (Calls Tryz.prog 32 #[.pointer (some ⟨rb, 0, none⟩)] w fun e w' => e = .returned (.tuple #[]) ∧ DrPost rb w (r.left (r.s.dropWhile blankB)) w') := Lib.hid (rblanks_any rb r hl w h)
  clear h hl
  go_enter Tryz.func86, Tryz.ntmps86
  go_wp2_with fail
  refine HQ.out.mono ?_
  rintro e w1 ⟨rfl, h1⟩
  have H1 := Lib.hid h1
  clear h1
  go_wp2_with fail
  go_end0
  exact ⟨rfl, H1.out⟩
set_option maxRecDepth 100000 in
set_option maxHeartbeats 4000000 in
theorem rdir_116 (rb : Nat) (r : Dr) (hl : r.s.length ≤ 70368744177664) (w : World) (h : DrAt w rb r) :
    Calls Tryz.prog 86 #[.pointer (some ⟨rb, 0, none⟩), .int .u8 116] w fun e w' => e = .returned (.tuple #[]) ∧ DrPost rb w (RP.stepD r (.many false)) w' := by
  have HQ : Hid (Calls Tryz.prog 32 #[.pointer (some ⟨rb, 0, none⟩)] w fun e w' => e = .returned (.tuple #[]) ∧ DrPost rb w (r.left (r.s.dropWhile blankB)) w') := Lib.hid (rblanks_any rb r hl w h)
  clear h hl
  go_enter Tryz.func86, Tryz.ntmps86
  go_wp2_with fail
  refine HQ.out.mono ?_
  rintro e w1 ⟨rfl, h1⟩
  have H1 := Lib.hid h1
  clear h1
  go_wp2_with fail
  go_end0
  exact ⟨rfl, H1.out⟩
set_option maxRecDepth 100000 in
set_option maxHeartbeats 4000000 in
theorem rdir_37 (rb : Nat) (r : Dr) (hl : r.s.length ≤ 70368744177664) (w : World) (h : DrAt w rb r) :
    Calls Tryz.prog 86 #[.pointer (some ⟨rb, 0, none⟩), .int .u8 37] w fun e w' => e = .returned (.tuple #[]) ∧ DrPost rb w (RP.stepD r (.percent)) w' := by
  have HQ : Hid (Calls Tryz.prog 85 #[.pointer (some ⟨rb, 0, none⟩), .int .u8 37] w fun e w' => e = .returned (.tuple #[]) ∧ DrPost rb w (byteD 37 r) w') := Lib.hid (rbyte_any 37 rb r hl w h)
  clear h hl
  go_enter Tryz.func86, Tryz.ntmps86
  go_wp2_with fail
  refine HQ.out.mono ?_
  rintro e w1 ⟨rfl, h1⟩
  have H1 := Lib.hid h1
  clear h1
  go_wp2_with fail
  go_end0
  exact ⟨rfl, H1.out⟩
set_option maxRecDepth 100000 in
set_option maxHeartbeats 4000000 in
theorem rdir_122 (rb : Nat) (r : Dr) (hl : r.s.length ≤ 70368744177664) (w : World) (h : DrAt w rb r) :
    Calls Tryz.prog 86 #[.pointer (some ⟨rb, 0, none⟩), .int .u8 122] w fun e w' => e = .returned (.tuple #[]) ∧ DrPost rb w (RP.stepD r (.zone)) w' := by
  have HQ : Hid (Calls Tryz.prog 152 #[.pointer (some ⟨rb, 0, none⟩)] w fun e w' => e = .returned (.tuple #[]) ∧ DrPost rb w (zoneD r) w') := Lib.hid (rzone_any rb r hl w h)
  clear h hl
  go_enter Tryz.func86, Tryz.ntmps86
  go_wp2_with fail
  refine HQ.out.mono ?_
  rintro e w1 ⟨rfl, h1⟩
  have H1 := Lib.hid h1
  clear h1
  go_wp2_with fail
  go_end0
  exact ⟨rfl, H1.out⟩
set_option maxRecDepth 100000 in
set_option maxHeartbeats 4000000 in
theorem rdir_115 (rb : Nat) (r : Dr) (hl : r.s.length ≤ 70368744177664) (w : World) (h : DrAt w rb r) :
    Calls Tryz.prog 86 #[.pointer (some ⟨rb, 0, none⟩), .int .u8 115] w fun e w' => e = .returned (.tuple #[]) ∧ DrPost rb w (RP.stepD r (.secs)) w' := by
  have HQ : Hid (Calls Tryz.prog 149 #[.pointer (some ⟨rb, 0, none⟩)] w fun e w' => e = .returned (.tuple #[]) ∧ DrPost rb w (secD r) w') := Lib.hid (rsec_any rb r hl w h)
  clear h hl
  go_enter Tryz.func86, Tryz.ntmps86
  go_wp2_with fail
  refine HQ.out.mono ?_
  rintro e w1 ⟨rfl, h1⟩
  have H1 := Lib.hid h1
  clear h1
  go_wp2_with fail
  go_end0
  exact ⟨rfl, H1.out⟩
set_option maxRecDepth 100000 in
set_option maxHeartbeats 4000000 in
theorem rdir_112 (rb : Nat) (r : Dr) (hl : r.s.length ≤ 70368744177664) (w : World) (h : DrAt w rb r) :
    Calls Tryz.prog 86 #[.pointer (some ⟨rb, 0, none⟩), .int .u8 112] w fun e w' => e = .returned (.tuple #[]) ∧ DrPost rb w (RP.stepD r (.name halfNames 2 9)) w' := by
  have HQ : Hid (Calls Tryz.prog 150 #[.pointer (some ⟨rb, 0, none⟩)] w fun e w' => e = .returned (.tuple #[]) ∧ DrPost rb w (halfD r) w') := Lib.hid (rhalf_any rb r hl w h)
  clear h hl
  go_enter Tryz.func86, Tryz.ntmps86
  go_wp2_with fail
  refine HQ.out.mono ?_
  rintro e w1 ⟨rfl, h1⟩
  have H1 := Lib.hid h1
  clear h1
  go_wp2_with fail
  go_end0
  exact ⟨rfl, H1.out⟩
set_option maxRecDepth 100000 in
set_option maxHeartbeats 4000000 in
theorem rdir_80 (rb : Nat) (r : Dr) (hl : r.s.length ≤ 70368744177664) (w : World) (h : DrAt w rb r) :
    Calls Tryz.prog 86 #[.pointer (some ⟨rb, 0, none⟩), .int .u8 80] w fun e w' => e = .returned (.tuple #[]) ∧ DrPost rb w (RP.stepD r (.name halfNames 2 9)) w' := by
  have HQ : Hid (Calls Tryz.prog 150 #[.pointer (some ⟨rb, 0, none⟩)] w fun e w' => e = .returned (.tuple #[]) ∧ DrPost rb w (halfD r) w') := Lib.hid (rhalf_any rb r hl w h)
  clear h hl
  go_enter Tryz.func86, Tryz.ntmps86
  go_wp2_with fail
  refine HQ.out.mono ?_
  rintro e w1 ⟨rfl, h1⟩
  have H1 := Lib.hid h1
  clear h1
  go_wp2_with fail
  go_end0
  exact ⟨rfl, H1.out⟩
set_option maxRecDepth 100000 in
set_option maxHeartbeats 4000000 in
theorem rdir_98 (rb : Nat) (r : Dr) (hl : r.s.length ≤ 70368744177664) (w : World) (h : DrAt w rb r) :
    Calls Tryz.prog 86 #[.pointer (some ⟨rb, 0, none⟩), .int .u8 98] w fun e w' => e = .returned (.tuple #[]) ∧ DrPost rb w (RP.stepD r (.name monthNames 3 4)) w' := by
  have he : RP.stepD r (.name monthNames 3 4) = { (nameD monthNames r).2 with month := (nameD monthNames r).1, date := true } := by show tellD 4 _ _ = _; unfold tellD; simp
  have hq := fun (W : World) (g : Nat) (hW : DrAt W rb r) (hg : NamesD W rb g monthNames) => rname_any monthNames (by decide) (by decide) rb g r hl W hW hg
  obtain ⟨n, hn⟩ : ∃ n, (nameD monthNames r).1 = n := ⟨_, rfl⟩
  obtain ⟨r2, hr2⟩ : ∃ r2, (nameD monthNames r).2 = r2 := ⟨_, rfl⟩
  rw [hn, hr2] at he
  rw [hn, hr2] at hq
  have HQ := Lib.hid hq
  have HE := Lib.hid he
  have HR := Lib.hid h
  clear h hq he hn hr2 hl
  go_enter Tryz.func86, Tryz.ntmps86
  go_wp2_with fail
  refine (rMonths_any _).mono ?_
  rintro e w0 ⟨rfl, hg, hb⟩
  have HQ2 := Lib.hid (HQ.out w0 w.heap.size (HR.out.below hb) ⟨by have := HR.out.lt; omega, hg⟩)
  have HB := Lib.hid hb
  clear hg hb
  go_wp2_with fail
  refine HQ2.out.mono ?_
  rintro e w1 ⟨rfl, h1⟩
  have H1 : Hid (DrPost rb w r2 w1) := Lib.hid ⟨h1.1, Lib.grownBy_trans (Lib.grownBy_below (World.grownBy.refl _ _) HB.out) h1.2⟩
  have z7 := h1.1.ice 7
  have c7 := h1.1.cell 7 _ rfl
  have z9 := h1.1.ice 9
  have c9 := h1.1.cell 9 _ rfl
  clear h1
  go_wp2_with fail
  go_end0
  rw [HE.out]
  exact ⟨rfl, ((H1.out.put 7 (.int .i64 n) ({ r2 with month := n }) rfl).put 9 (.bool true) ({ r2 with month := n, date := true }) rfl)⟩
set_option maxRecDepth 100000 in
set_option maxHeartbeats 4000000 in
theorem rdir_104 (rb : Nat) (r : Dr) (hl : r.s.length ≤ 70368744177664) (w : World) (h : DrAt w rb r) :
    Calls Tryz.prog 86 #[.pointer (some ⟨rb, 0, none⟩), .int .u8 104] w fun e w' => e = .returned (.tuple #[]) ∧ DrPost rb w (RP.stepD r (.name monthNames 3 4)) w' := by
  have he : RP.stepD r (.name monthNames 3 4) = { (nameD monthNames r).2 with month := (nameD monthNames r).1, date := true } := by show tellD 4 _ _ = _; unfold tellD; simp
  have hq := fun (W : World) (g : Nat) (hW : DrAt W rb r) (hg : NamesD W rb g monthNames) => rname_any monthNames (by decide) (by decide) rb g r hl W hW hg
  obtain ⟨n, hn⟩ : ∃ n, (nameD monthNames r).1 = n := ⟨_, rfl⟩
  obtain ⟨r2, hr2⟩ : ∃ r2, (nameD monthNames r).2 = r2 := ⟨_, rfl⟩
  rw [hn, hr2] at he
  rw [hn, hr2] at hq
  have HQ := Lib.hid hq
  have HE := Lib.hid he
  have HR := Lib.hid h
  clear h hq he hn hr2 hl
  go_enter Tryz.func86, Tryz.ntmps86
  go_wp2_with fail
  refine (rMonths_any _).mono ?_
  rintro e w0 ⟨rfl, hg, hb⟩
  have HQ2 := Lib.hid (HQ.out w0 w.heap.size (HR.out.below hb) ⟨by have := HR.out.lt; omega, hg⟩)
  have HB := Lib.hid hb
  clear hg hb
  go_wp2_with fail
  refine HQ2.out.mono ?_
  rintro e w1 ⟨rfl, h1⟩
  have H1 : Hid (DrPost rb w r2 w1) := Lib.hid ⟨h1.1, Lib.grownBy_trans (Lib.grownBy_below (World.grownBy.refl _ _) HB.out) h1.2⟩
  have z7 := h1.1.ice 7
  have c7 := h1.1.cell 7 _ rfl
  have z9 := h1.1.ice 9
  have c9 := h1.1.cell 9 _ rfl
  clear h1
  go_wp2_with fail
  go_end0
  rw [HE.out]
  exact ⟨rfl, ((H1.out.put 7 (.int .i64 n) ({ r2 with month := n }) rfl).put 9 (.bool true) ({ r2 with month := n, date := true }) rfl)⟩
set_option maxRecDepth 100000 in
set_option maxHeartbeats 4000000 in
theorem rdir_66 (rb : Nat) (r : Dr) (hl : r.s.length ≤ 70368744177664) (w : World) (h : DrAt w rb r) :
    Calls Tryz.prog 86 #[.pointer (some ⟨rb, 0, none⟩), .int .u8 66] w fun e w' => e = .returned (.tuple #[]) ∧ DrPost rb w (RP.stepD r (.name monthNames 3 4)) w' := by
  have he : RP.stepD r (.name monthNames 3 4) = { (nameD monthNames r).2 with month := (nameD monthNames r).1, date := true } := by show tellD 4 _ _ = _; unfold tellD; simp
  have hq := fun (W : World) (g : Nat) (hW : DrAt W rb r) (hg : NamesD W rb g monthNames) => rname_any monthNames (by decide) (by decide) rb g r hl W hW hg
  obtain ⟨n, hn⟩ : ∃ n, (nameD monthNames r).1 = n := ⟨_, rfl⟩
  obtain ⟨r2, hr2⟩ : ∃ r2, (nameD monthNames r).2 = r2 := ⟨_, rfl⟩
  rw [hn, hr2] at he
  rw [hn, hr2] at hq
  have HQ := Lib.hid hq
  have HE := Lib.hid he
  have HR := Lib.hid h
  clear h hq he hn hr2 hl
  go_enter Tryz.func86, Tryz.ntmps86
  go_wp2_with fail
  refine (rMonths_any _).mono ?_
  rintro e w0 ⟨rfl, hg, hb⟩
  have HQ2 := Lib.hid (HQ.out w0 w.heap.size (HR.out.below hb) ⟨by have := HR.out.lt; omega, hg⟩)
  have HB := Lib.hid hb
  clear hg hb
  go_wp2_with fail
  refine HQ2.out.mono ?_
  rintro e w1 ⟨rfl, h1⟩
  have H1 : Hid (DrPost rb w r2 w1) := Lib.hid ⟨h1.1, Lib.grownBy_trans (Lib.grownBy_below (World.grownBy.refl _ _) HB.out) h1.2⟩
  have z7 := h1.1.ice 7
  have c7 := h1.1.cell 7 _ rfl
  have z9 := h1.1.ice 9
  have c9 := h1.1.cell 9 _ rfl
  clear h1
  go_wp2_with fail
  go_end0
  rw [HE.out]
  exact ⟨rfl, ((H1.out.put 7 (.int .i64 n) ({ r2 with month := n }) rfl).put 9 (.bool true) ({ r2 with month := n, date := true }) rfl)⟩
set_option maxRecDepth 100000 in
set_option maxHeartbeats 4000000 in
theorem rdir_97 (rb : Nat) (r : Dr) (hl : r.s.length ≤ 70368744177664) (w : World) (h : DrAt w rb r) :
    Calls Tryz.prog 86 #[.pointer (some ⟨rb, 0, none⟩), .int .u8 97] w fun e w' => e = .returned (.tuple #[]) ∧ DrPost rb w (RP.stepD r (.name dayNames 3 0)) w' := by
  have he : RP.stepD r (.name dayNames 3 0) = (nameD dayNames r).2 := by rfl
  have hq := fun (W : World) (g : Nat) (hW : DrAt W rb r) (hg : NamesD W rb g dayNames) => rname_any dayNames (by decide) (by decide) rb g r hl W hW hg
  obtain ⟨n, hn⟩ : ∃ n, (nameD dayNames r).1 = n := ⟨_, rfl⟩
  obtain ⟨r2, hr2⟩ : ∃ r2, (nameD dayNames r).2 = r2 := ⟨_, rfl⟩
  rw [hr2] at he
  rw [hn, hr2] at hq
  have HQ := Lib.hid hq
  have HE := Lib.hid he
  have HR := Lib.hid h
  clear h hq he hn hr2 hl
  go_enter Tryz.func86, Tryz.ntmps86
  go_wp2_with fail
  refine (rDays_any _).mono ?_
  rintro e w0 ⟨rfl, hg, hb⟩
  have HQ2 := Lib.hid (HQ.out w0 w.heap.size (HR.out.below hb) ⟨by have := HR.out.lt; omega, hg⟩)
  have HB := Lib.hid hb
  clear hg hb
  go_wp2_with fail
  refine HQ2.out.mono ?_
  rintro e w1 ⟨rfl, h1⟩
  have H1 : Hid (DrPost rb w r2 w1) := Lib.hid ⟨h1.1, Lib.grownBy_trans (Lib.grownBy_below (World.grownBy.refl _ _) HB.out) h1.2⟩
  clear h1
  go_wp2_with fail
  go_end0
  rw [HE.out]
  exact ⟨rfl, H1.out⟩
set_option maxRecDepth 100000 in
set_option maxHeartbeats 4000000 in
theorem rdir_65 (rb : Nat) (r : Dr) (hl : r.s.length ≤ 70368744177664) (w : World) (h : DrAt w rb r) :
    Calls Tryz.prog 86 #[.pointer (some ⟨rb, 0, none⟩), .int .u8 65] w fun e w' => e = .returned (.tuple #[]) ∧ DrPost rb w (RP.stepD r (.name dayNames 3 0)) w' := by
  have he : RP.stepD r (.name dayNames 3 0) = (nameD dayNames r).2 := by rfl
  have hq := fun (W : World) (g : Nat) (hW : DrAt W rb r) (hg : NamesD W rb g dayNames) => rname_any dayNames (by decide) (by decide) rb g r hl W hW hg
  obtain ⟨n, hn⟩ : ∃ n, (nameD dayNames r).1 = n := ⟨_, rfl⟩
  obtain ⟨r2, hr2⟩ : ∃ r2, (nameD dayNames r).2 = r2 := ⟨_, rfl⟩
  rw [hr2] at he
  rw [hn, hr2] at hq
  have HQ := Lib.hid hq
  have HE := Lib.hid he
  have HR := Lib.hid h
  clear h hq he hn hr2 hl
  go_enter Tryz.func86, Tryz.ntmps86
  go_wp2_with fail
  refine (rDays_any _).mono ?_
  rintro e w0 ⟨rfl, hg, hb⟩
  have HQ2 := Lib.hid (HQ.out w0 w.heap.size (HR.out.below hb) ⟨by have := HR.out.lt; omega, hg⟩)
  have HB := Lib.hid hb
  clear hg hb
  go_wp2_with fail
  refine HQ2.out.mono ?_
  rintro e w1 ⟨rfl, h1⟩
  have H1 : Hid (DrPost rb w r2 w1) := Lib.hid ⟨h1.1, Lib.grownBy_trans (Lib.grownBy_below (World.grownBy.refl _ _) HB.out) h1.2⟩
  clear h1
  go_wp2_with fail
  go_end0
  rw [HE.out]
  exact ⟨rfl, H1.out⟩
end Go.Proofs.YtpjncnoejdaplaaGreatDoor
namespace Go.Proofs.YtpjncnoejdaplaaGreatDoor
open Go Go.RowKit Go.Shelf

theorem small_letter (c : UInt8) : (letterB c = true ∧ 97 ≤ (caseB false c).toNat ∧ (caseB false c).toNat ≤ 122) ∨ (letterB c = false ∧ (caseB false c).toNat < 97) ∨ (letterB c = false ∧ 97 ≤ (caseB false c).toNat ∧ 122 < (caseB false c).toNat) := by
  have h1 := c.toNat_lt
  by_cases h : 65 ≤ c.toNat ∧ c.toNat ≤ 90
  · have e : (caseB false c).toNat = c.toNat + 32 := by
      unfold caseB
      rw [if_neg (by simp), if_pos h, UInt8.toNat_add]
      show (c.toNat + 32) % 256 = _
      omega
    have hl : letterB c = true := by unfold letterB; rw [decide_eq_true_eq]; exact .inl h
    left
    exact ⟨hl, by omega, by omega⟩
  · have e : caseB false c = c := by
      unfold caseB
      rw [if_neg (by simp), if_neg h]
    rw [e]
    by_cases h2 : 97 ≤ c.toNat ∧ c.toNat ≤ 122
    · exact .inl ⟨by unfold letterB; rw [decide_eq_true_eq]; exact .inr h2, h2⟩
    · have hl : letterB c = false := by unfold letterB; rw [decide_eq_false_iff_not]; omega
      right
      by_cases h3 : c.toNat < 97
      · exact .inl ⟨hl, h3⟩
      · exact .inr ⟨hl, by omega, by omega⟩
set_option maxRecDepth 100000 in
set_option maxHeartbeats 4000000 in
theorem rdir_90 (rb : Nat) (r : Dr) (hl : r.s.length ≤ 70368744177664) (w : World) (h : DrAt w rb r) :
    Calls Tryz.prog 86 #[.pointer (some ⟨rb, 0, none⟩), .int .u8 90] w fun e w' => e = .returned (.tuple #[]) ∧ DrPost rb w (RP.stepD r (.many true)) w' := by
  have HR := Lib.hid h.grown
  have HV : Hid (RP.stepD r (.many true) = r.left (r.s.dropWhile letterB)) := Lib.hid rfl
  clear h
  go_enter Tryz.func86, Tryz.ntmps86
  go_wp2_with fail
  go_loopw [] (fun W => ∃ l : List UInt8, l.length ≤ 70368744177664 ∧ Hid (l.dropWhile letterB = r.s.dropWhile letterB) ∧ Hid (DrPost rb w (r.left l) W)) (fun W => lenC (W.cell? ⟨rb, 0, none⟩))
  case atStart => exact ⟨r.s, hl, Lib.hid rfl, HR⟩
  case round =>
    obtain ⟨l, hl, HE, HI⟩ := hrel
    have c0 : wr.cell? ⟨rb, 0, none⟩ = some (.string ⟨l.toArray⟩) := HI.out.1.cell 0 _ rfl
    have z0 := HI.out.1.ice 0
    cases l with
    | nil =>
      go_wp2_with fail
      go_end0
      refine ⟨rfl, ?_⟩
      rw [HV.out, ← HE.out]
      exact HI.out
    | cons c l =>
      obtain ⟨s, hs⟩ : ∃ s : ByteArray, (⟨(c :: l).toArray⟩ : ByteArray) = s := ⟨_, rfl⟩
      obtain ⟨k1, k2, k3⟩ := head_byte c l s hs
      have k4 := k2 k1
      have hsz : s.size = l.length + 1 := by rw [← hs]; simp [ByteArray.size]
      rw [hs] at c0
      have HSZ := Lib.hid hsz
      have HC0 := Lib.hid c0
      rw [List.length_cons] at hl
      have hb1 : s.size ≤ 70368744177664 := by omega
      clear hs k2 hsz
      have hsm := small_letter c
      have hsc := rsmall_any c
      obtain ⟨m, hm⟩ : ∃ m, (caseB false c).toNat = m := ⟨_, rfl⟩
      rw [hm] at hsm hsc
      have HSC := Lib.hid hsc
      clear hsc hm
      rcases hsm with ⟨hb, m1, m2⟩ | ⟨hb, m1⟩ | ⟨hb, m1, m2⟩
      · have HEE : Hid (l.dropWhile letterB = r.s.dropWhile letterB) := Lib.hid (by rw [← HE.out, List.dropWhile_cons, if_pos hb])
        clear hb
        go_wp2_with fail
        refine (HSC.out _).mono ?_
        rintro e w1 ⟨rfl, rfl⟩
        go_wp2_with fail
        refine (HSC.out _).mono ?_
        rintro e w1 ⟨rfl, rfl⟩
        go_wp2_with fail
        go_roundw
        case rel => exact ⟨l, by omega, HEE, Lib.hid (HI.out.setS l)⟩
        case measure =>
          rw [(HI.out.setS l).1.cell 0 _ rfl, HC0.out]
          show (⟨l.toArray⟩ : ByteArray).size < s.size
          rw [HSZ.out]
          simp [ByteArray.size]
      · have HEE : Hid (c :: l = r.s.dropWhile letterB) := Lib.hid (by rw [← HE.out, List.dropWhile_cons, if_neg (by rw [hb]; exact Bool.false_ne_true)])
        clear hb
        go_wp2_with fail
        refine (HSC.out _).mono ?_
        rintro e w1 ⟨rfl, rfl⟩
        go_wp2_with fail
        go_end0
        refine ⟨rfl, ?_⟩
        rw [HV.out, ← HEE.out]
        exact HI.out
      · have HEE : Hid (c :: l = r.s.dropWhile letterB) := Lib.hid (by rw [← HE.out, List.dropWhile_cons, if_neg (by rw [hb]; exact Bool.false_ne_true)])
        clear hb
        go_wp2_with fail
        refine (HSC.out _).mono ?_
        rintro e w1 ⟨rfl, rfl⟩
        go_wp2_with fail
        refine (HSC.out _).mono ?_
        rintro e w1 ⟨rfl, rfl⟩
        go_wp2_with fail
        go_end0
        refine ⟨rfl, ?_⟩
        rw [HV.out, ← HEE.out]
        exact HI.out
theorem plainR_none (c : Nat) (h : plainR c = none) : c ≠ 89 ∧ c ≠ 67 ∧ c ≠ 121 ∧ c ≠ 109 ∧ c ≠ 100 ∧ c ≠ 101 ∧ c ≠ 72 ∧ c ≠ 107 ∧ c ≠ 73 ∧ c ≠ 108 ∧ c ≠ 77 ∧ c ≠ 83 ∧ c ≠ 106 ∧ c ≠ 85 ∧ c ≠ 87 ∧ c ≠ 86 ∧ c ≠ 117 ∧ c ≠ 119 ∧ c ≠ 71 ∧ c ≠ 103 ∧ c ≠ 115 ∧ c ≠ 110 ∧ c ≠ 116 ∧ c ≠ 37 ∧ c ≠ 90 ∧ c ≠ 122 ∧ c ≠ 97 ∧ c ≠ 65 ∧ c ≠ 98 ∧ c ≠ 104 ∧ c ≠ 66 ∧ c ≠ 112 ∧ c ≠ 80 := by
  refine ⟨?_, ?_, ?_, ?_, ?_, ?_, ?_, ?_, ?_, ?_, ?_, ?_, ?_, ?_, ?_, ?_, ?_, ?_, ?_, ?_, ?_, ?_, ?_, ?_, ?_, ?_, ?_, ?_, ?_, ?_, ?_, ?_, ?_⟩ <;> (rintro rfl; simp [plainR] at h)
theorem ne_eqI {c k : Nat} (h : c ≠ k) : ((c : Int) == (k : Int)) = false := by rw [beq_eq_false_iff_ne]; omega
end Go.Proofs.YtpjncnoejdaplaaGreatDoor
namespace Go.Proofs.YtpjncnoejdaplaaGreatDoor
open Go Go.RowKit Go.Shelf

theorem longT_none {c : Nat} (h : formOf c = none) : longT c = ⟨#[]⟩ := by unfold longT; rw [h]; rfl
theorem longT_some {c : Nat} {f : ByteArray} (h : formOf c = some f) : longT c = f := by unfold longT; rw [h]; rfl
set_option maxRecDepth 100000 in
set_option maxHeartbeats 4000000 in
theorem rdir_none (c : Nat) (_hc : c < 256) (hp : plainR c = none) (hf : formOf c = none) (rb : Nat) (r : Dr) (w : World) (h : DrAt w rb r) :
    Calls Tryz.prog 86 #[.pointer (some ⟨rb, 0, none⟩), .int .u8 c] w fun e w' => e = .returned (.tuple #[]) ∧ DrPost rb w r.err w' := by
  have HR := Lib.hid h.grown
  have z1 := h.ice 1
  have c1 : w.cell? ⟨rb, 1, none⟩ = some (.bool r.bad) := h.cell 1 _ rfl
  obtain ⟨a1, a2, a3, a4, a5, a6, a7, a8, a9, a10, a11, a12, a13, a14, a15, a16, a17, a18, a19, a20, a21, a22, a23, a24, a25, a26, a27, a28, a29, a30, a31, a32, a33⟩ := plainR_none c hp
  replace a1 := ne_eqI a1
  replace a2 := ne_eqI a2
  replace a3 := ne_eqI a3
  replace a4 := ne_eqI a4
  replace a5 := ne_eqI a5
  replace a6 := ne_eqI a6
  replace a7 := ne_eqI a7
  replace a8 := ne_eqI a8
  replace a9 := ne_eqI a9
  replace a10 := ne_eqI a10
  replace a11 := ne_eqI a11
  replace a12 := ne_eqI a12
  replace a13 := ne_eqI a13
  replace a14 := ne_eqI a14
  replace a15 := ne_eqI a15
  replace a16 := ne_eqI a16
  replace a17 := ne_eqI a17
  replace a18 := ne_eqI a18
  replace a19 := ne_eqI a19
  replace a20 := ne_eqI a20
  replace a21 := ne_eqI a21
  replace a22 := ne_eqI a22
  replace a23 := ne_eqI a23
  replace a24 := ne_eqI a24
  replace a25 := ne_eqI a25
  replace a26 := ne_eqI a26
  replace a27 := ne_eqI a27
  replace a28 := ne_eqI a28
  replace a29 := ne_eqI a29
  replace a30 := ne_eqI a30
  replace a31 := ne_eqI a31
  replace a32 := ne_eqI a32
  replace a33 := ne_eqI a33
  have HLg := Lib.hid (rLonger_any c)
  rw [longT_none hf] at HLg
  clear h hp hf _hc
  go_enter Tryz.func86, Tryz.ntmps86
  go_wp2_with fail
  refine (HLg.out _).mono ?_
  rintro e w1 ⟨rfl, rfl⟩
  go_wp2_with fail
  refine bodyPost_ret (results_none rfl _ _ _) rfl ?_
  exact ⟨rfl, HR.out.setBad⟩
set_option maxRecDepth 100000 in
set_option maxHeartbeats 4000000 in
theorem rdir_form (c : Nat) (_hc : c < 256) (f : ByteArray) (hp : plainR c = none) (hf : formOf c = some f) (hem : f.toList.isEmpty = false) (rb : Nat) (r r' : Dr) (w : World) (_h : DrAt w rb r)
    (hq : Calls Tryz.prog 31 #[.pointer (some ⟨rb, 0, none⟩), .string f] w fun e w' => e = .returned (.tuple #[]) ∧ DrPost rb w r' w') :
    Calls Tryz.prog 86 #[.pointer (some ⟨rb, 0, none⟩), .int .u8 c] w fun e w' => e = .returned (.tuple #[]) ∧ DrPost rb w r' w' := by
  obtain ⟨a1, a2, a3, a4, a5, a6, a7, a8, a9, a10, a11, a12, a13, a14, a15, a16, a17, a18, a19, a20, a21, a22, a23, a24, a25, a26, a27, a28, a29, a30, a31, a32, a33⟩ := plainR_none c hp
  replace a1 := ne_eqI a1
  replace a2 := ne_eqI a2
  replace a3 := ne_eqI a3
  replace a4 := ne_eqI a4
  replace a5 := ne_eqI a5
  replace a6 := ne_eqI a6
  replace a7 := ne_eqI a7
  replace a8 := ne_eqI a8
  replace a9 := ne_eqI a9
  replace a10 := ne_eqI a10
  replace a11 := ne_eqI a11
  replace a12 := ne_eqI a12
  replace a13 := ne_eqI a13
  replace a14 := ne_eqI a14
  replace a15 := ne_eqI a15
  replace a16 := ne_eqI a16
  replace a17 := ne_eqI a17
  replace a18 := ne_eqI a18
  replace a19 := ne_eqI a19
  replace a20 := ne_eqI a20
  replace a21 := ne_eqI a21
  replace a22 := ne_eqI a22
  replace a23 := ne_eqI a23
  replace a24 := ne_eqI a24
  replace a25 := ne_eqI a25
  replace a26 := ne_eqI a26
  replace a27 := ne_eqI a27
  replace a28 := ne_eqI a28
  replace a29 := ne_eqI a29
  replace a30 := ne_eqI a30
  replace a31 := ne_eqI a31
  replace a32 := ne_eqI a32
  replace a33 := ne_eqI a33
  have HLg := Lib.hid (rLonger_any c)
  rw [longT_some hf] at HLg
  have HQ := Lib.hid hq
  clear _h hp hf _hc hq
  go_enter Tryz.func86, Tryz.ntmps86
  go_wp2_with fail
  refine (HLg.out _).mono ?_
  rintro e w1 ⟨rfl, rfl⟩
  go_wp2_with fail
  refine (HLg.out _).mono ?_
  rintro e w1 ⟨rfl, rfl⟩
  go_wp2_with fail
  refine HQ.out.mono ?_
  rintro e w1 ⟨rfl, h1⟩
  have H1 := Lib.hid h1
  clear h1
  go_wp2_with fail
  go_end0
  exact ⟨rfl, H1.out⟩
/-- What a directive of the plain ones does. -/
theorem rdir_plain (c : Nat) (p : RP) (hp : plainR c = some p) (rb : Nat) (r : Dr) (hl : r.s.length ≤ 70368744177664) (w : World) (h : DrAt w rb r) :
    Calls Tryz.prog 86 #[.pointer (some ⟨rb, 0, none⟩), .int .u8 c] w fun e w' => e = .returned (.tuple #[]) ∧ DrPost rb w (p.stepD r) w' := by
  by_cases h89 : c = 89
  · subst h89
    obtain rfl := Option.some.inj hp
    exact rdir_89 rb r hl w h
  by_cases h67 : c = 67
  · subst h67
    obtain rfl := Option.some.inj hp
    exact rdir_67 rb r hl w h
  by_cases h121 : c = 121
  · subst h121
    obtain rfl := Option.some.inj hp
    exact rdir_121 rb r hl w h
  by_cases h109 : c = 109
  · subst h109
    obtain rfl := Option.some.inj hp
    exact rdir_109 rb r hl w h
  by_cases h100 : c = 100
  · subst h100
    obtain rfl := Option.some.inj hp
    exact rdir_100 rb r hl w h
  by_cases h101 : c = 101
  · subst h101
    obtain rfl := Option.some.inj hp
    exact rdir_101 rb r hl w h
  by_cases h72 : c = 72
  · subst h72
    obtain rfl := Option.some.inj hp
    exact rdir_72 rb r hl w h
  by_cases h107 : c = 107
  · subst h107
    obtain rfl := Option.some.inj hp
    exact rdir_107 rb r hl w h
  by_cases h73 : c = 73
  · subst h73
    obtain rfl := Option.some.inj hp
    exact rdir_73 rb r hl w h
  by_cases h108 : c = 108
  · subst h108
    obtain rfl := Option.some.inj hp
    exact rdir_108 rb r hl w h
  by_cases h77 : c = 77
  · subst h77
    obtain rfl := Option.some.inj hp
    exact rdir_77 rb r hl w h
  by_cases h83 : c = 83
  · subst h83
    obtain rfl := Option.some.inj hp
    exact rdir_83 rb r hl w h
  by_cases h106 : c = 106
  · subst h106
    obtain rfl := Option.some.inj hp
    exact rdir_106 rb r hl w h
  by_cases h85 : c = 85
  · subst h85
    obtain rfl := Option.some.inj hp
    exact rdir_85 rb r hl w h
  by_cases h87 : c = 87
  · subst h87
    obtain rfl := Option.some.inj hp
    exact rdir_87 rb r hl w h
  by_cases h86 : c = 86
  · subst h86
    obtain rfl := Option.some.inj hp
    exact rdir_86 rb r hl w h
  by_cases h117 : c = 117
  · subst h117
    obtain rfl := Option.some.inj hp
    exact rdir_117 rb r hl w h
  by_cases h119 : c = 119
  · subst h119
    obtain rfl := Option.some.inj hp
    exact rdir_119 rb r hl w h
  by_cases h71 : c = 71
  · subst h71
    obtain rfl := Option.some.inj hp
    exact rdir_71 rb r hl w h
  by_cases h103 : c = 103
  · subst h103
    obtain rfl := Option.some.inj hp
    exact rdir_103 rb r hl w h
  by_cases h115 : c = 115
  · subst h115
    obtain rfl := Option.some.inj hp
    exact rdir_115 rb r hl w h
  by_cases h110 : c = 110
  · subst h110
    obtain rfl := Option.some.inj hp
    exact rdir_110 rb r hl w h
  by_cases h116 : c = 116
  · subst h116
    obtain rfl := Option.some.inj hp
    exact rdir_116 rb r hl w h
  by_cases h37 : c = 37
  · subst h37
    obtain rfl := Option.some.inj hp
    exact rdir_37 rb r hl w h
  by_cases h90 : c = 90
  · subst h90
    obtain rfl := Option.some.inj hp
    exact rdir_90 rb r hl w h
  by_cases h122 : c = 122
  · subst h122
    obtain rfl := Option.some.inj hp
    exact rdir_122 rb r hl w h
  by_cases h97 : c = 97
  · subst h97
    obtain rfl := Option.some.inj hp
    exact rdir_97 rb r hl w h
  by_cases h65 : c = 65
  · subst h65
    obtain rfl := Option.some.inj hp
    exact rdir_65 rb r hl w h
  by_cases h98 : c = 98
  · subst h98
    obtain rfl := Option.some.inj hp
    exact rdir_98 rb r hl w h
  by_cases h104 : c = 104
  · subst h104
    obtain rfl := Option.some.inj hp
    exact rdir_104 rb r hl w h
  by_cases h66 : c = 66
  · subst h66
    obtain rfl := Option.some.inj hp
    exact rdir_66 rb r hl w h
  by_cases h112 : c = 112
  · subst h112
    obtain rfl := Option.some.inj hp
    exact rdir_112 rb r hl w h
  by_cases h80 : c = 80
  · subst h80
    obtain rfl := Option.some.inj hp
    exact rdir_80 rb r hl w h
  exfalso
  unfold plainR at hp
  rw [if_neg h89, if_neg h67, if_neg h121, if_neg h109, if_neg h100, if_neg h101, if_neg h72, if_neg h107, if_neg h73, if_neg h108, if_neg h77, if_neg h83, if_neg h106, if_neg h85, if_neg h87, if_neg h86, if_neg h117, if_neg h119, if_neg h71, if_neg h103, if_neg h115, if_neg h110, if_neg h116, if_neg h37, if_neg h90, if_neg h122, if_neg h97, if_neg h65, if_neg h98, if_neg h104, if_neg h66, if_neg h112, if_neg h80] at hp
  cases hp
end Go.Proofs.YtpjncnoejdaplaaGreatDoor
namespace Go.Proofs.YtpjncnoejdaplaaGreatDoor
open Go Go.RowKit Go.Shelf

/-- A format followed, where each directive's step is known. -/
def followD (sem : Nat → Dr → Dr) : List UInt8 → Dr → Dr
  | [], r => r
  | [c], r => if r.bad = true then r else if blankB c = true then r.left (r.s.dropWhile blankB) else if c = 37 then r.err else byteD c r
  | c :: d :: l, r => if r.bad = true then r else if blankB c = true then followD sem (d :: l) (r.left (r.s.dropWhile blankB)) else if c = 37 then followD sem l (sem d.toNat r) else followD sem (d :: l) (byteD c r)
theorem followD_nil (sem : Nat → Dr → Dr) (r : Dr) : followD sem [] r = r := by simp [followD]
theorem followD_bad (sem : Nat → Dr → Dr) (l : List UInt8) (r : Dr) (h : r.bad = true) : followD sem l r = r := by
  rcases l with _ | ⟨c, _ | ⟨d, l⟩⟩
  · simp [followD]
  · simp [followD, h]
  · simp [followD, h]
theorem followD_blank (sem : Nat → Dr → Dr) (c : UInt8) (l : List UInt8) (r : Dr) (h : r.bad = false) (hb : blankB c = true) : followD sem (c :: l) r = followD sem l (r.left (r.s.dropWhile blankB)) := by
  rcases l with _ | ⟨d, l⟩
  · simp [followD, h, hb]
  · simp [followD, h, hb]
theorem followD_lit (sem : Nat → Dr → Dr) (c : UInt8) (l : List UInt8) (r : Dr) (h : r.bad = false) (hb : blankB c = false) (hc : c ≠ 37) : followD sem (c :: l) r = followD sem l (byteD c r) := by
  rcases l with _ | ⟨d, l⟩
  · simp [followD, h, hb, hc]
  · simp [followD, h, hb, hc]
theorem followD_dir (sem : Nat → Dr → Dr) (d : UInt8) (l : List UInt8) (r : Dr) (h : r.bad = false) : followD sem (37 :: d :: l) r = followD sem l (sem d.toNat r) := by
  have hb : blankB 37 = false := by decide
  simp [followD, h, hb]
theorem followD_end (sem : Nat → Dr → Dr) (r : Dr) (h : r.bad = false) : followD sem [37] r = r.err := by
  have hb : blankB 37 = false := by decide
  simp [followD, h, hb]
theorem byteD_len (c : UInt8) (r : Dr) : (byteD c r).s.length ≤ r.s.length := by
  unfold byteD
  split
  · exact Nat.le_refl _
  · next d l e =>
    split
    · show l.length ≤ _
      rw [e, List.length_cons]
      omega
    · exact Nat.le_refl _
/-- What a directive's step is known to do. -/
def DirOK (rb : Nat) (sem : Nat → Dr → Dr) (d : UInt8) : Prop := ∀ (r : Dr), r.s.length ≤ 70368744177664 → (sem d.toNat r).s.length ≤ r.s.length ∧ ∀ w, DrAt w rb r →
  Calls Tryz.prog 86 #[.pointer (some ⟨rb, 0, none⟩), .int .u8 (d.toNat : Int)] w fun e w' => e = .returned (.tuple #[]) ∧ DrPost rb w (sem d.toNat r) w'
set_option maxRecDepth 100000 in
set_option maxHeartbeats 4000000 in
theorem rformat_of (rb : Nat) (sem : Nat → Dr → Dr) (f : ByteArray) (hf : f.size ≤ 70368744177664) (hsem : ∀ d ∈ f.data.toList, DirOK rb sem d) (r : Dr) (hl : r.s.length ≤ 70368744177664) (w : World) (h : DrAt w rb r) :
    Calls Tryz.prog 31 #[.pointer (some ⟨rb, 0, none⟩), .string f] w fun e w' => e = .returned (.tuple #[]) ∧ DrPost rb w (followD sem f.data.toList r) w' := by
  have HR := Lib.hid h.grown
  have HSM := Lib.hid hsem
  obtain ⟨v, hv⟩ : ∃ v, f.data.toList = v := ⟨_, rfl⟩
  rw [hv] at HSM ⊢
  have hvl : f.size = v.length := by rw [← hv, Array.length_toList]; rfl
  have HVL := Lib.hid hvl
  have HVT : Hid (∀ (k : Nat) (h : k < v.length) (h' : k < f.size), f[k] = v[k]) := Lib.hid (fun k h h' => by subst hv; rfl)
  have HL := Lib.hid hl
  clear h hsem hv hvl hl
  go_enter Tryz.func31, Tryz.ntmps31
  go_wp2_with fail
  go_loopw [4] (fun I W => ∃ k : Nat, I = .int .i64 k ∧ k ≤ f.size ∧ ∃ r' : Dr, Hid (followD sem (v.drop k) r' = followD sem v r) ∧ Hid (r'.s.length ≤ 70368744177664) ∧ Hid (DrPost rb w r' W)) (fun I _ => f.size - (intOf I).toNat)
  case atStart => exact ⟨0, rfl, Nat.zero_le _, r, Lib.hid (by rw [List.drop_zero]), HL, HR⟩
  case round =>
    obtain ⟨k, rfl, hk, r', HE, HL', HI⟩ := hrel
    have z1 := HI.out.1.ice 1
    have c1 : wr.cell? ⟨rb, 1, none⟩ = some (.bool r'.bad) := HI.out.1.cell 1 _ rfl
    by_cases hkK : k < f.size
    · cases hbad : r'.bad with
      | true =>
        rw [hbad] at c1
        have HF : Hid (followD sem v r = r') := Lib.hid (by rw [← HE.out, followD_bad _ _ _ hbad])
        clear hbad
        go_wp2_with fail
        go_end0
        rw [HF.out]
        exact ⟨rfl, HI.out⟩
      | false =>
        have c1b := c1
        rw [hbad] at c1
        have hkv : k < v.length := by rw [← HVL.out]; exact hkK
        obtain ⟨c, hc⟩ : ∃ c, f[k] = c := ⟨_, rfl⟩
        have hvc : v[k] = c := by rw [← HVT.out k hkv hkK, hc]
        have hdr : v.drop k = c :: v.drop (k + 1) := by rw [List.drop_eq_getElem_cons hkv, hvc]
        have HDR := Lib.hid hdr
        have HBAD := Lib.hid hbad
        have HMEM : Hid (∀ j, (h : j < f.size) → f[j] ∈ v) := Lib.hid (fun j h => by
          have h2 : j < v.length := by rw [← HVL.out]; exact h
          rw [HVT.out j h2 h]
          exact List.getElem_mem h2)
        clear hdr hvc hbad c1b
        cases hb : blankB c with
        | true =>
          have HE2 : Hid (followD sem (v.drop (k + 1)) (r'.left (r'.s.dropWhile blankB)) = followD sem v r) := Lib.hid (by rw [← HE.out, HDR.out, followD_blank _ _ _ _ HBAD.out hb])
          have HLE : Hid ((r'.left (r'.s.dropWhile blankB)).s.length ≤ 70368744177664) := Lib.hid (Nat.le_trans (drop_len _) HL'.out)
          have HB := Lib.hid hb
          clear hb
          go_wp2_with fail
          refine (rblank_any c _).mono ?_
          rw [HB.out]
          rintro e w1 ⟨rfl, rfl⟩
          go_wp2_with fail
          refine (rblanks_any rb r' HL'.out _ HI.out.1).mono ?_
          rintro e w2 ⟨rfl, h2⟩
          have H2 := Lib.hid (HI.out.trans h2)
          clear h2
          go_wp2_with fail
          go_roundw
          case rel => exact ⟨k + 1, by go_num, by omega, _, HE2, HLE, H2⟩
          case measure =>
            show f.size - ((k : Int) + 1).toNat < f.size - ((k : Int)).toNat
            omega
        | false =>
          have HB := Lib.hid hb
          clear hb
          by_cases hc37 : c = 37
          · subst hc37
            have hn : ((37 : Int) != 37) = false := by decide
            by_cases hk1 : k + 1 < f.size
            · have ht : (((k : Int) + 1) == (f.size : Int)) = false := by rw [beq_eq_false_iff_ne]; omega
              have hkv1 : k + 1 < v.length := by rw [← HVL.out]; exact hk1
              obtain ⟨d, hd⟩ : ∃ d, f[k + 1] = d := ⟨_, rfl⟩
              have hvd : v[k + 1] = d := by rw [← HVT.out (k + 1) hkv1 hk1, hd]
              have hdr1 : v.drop (k + 1) = d :: v.drop (k + 2) := by rw [List.drop_eq_getElem_cons hkv1, hvd]
              have hmem : d ∈ v := by rw [← hd]; exact HMEM.out (k + 1) hk1
              have hst := HSM.out d hmem r' HL'.out
              have HST := Lib.hid hst.2
              have HE2 : Hid (followD sem (v.drop (k + 2)) (sem d.toNat r') = followD sem v r) := Lib.hid (by rw [← HE.out, HDR.out, hdr1, followD_dir _ _ _ _ HBAD.out])
              have HLE : Hid ((sem d.toNat r').s.length ≤ 70368744177664) := Lib.hid (Nat.le_trans hst.1 HL'.out)
              clear hst hmem hdr1 hvd hkv1 hkv
              go_wp2_with fail
              refine (rblank_any 37 _).mono ?_
              rw [HB.out]
              rintro e w1 ⟨rfl, rfl⟩
              go_wp2_with fail
              refine (HST.out _ HI.out.1).mono ?_
              rintro e w2 ⟨rfl, h2⟩
              have H2 := Lib.hid (HI.out.trans h2)
              clear h2
              go_wp2_with fail
              go_roundw
              case rel => exact ⟨k + 2, by go_num, by omega, _, HE2, HLE, H2⟩
              case measure =>
                show f.size - ((k : Int) + 1 + 1).toNat < f.size - ((k : Int)).toNat
                omega
            · have ht : (((k : Int) + 1) == (f.size : Int)) = true := by rw [beq_iff_eq]; omega
              have hdr1 : v.drop (k + 1) = [] := by rw [List.drop_eq_nil_iff]; rw [← HVL.out]; omega
              have HE2 : Hid (followD sem v r = r'.err) := Lib.hid (by rw [← HE.out, HDR.out, hdr1, followD_end _ _ HBAD.out])
              have HLE : Hid (r'.err.s.length ≤ 70368744177664) := Lib.hid HL'.out
              clear hdr1 hkv
              go_wp2_with fail
              refine (rblank_any 37 _).mono ?_
              rw [HB.out]
              rintro e w1 ⟨rfl, rfl⟩
              go_wp2_with fail
              go_roundw
              case rel => exact ⟨k + 1, by go_num, by omega, r'.err, Lib.hid (by rw [HE2.out]; exact followD_bad _ _ _ rfl), HLE, Lib.hid HI.out.setBad⟩
              case measure =>
                show f.size - ((k : Int) + 1).toNat < f.size - ((k : Int)).toNat
                omega
          · have hn : ((c.toNat : Int) != 37) = true := by
              rw [bne_iff_ne]
              intro e
              exact hc37 (UInt8.toNat_inj.1 (by show c.toNat = 37; omega))
            have HE2 : Hid (followD sem (v.drop (k + 1)) (byteD c r') = followD sem v r) := Lib.hid (by rw [← HE.out, HDR.out, followD_lit _ _ _ _ HBAD.out HB.out hc37])
            have HLE : Hid ((byteD c r').s.length ≤ 70368744177664) := Lib.hid (Nat.le_trans (byteD_len _ _) HL'.out)
            clear hc37
            go_wp2_with fail
            refine (rblank_any c _).mono ?_
            rw [HB.out]
            rintro e w1 ⟨rfl, rfl⟩
            go_wp2_with fail
            refine (rbyte_any c rb r' HL'.out _ HI.out.1).mono ?_
            rintro e w2 ⟨rfl, h2⟩
            have H2 := Lib.hid (HI.out.trans h2)
            clear h2
            go_wp2_with fail
            go_roundw
            case rel => exact ⟨k + 1, by go_num, by omega, _, HE2, HLE, H2⟩
            case measure =>
              show f.size - ((k : Int) + 1).toNat < f.size - ((k : Int)).toNat
              omega
    · obtain rfl : k = f.size := by omega
      have HF : Hid (followD sem v r = r') := Lib.hid (by rw [← HE.out, HVL.out, List.drop_length, followD_nil])
      cases r'.bad
      all_goals
        go_wp2_with fail
        go_end0
        rw [HF.out]
        exact ⟨rfl, HI.out⟩
end Go.Proofs.YtpjncnoejdaplaaGreatDoor

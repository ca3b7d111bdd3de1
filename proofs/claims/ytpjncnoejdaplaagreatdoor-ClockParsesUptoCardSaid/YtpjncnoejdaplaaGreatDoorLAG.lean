/- Reading a text: what is told, pieces that are cut. -/
import Derived.Test.YtpjncnoejdaplaaGreatDoorLAF
import Derived.Deep.RegionLaw
import Derived.Deep.RegionWith
import Derived.StillTailTactics
namespace Go.Proofs.YtpjncnoejdaplaaGreatDoor
open Go Go.RowKit Go.Shelf

theorem grown_drew (w : World) (rb : Nat) : w.grownBy w.drew (some rb) := ⟨rfl, rfl, rfl, Nat.le_refl _, fun _ _ _ => rfl⟩
set_option maxRecDepth 100000 in
set_option maxHeartbeats 1000000 in
theorem tell_0 (v : Int) (rb : Nat) (st : St) (ht1 : 0 ≤ st.turns) (ht2 : st.turns ≤ 1000000000000000) (w : World) (h : RdAt w rb st) :
    Calls Tryz.prog 164 #[.pointer (some ⟨rb, 0, none⟩), .int .i64 0, .int .i64 v] w fun e w' => e = .returned (.tuple #[]) ∧ RdAt w' rb (tellS st 0 v) ∧ w.grownBy w' (some rb) := by
  have hr := h
  unfold RdAt at hr
  have hc : w.cell? ⟨rb, 27, none⟩ = some (.int .i64 st.turns) := by simp [World.cell?, hr, rdCells]
  have hi : w.frozen? ⟨rb, 27, none⟩ = false := by simp [World.frozen?, hr]
  have HR := Lib.hid hr
  clear hr h
  go_enter Tryz.func164, Tryz.ntmps164
  go_wp2_with fail
  obtain ⟨X, hX⟩ : ∃ X, X = w.setCell ⟨rb, 27, none⟩ (.int .i64 (st.turns + 1)) := ⟨_, rfl⟩
  have hx := row_setAt HR.out 27 (.int .i64 (st.turns + 1))
  have hg := grown_set w rb 27 (.int .i64 (st.turns + 1))
  rw [← hX] at hx hg ⊢
  clear hX hc hi
  have hc : X.drew.cell? ⟨rb, 27, none⟩ = some (.int .i64 (st.turns + 1)) := by
    show X.cell? ⟨rb, 27, none⟩ = _
    simp [World.cell?, hx, rdCells]
  have hc2 : X.cell? ⟨rb, 27, none⟩ = some (.int .i64 (st.turns + 1)) := hc
  have ha : X.drew.cell? ⟨rb, 1, none⟩ = some (.int .i64 (st.n 0)) := by
    show X.cell? ⟨rb, 1, none⟩ = _
    simp [World.cell?, hx, rdCells]
  have hb : X.drew.cell? ⟨rb, 2, none⟩ = some (.int .i64 (st.t 0)) := by
    show X.cell? ⟨rb, 2, none⟩ = _
    simp [World.cell?, hx, rdCells]
  have hfa : X.drew.frozen? ⟨rb, 1, none⟩ = false := by
    show X.frozen? ⟨rb, 1, none⟩ = _
    simp [World.frozen?, hx]
  have hfb : X.drew.frozen? ⟨rb, 2, none⟩ = false := by
    show X.frozen? ⟨rb, 2, none⟩ = _
    simp [World.frozen?, hx]
  have ha2 : X.cell? ⟨rb, 1, none⟩ = some (.int .i64 (st.n 0)) := ha
  have hb2 : X.cell? ⟨rb, 2, none⟩ = some (.int .i64 (st.t 0)) := hb
  have hfa2 : X.frozen? ⟨rb, 1, none⟩ = false := hfa
  have hfb2 : X.frozen? ⟨rb, 2, none⟩ = false := hfb
  have HX := Lib.hid hx
  have HG := Lib.hid hg
  clear hx hg
  go_still_tail 11, (by kernel_rfl)
  change wpList _ _ _ _ _ X.drew
  go_wp2_with fail
  go_end0
  refine ⟨rfl, ?_, Lib.grownBy_trans HG.out (Lib.grownBy_setB (Lib.grownBy_setB (grown_drew X rb) 1 _) 2 _)⟩
  exact row_setAt (row_setAt (show X.drew.heap[rb]? = _ from HX.out) 1 (.int .i64 v)) 2 (.int .i64 (st.turns + 1))
set_option maxRecDepth 100000 in
set_option maxHeartbeats 1000000 in
theorem tell_1 (v : Int) (rb : Nat) (st : St) (ht1 : 0 ≤ st.turns) (ht2 : st.turns ≤ 1000000000000000) (w : World) (h : RdAt w rb st) :
    Calls Tryz.prog 164 #[.pointer (some ⟨rb, 0, none⟩), .int .i64 1, .int .i64 v] w fun e w' => e = .returned (.tuple #[]) ∧ RdAt w' rb (tellS st 1 v) ∧ w.grownBy w' (some rb) := by
  have hr := h
  unfold RdAt at hr
  have hc : w.cell? ⟨rb, 27, none⟩ = some (.int .i64 st.turns) := by simp [World.cell?, hr, rdCells]
  have hi : w.frozen? ⟨rb, 27, none⟩ = false := by simp [World.frozen?, hr]
  have HR := Lib.hid hr
  clear hr h
  go_enter Tryz.func164, Tryz.ntmps164
  go_wp2_with fail
  obtain ⟨X, hX⟩ : ∃ X, X = w.setCell ⟨rb, 27, none⟩ (.int .i64 (st.turns + 1)) := ⟨_, rfl⟩
  have hx := row_setAt HR.out 27 (.int .i64 (st.turns + 1))
  have hg := grown_set w rb 27 (.int .i64 (st.turns + 1))
  rw [← hX] at hx hg ⊢
  clear hX hc hi
  have hc : X.drew.cell? ⟨rb, 27, none⟩ = some (.int .i64 (st.turns + 1)) := by
    show X.cell? ⟨rb, 27, none⟩ = _
    simp [World.cell?, hx, rdCells]
  have hc2 : X.cell? ⟨rb, 27, none⟩ = some (.int .i64 (st.turns + 1)) := hc
  have ha : X.drew.cell? ⟨rb, 3, none⟩ = some (.int .i64 (st.n 1)) := by
    show X.cell? ⟨rb, 3, none⟩ = _
    simp [World.cell?, hx, rdCells]
  have hb : X.drew.cell? ⟨rb, 4, none⟩ = some (.int .i64 (st.t 1)) := by
    show X.cell? ⟨rb, 4, none⟩ = _
    simp [World.cell?, hx, rdCells]
  have hfa : X.drew.frozen? ⟨rb, 3, none⟩ = false := by
    show X.frozen? ⟨rb, 3, none⟩ = _
    simp [World.frozen?, hx]
  have hfb : X.drew.frozen? ⟨rb, 4, none⟩ = false := by
    show X.frozen? ⟨rb, 4, none⟩ = _
    simp [World.frozen?, hx]
  have ha2 : X.cell? ⟨rb, 3, none⟩ = some (.int .i64 (st.n 1)) := ha
  have hb2 : X.cell? ⟨rb, 4, none⟩ = some (.int .i64 (st.t 1)) := hb
  have hfa2 : X.frozen? ⟨rb, 3, none⟩ = false := hfa
  have hfb2 : X.frozen? ⟨rb, 4, none⟩ = false := hfb
  have HX := Lib.hid hx
  have HG := Lib.hid hg
  clear hx hg
  go_still_tail 11, (by kernel_rfl)
  change wpList _ _ _ _ _ X.drew
  go_wp2_with fail
  go_end0
  refine ⟨rfl, ?_, Lib.grownBy_trans HG.out (Lib.grownBy_setB (Lib.grownBy_setB (grown_drew X rb) 3 _) 4 _)⟩
  exact row_setAt (row_setAt (show X.drew.heap[rb]? = _ from HX.out) 3 (.int .i64 v)) 4 (.int .i64 (st.turns + 1))
set_option maxRecDepth 100000 in
set_option maxHeartbeats 1000000 in
theorem tell_2 (v : Int) (rb : Nat) (st : St) (ht1 : 0 ≤ st.turns) (ht2 : st.turns ≤ 1000000000000000) (w : World) (h : RdAt w rb st) :
    Calls Tryz.prog 164 #[.pointer (some ⟨rb, 0, none⟩), .int .i64 2, .int .i64 v] w fun e w' => e = .returned (.tuple #[]) ∧ RdAt w' rb (tellS st 2 v) ∧ w.grownBy w' (some rb) := by
  have hr := h
  unfold RdAt at hr
  have hc : w.cell? ⟨rb, 27, none⟩ = some (.int .i64 st.turns) := by simp [World.cell?, hr, rdCells]
  have hi : w.frozen? ⟨rb, 27, none⟩ = false := by simp [World.frozen?, hr]
  have HR := Lib.hid hr
  clear hr h
  go_enter Tryz.func164, Tryz.ntmps164
  go_wp2_with fail
  obtain ⟨X, hX⟩ : ∃ X, X = w.setCell ⟨rb, 27, none⟩ (.int .i64 (st.turns + 1)) := ⟨_, rfl⟩
  have hx := row_setAt HR.out 27 (.int .i64 (st.turns + 1))
  have hg := grown_set w rb 27 (.int .i64 (st.turns + 1))
  rw [← hX] at hx hg ⊢
  clear hX hc hi
  have hc : X.drew.cell? ⟨rb, 27, none⟩ = some (.int .i64 (st.turns + 1)) := by
    show X.cell? ⟨rb, 27, none⟩ = _
    simp [World.cell?, hx, rdCells]
  have hc2 : X.cell? ⟨rb, 27, none⟩ = some (.int .i64 (st.turns + 1)) := hc
  have ha : X.drew.cell? ⟨rb, 5, none⟩ = some (.int .i64 (st.n 2)) := by
    show X.cell? ⟨rb, 5, none⟩ = _
    simp [World.cell?, hx, rdCells]
  have hb : X.drew.cell? ⟨rb, 6, none⟩ = some (.int .i64 (st.t 2)) := by
    show X.cell? ⟨rb, 6, none⟩ = _
    simp [World.cell?, hx, rdCells]
  have hfa : X.drew.frozen? ⟨rb, 5, none⟩ = false := by
    show X.frozen? ⟨rb, 5, none⟩ = _
    simp [World.frozen?, hx]
  have hfb : X.drew.frozen? ⟨rb, 6, none⟩ = false := by
    show X.frozen? ⟨rb, 6, none⟩ = _
    simp [World.frozen?, hx]
  have ha2 : X.cell? ⟨rb, 5, none⟩ = some (.int .i64 (st.n 2)) := ha
  have hb2 : X.cell? ⟨rb, 6, none⟩ = some (.int .i64 (st.t 2)) := hb
  have hfa2 : X.frozen? ⟨rb, 5, none⟩ = false := hfa
  have hfb2 : X.frozen? ⟨rb, 6, none⟩ = false := hfb
  have HX := Lib.hid hx
  have HG := Lib.hid hg
  clear hx hg
  go_still_tail 11, (by kernel_rfl)
  change wpList _ _ _ _ _ X.drew
  go_wp2_with fail
  go_end0
  refine ⟨rfl, ?_, Lib.grownBy_trans HG.out (Lib.grownBy_setB (Lib.grownBy_setB (grown_drew X rb) 5 _) 6 _)⟩
  exact row_setAt (row_setAt (show X.drew.heap[rb]? = _ from HX.out) 5 (.int .i64 v)) 6 (.int .i64 (st.turns + 1))
set_option maxRecDepth 100000 in
set_option maxHeartbeats 1000000 in
theorem tell_3 (v : Int) (rb : Nat) (st : St) (ht1 : 0 ≤ st.turns) (ht2 : st.turns ≤ 1000000000000000) (w : World) (h : RdAt w rb st) :
    Calls Tryz.prog 164 #[.pointer (some ⟨rb, 0, none⟩), .int .i64 3, .int .i64 v] w fun e w' => e = .returned (.tuple #[]) ∧ RdAt w' rb (tellS st 3 v) ∧ w.grownBy w' (some rb) := by
  have hr := h
  unfold RdAt at hr
  have hc : w.cell? ⟨rb, 27, none⟩ = some (.int .i64 st.turns) := by simp [World.cell?, hr, rdCells]
  have hi : w.frozen? ⟨rb, 27, none⟩ = false := by simp [World.frozen?, hr]
  have HR := Lib.hid hr
  clear hr h
  go_enter Tryz.func164, Tryz.ntmps164
  go_wp2_with fail
  obtain ⟨X, hX⟩ : ∃ X, X = w.setCell ⟨rb, 27, none⟩ (.int .i64 (st.turns + 1)) := ⟨_, rfl⟩
  have hx := row_setAt HR.out 27 (.int .i64 (st.turns + 1))
  have hg := grown_set w rb 27 (.int .i64 (st.turns + 1))
  rw [← hX] at hx hg ⊢
  clear hX hc hi
  have hc : X.drew.cell? ⟨rb, 27, none⟩ = some (.int .i64 (st.turns + 1)) := by
    show X.cell? ⟨rb, 27, none⟩ = _
    simp [World.cell?, hx, rdCells]
  have hc2 : X.cell? ⟨rb, 27, none⟩ = some (.int .i64 (st.turns + 1)) := hc
  have ha : X.drew.cell? ⟨rb, 7, none⟩ = some (.int .i64 (st.n 3)) := by
    show X.cell? ⟨rb, 7, none⟩ = _
    simp [World.cell?, hx, rdCells]
  have hb : X.drew.cell? ⟨rb, 8, none⟩ = some (.int .i64 (st.t 3)) := by
    show X.cell? ⟨rb, 8, none⟩ = _
    simp [World.cell?, hx, rdCells]
  have hfa : X.drew.frozen? ⟨rb, 7, none⟩ = false := by
    show X.frozen? ⟨rb, 7, none⟩ = _
    simp [World.frozen?, hx]
  have hfb : X.drew.frozen? ⟨rb, 8, none⟩ = false := by
    show X.frozen? ⟨rb, 8, none⟩ = _
    simp [World.frozen?, hx]
  have ha2 : X.cell? ⟨rb, 7, none⟩ = some (.int .i64 (st.n 3)) := ha
  have hb2 : X.cell? ⟨rb, 8, none⟩ = some (.int .i64 (st.t 3)) := hb
  have hfa2 : X.frozen? ⟨rb, 7, none⟩ = false := hfa
  have hfb2 : X.frozen? ⟨rb, 8, none⟩ = false := hfb
  have HX := Lib.hid hx
  have HG := Lib.hid hg
  clear hx hg
  go_still_tail 11, (by kernel_rfl)
  change wpList _ _ _ _ _ X.drew
  go_wp2_with fail
  go_end0
  refine ⟨rfl, ?_, Lib.grownBy_trans HG.out (Lib.grownBy_setB (Lib.grownBy_setB (grown_drew X rb) 7 _) 8 _)⟩
  exact row_setAt (row_setAt (show X.drew.heap[rb]? = _ from HX.out) 7 (.int .i64 v)) 8 (.int .i64 (st.turns + 1))
set_option maxRecDepth 100000 in
set_option maxHeartbeats 1000000 in
theorem tell_4 (v : Int) (rb : Nat) (st : St) (ht1 : 0 ≤ st.turns) (ht2 : st.turns ≤ 1000000000000000) (w : World) (h : RdAt w rb st) :
    Calls Tryz.prog 164 #[.pointer (some ⟨rb, 0, none⟩), .int .i64 4, .int .i64 v] w fun e w' => e = .returned (.tuple #[]) ∧ RdAt w' rb (tellS st 4 v) ∧ w.grownBy w' (some rb) := by
  have hr := h
  unfold RdAt at hr
  have hc : w.cell? ⟨rb, 27, none⟩ = some (.int .i64 st.turns) := by simp [World.cell?, hr, rdCells]
  have hi : w.frozen? ⟨rb, 27, none⟩ = false := by simp [World.frozen?, hr]
  have HR := Lib.hid hr
  clear hr h
  go_enter Tryz.func164, Tryz.ntmps164
  go_wp2_with fail
  obtain ⟨X, hX⟩ : ∃ X, X = w.setCell ⟨rb, 27, none⟩ (.int .i64 (st.turns + 1)) := ⟨_, rfl⟩
  have hx := row_setAt HR.out 27 (.int .i64 (st.turns + 1))
  have hg := grown_set w rb 27 (.int .i64 (st.turns + 1))
  rw [← hX] at hx hg ⊢
  clear hX hc hi
  have hc : X.drew.cell? ⟨rb, 27, none⟩ = some (.int .i64 (st.turns + 1)) := by
    show X.cell? ⟨rb, 27, none⟩ = _
    simp [World.cell?, hx, rdCells]
  have hc2 : X.cell? ⟨rb, 27, none⟩ = some (.int .i64 (st.turns + 1)) := hc
  have ha : X.drew.cell? ⟨rb, 9, none⟩ = some (.int .i64 (st.n 4)) := by
    show X.cell? ⟨rb, 9, none⟩ = _
    simp [World.cell?, hx, rdCells]
  have hb : X.drew.cell? ⟨rb, 10, none⟩ = some (.int .i64 (st.t 4)) := by
    show X.cell? ⟨rb, 10, none⟩ = _
    simp [World.cell?, hx, rdCells]
  have hfa : X.drew.frozen? ⟨rb, 9, none⟩ = false := by
    show X.frozen? ⟨rb, 9, none⟩ = _
    simp [World.frozen?, hx]
  have hfb : X.drew.frozen? ⟨rb, 10, none⟩ = false := by
    show X.frozen? ⟨rb, 10, none⟩ = _
    simp [World.frozen?, hx]
  have ha2 : X.cell? ⟨rb, 9, none⟩ = some (.int .i64 (st.n 4)) := ha
  have hb2 : X.cell? ⟨rb, 10, none⟩ = some (.int .i64 (st.t 4)) := hb
  have hfa2 : X.frozen? ⟨rb, 9, none⟩ = false := hfa
  have hfb2 : X.frozen? ⟨rb, 10, none⟩ = false := hfb
  have HX := Lib.hid hx
  have HG := Lib.hid hg
  clear hx hg
  go_still_tail 11, (by kernel_rfl)
  change wpList _ _ _ _ _ X.drew
  go_wp2_with fail
  go_end0
  refine ⟨rfl, ?_, Lib.grownBy_trans HG.out (Lib.grownBy_setB (Lib.grownBy_setB (grown_drew X rb) 9 _) 10 _)⟩
  exact row_setAt (row_setAt (show X.drew.heap[rb]? = _ from HX.out) 9 (.int .i64 v)) 10 (.int .i64 (st.turns + 1))
set_option maxRecDepth 100000 in
set_option maxHeartbeats 1000000 in
theorem tell_5 (v : Int) (rb : Nat) (st : St) (ht1 : 0 ≤ st.turns) (ht2 : st.turns ≤ 1000000000000000) (w : World) (h : RdAt w rb st) :
    Calls Tryz.prog 164 #[.pointer (some ⟨rb, 0, none⟩), .int .i64 5, .int .i64 v] w fun e w' => e = .returned (.tuple #[]) ∧ RdAt w' rb (tellS st 5 v) ∧ w.grownBy w' (some rb) := by
  have hr := h
  unfold RdAt at hr
  have hc : w.cell? ⟨rb, 27, none⟩ = some (.int .i64 st.turns) := by simp [World.cell?, hr, rdCells]
  have hi : w.frozen? ⟨rb, 27, none⟩ = false := by simp [World.frozen?, hr]
  have HR := Lib.hid hr
  clear hr h
  go_enter Tryz.func164, Tryz.ntmps164
  go_wp2_with fail
  obtain ⟨X, hX⟩ : ∃ X, X = w.setCell ⟨rb, 27, none⟩ (.int .i64 (st.turns + 1)) := ⟨_, rfl⟩
  have hx := row_setAt HR.out 27 (.int .i64 (st.turns + 1))
  have hg := grown_set w rb 27 (.int .i64 (st.turns + 1))
  rw [← hX] at hx hg ⊢
  clear hX hc hi
  have hc : X.drew.cell? ⟨rb, 27, none⟩ = some (.int .i64 (st.turns + 1)) := by
    show X.cell? ⟨rb, 27, none⟩ = _
    simp [World.cell?, hx, rdCells]
  have hc2 : X.cell? ⟨rb, 27, none⟩ = some (.int .i64 (st.turns + 1)) := hc
  have ha : X.drew.cell? ⟨rb, 11, none⟩ = some (.int .i64 (st.n 5)) := by
    show X.cell? ⟨rb, 11, none⟩ = _
    simp [World.cell?, hx, rdCells]
  have hb : X.drew.cell? ⟨rb, 12, none⟩ = some (.int .i64 (st.t 5)) := by
    show X.cell? ⟨rb, 12, none⟩ = _
    simp [World.cell?, hx, rdCells]
  have hfa : X.drew.frozen? ⟨rb, 11, none⟩ = false := by
    show X.frozen? ⟨rb, 11, none⟩ = _
    simp [World.frozen?, hx]
  have hfb : X.drew.frozen? ⟨rb, 12, none⟩ = false := by
    show X.frozen? ⟨rb, 12, none⟩ = _
    simp [World.frozen?, hx]
  have ha2 : X.cell? ⟨rb, 11, none⟩ = some (.int .i64 (st.n 5)) := ha
  have hb2 : X.cell? ⟨rb, 12, none⟩ = some (.int .i64 (st.t 5)) := hb
  have hfa2 : X.frozen? ⟨rb, 11, none⟩ = false := hfa
  have hfb2 : X.frozen? ⟨rb, 12, none⟩ = false := hfb
  have HX := Lib.hid hx
  have HG := Lib.hid hg
  clear hx hg
  go_still_tail 11, (by kernel_rfl)
  change wpList _ _ _ _ _ X.drew
  go_wp2_with fail
  go_end0
  refine ⟨rfl, ?_, Lib.grownBy_trans HG.out (Lib.grownBy_setB (Lib.grownBy_setB (grown_drew X rb) 11 _) 12 _)⟩
  exact row_setAt (row_setAt (show X.drew.heap[rb]? = _ from HX.out) 11 (.int .i64 v)) 12 (.int .i64 (st.turns + 1))
set_option maxRecDepth 100000 in
set_option maxHeartbeats 1000000 in
theorem tell_6 (v : Int) (rb : Nat) (st : St) (ht1 : 0 ≤ st.turns) (ht2 : st.turns ≤ 1000000000000000) (w : World) (h : RdAt w rb st) :
    Calls Tryz.prog 164 #[.pointer (some ⟨rb, 0, none⟩), .int .i64 6, .int .i64 v] w fun e w' => e = .returned (.tuple #[]) ∧ RdAt w' rb (tellS st 6 v) ∧ w.grownBy w' (some rb) := by
  have hr := h
  unfold RdAt at hr
  have hc : w.cell? ⟨rb, 27, none⟩ = some (.int .i64 st.turns) := by simp [World.cell?, hr, rdCells]
  have hi : w.frozen? ⟨rb, 27, none⟩ = false := by simp [World.frozen?, hr]
  have HR := Lib.hid hr
  clear hr h
  go_enter Tryz.func164, Tryz.ntmps164
  go_wp2_with fail
  obtain ⟨X, hX⟩ : ∃ X, X = w.setCell ⟨rb, 27, none⟩ (.int .i64 (st.turns + 1)) := ⟨_, rfl⟩
  have hx := row_setAt HR.out 27 (.int .i64 (st.turns + 1))
  have hg := grown_set w rb 27 (.int .i64 (st.turns + 1))
  rw [← hX] at hx hg ⊢
  clear hX hc hi
  have hc : X.drew.cell? ⟨rb, 27, none⟩ = some (.int .i64 (st.turns + 1)) := by
    show X.cell? ⟨rb, 27, none⟩ = _
    simp [World.cell?, hx, rdCells]
  have hc2 : X.cell? ⟨rb, 27, none⟩ = some (.int .i64 (st.turns + 1)) := hc
  have ha : X.drew.cell? ⟨rb, 13, none⟩ = some (.int .i64 (st.n 6)) := by
    show X.cell? ⟨rb, 13, none⟩ = _
    simp [World.cell?, hx, rdCells]
  have hb : X.drew.cell? ⟨rb, 14, none⟩ = some (.int .i64 (st.t 6)) := by
    show X.cell? ⟨rb, 14, none⟩ = _
    simp [World.cell?, hx, rdCells]
  have hfa : X.drew.frozen? ⟨rb, 13, none⟩ = false := by
    show X.frozen? ⟨rb, 13, none⟩ = _
    simp [World.frozen?, hx]
  have hfb : X.drew.frozen? ⟨rb, 14, none⟩ = false := by
    show X.frozen? ⟨rb, 14, none⟩ = _
    simp [World.frozen?, hx]
  have ha2 : X.cell? ⟨rb, 13, none⟩ = some (.int .i64 (st.n 6)) := ha
  have hb2 : X.cell? ⟨rb, 14, none⟩ = some (.int .i64 (st.t 6)) := hb
  have hfa2 : X.frozen? ⟨rb, 13, none⟩ = false := hfa
  have hfb2 : X.frozen? ⟨rb, 14, none⟩ = false := hfb
  have HX := Lib.hid hx
  have HG := Lib.hid hg
  clear hx hg
  go_still_tail 11, (by kernel_rfl)
  change wpList _ _ _ _ _ X.drew
  go_wp2_with fail
  go_end0
  refine ⟨rfl, ?_, Lib.grownBy_trans HG.out (Lib.grownBy_setB (Lib.grownBy_setB (grown_drew X rb) 13 _) 14 _)⟩
  exact row_setAt (row_setAt (show X.drew.heap[rb]? = _ from HX.out) 13 (.int .i64 v)) 14 (.int .i64 (st.turns + 1))
set_option maxRecDepth 100000 in
set_option maxHeartbeats 1000000 in
theorem tell_7 (v : Int) (rb : Nat) (st : St) (ht1 : 0 ≤ st.turns) (ht2 : st.turns ≤ 1000000000000000) (w : World) (h : RdAt w rb st) :
    Calls Tryz.prog 164 #[.pointer (some ⟨rb, 0, none⟩), .int .i64 7, .int .i64 v] w fun e w' => e = .returned (.tuple #[]) ∧ RdAt w' rb (tellS st 7 v) ∧ w.grownBy w' (some rb) := by
  have hr := h
  unfold RdAt at hr
  have hc : w.cell? ⟨rb, 27, none⟩ = some (.int .i64 st.turns) := by simp [World.cell?, hr, rdCells]
  have hi : w.frozen? ⟨rb, 27, none⟩ = false := by simp [World.frozen?, hr]
  have HR := Lib.hid hr
  clear hr h
  go_enter Tryz.func164, Tryz.ntmps164
  go_wp2_with fail
  obtain ⟨X, hX⟩ : ∃ X, X = w.setCell ⟨rb, 27, none⟩ (.int .i64 (st.turns + 1)) := ⟨_, rfl⟩
  have hx := row_setAt HR.out 27 (.int .i64 (st.turns + 1))
  have hg := grown_set w rb 27 (.int .i64 (st.turns + 1))
  rw [← hX] at hx hg ⊢
  clear hX hc hi
  have hc : X.drew.cell? ⟨rb, 27, none⟩ = some (.int .i64 (st.turns + 1)) := by
    show X.cell? ⟨rb, 27, none⟩ = _
    simp [World.cell?, hx, rdCells]
  have hc2 : X.cell? ⟨rb, 27, none⟩ = some (.int .i64 (st.turns + 1)) := hc
  have ha : X.drew.cell? ⟨rb, 15, none⟩ = some (.int .i64 (st.n 7)) := by
    show X.cell? ⟨rb, 15, none⟩ = _
    simp [World.cell?, hx, rdCells]
  have hb : X.drew.cell? ⟨rb, 16, none⟩ = some (.int .i64 (st.t 7)) := by
    show X.cell? ⟨rb, 16, none⟩ = _
    simp [World.cell?, hx, rdCells]
  have hfa : X.drew.frozen? ⟨rb, 15, none⟩ = false := by
    show X.frozen? ⟨rb, 15, none⟩ = _
    simp [World.frozen?, hx]
  have hfb : X.drew.frozen? ⟨rb, 16, none⟩ = false := by
    show X.frozen? ⟨rb, 16, none⟩ = _
    simp [World.frozen?, hx]
  have ha2 : X.cell? ⟨rb, 15, none⟩ = some (.int .i64 (st.n 7)) := ha
  have hb2 : X.cell? ⟨rb, 16, none⟩ = some (.int .i64 (st.t 7)) := hb
  have hfa2 : X.frozen? ⟨rb, 15, none⟩ = false := hfa
  have hfb2 : X.frozen? ⟨rb, 16, none⟩ = false := hfb
  have HX := Lib.hid hx
  have HG := Lib.hid hg
  clear hx hg
  go_still_tail 11, (by kernel_rfl)
  change wpList _ _ _ _ _ X.drew
  go_wp2_with fail
  go_end0
  refine ⟨rfl, ?_, Lib.grownBy_trans HG.out (Lib.grownBy_setB (Lib.grownBy_setB (grown_drew X rb) 15 _) 16 _)⟩
  exact row_setAt (row_setAt (show X.drew.heap[rb]? = _ from HX.out) 15 (.int .i64 v)) 16 (.int .i64 (st.turns + 1))
set_option maxRecDepth 100000 in
set_option maxHeartbeats 1000000 in
theorem tell_8 (v : Int) (rb : Nat) (st : St) (ht1 : 0 ≤ st.turns) (ht2 : st.turns ≤ 1000000000000000) (w : World) (h : RdAt w rb st) :
    Calls Tryz.prog 164 #[.pointer (some ⟨rb, 0, none⟩), .int .i64 8, .int .i64 v] w fun e w' => e = .returned (.tuple #[]) ∧ RdAt w' rb (tellS st 8 v) ∧ w.grownBy w' (some rb) := by
  have hr := h
  unfold RdAt at hr
  have hc : w.cell? ⟨rb, 27, none⟩ = some (.int .i64 st.turns) := by simp [World.cell?, hr, rdCells]
  have hi : w.frozen? ⟨rb, 27, none⟩ = false := by simp [World.frozen?, hr]
  have HR := Lib.hid hr
  clear hr h
  go_enter Tryz.func164, Tryz.ntmps164
  go_wp2_with fail
  obtain ⟨X, hX⟩ : ∃ X, X = w.setCell ⟨rb, 27, none⟩ (.int .i64 (st.turns + 1)) := ⟨_, rfl⟩
  have hx := row_setAt HR.out 27 (.int .i64 (st.turns + 1))
  have hg := grown_set w rb 27 (.int .i64 (st.turns + 1))
  rw [← hX] at hx hg ⊢
  clear hX hc hi
  have hc : X.drew.cell? ⟨rb, 27, none⟩ = some (.int .i64 (st.turns + 1)) := by
    show X.cell? ⟨rb, 27, none⟩ = _
    simp [World.cell?, hx, rdCells]
  have hc2 : X.cell? ⟨rb, 27, none⟩ = some (.int .i64 (st.turns + 1)) := hc
  have ha : X.drew.cell? ⟨rb, 17, none⟩ = some (.int .i64 (st.n 8)) := by
    show X.cell? ⟨rb, 17, none⟩ = _
    simp [World.cell?, hx, rdCells]
  have hb : X.drew.cell? ⟨rb, 18, none⟩ = some (.int .i64 (st.t 8)) := by
    show X.cell? ⟨rb, 18, none⟩ = _
    simp [World.cell?, hx, rdCells]
  have hfa : X.drew.frozen? ⟨rb, 17, none⟩ = false := by
    show X.frozen? ⟨rb, 17, none⟩ = _
    simp [World.frozen?, hx]
  have hfb : X.drew.frozen? ⟨rb, 18, none⟩ = false := by
    show X.frozen? ⟨rb, 18, none⟩ = _
    simp [World.frozen?, hx]
  have ha2 : X.cell? ⟨rb, 17, none⟩ = some (.int .i64 (st.n 8)) := ha
  have hb2 : X.cell? ⟨rb, 18, none⟩ = some (.int .i64 (st.t 8)) := hb
  have hfa2 : X.frozen? ⟨rb, 17, none⟩ = false := hfa
  have hfb2 : X.frozen? ⟨rb, 18, none⟩ = false := hfb
  have HX := Lib.hid hx
  have HG := Lib.hid hg
  clear hx hg
  go_still_tail 11, (by kernel_rfl)
  change wpList _ _ _ _ _ X.drew
  go_wp2_with fail
  go_end0
  refine ⟨rfl, ?_, Lib.grownBy_trans HG.out (Lib.grownBy_setB (Lib.grownBy_setB (grown_drew X rb) 17 _) 18 _)⟩
  exact row_setAt (row_setAt (show X.drew.heap[rb]? = _ from HX.out) 17 (.int .i64 v)) 18 (.int .i64 (st.turns + 1))
set_option maxRecDepth 100000 in
set_option maxHeartbeats 1000000 in
theorem tell_9 (v : Int) (rb : Nat) (st : St) (ht1 : 0 ≤ st.turns) (ht2 : st.turns ≤ 1000000000000000) (w : World) (h : RdAt w rb st) :
    Calls Tryz.prog 164 #[.pointer (some ⟨rb, 0, none⟩), .int .i64 9, .int .i64 v] w fun e w' => e = .returned (.tuple #[]) ∧ RdAt w' rb (tellS st 9 v) ∧ w.grownBy w' (some rb) := by
  have hr := h
  unfold RdAt at hr
  have hc : w.cell? ⟨rb, 27, none⟩ = some (.int .i64 st.turns) := by simp [World.cell?, hr, rdCells]
  have hi : w.frozen? ⟨rb, 27, none⟩ = false := by simp [World.frozen?, hr]
  have HR := Lib.hid hr
  clear hr h
  go_enter Tryz.func164, Tryz.ntmps164
  go_wp2_with fail
  obtain ⟨X, hX⟩ : ∃ X, X = w.setCell ⟨rb, 27, none⟩ (.int .i64 (st.turns + 1)) := ⟨_, rfl⟩
  have hx := row_setAt HR.out 27 (.int .i64 (st.turns + 1))
  have hg := grown_set w rb 27 (.int .i64 (st.turns + 1))
  rw [← hX] at hx hg ⊢
  clear hX hc hi
  have hc : X.drew.cell? ⟨rb, 27, none⟩ = some (.int .i64 (st.turns + 1)) := by
    show X.cell? ⟨rb, 27, none⟩ = _
    simp [World.cell?, hx, rdCells]
  have hc2 : X.cell? ⟨rb, 27, none⟩ = some (.int .i64 (st.turns + 1)) := hc
  have ha : X.drew.cell? ⟨rb, 19, none⟩ = some (.int .i64 (st.n 9)) := by
    show X.cell? ⟨rb, 19, none⟩ = _
    simp [World.cell?, hx, rdCells]
  have hb : X.drew.cell? ⟨rb, 20, none⟩ = some (.int .i64 (st.t 9)) := by
    show X.cell? ⟨rb, 20, none⟩ = _
    simp [World.cell?, hx, rdCells]
  have hfa : X.drew.frozen? ⟨rb, 19, none⟩ = false := by
    show X.frozen? ⟨rb, 19, none⟩ = _
    simp [World.frozen?, hx]
  have hfb : X.drew.frozen? ⟨rb, 20, none⟩ = false := by
    show X.frozen? ⟨rb, 20, none⟩ = _
    simp [World.frozen?, hx]
  have ha2 : X.cell? ⟨rb, 19, none⟩ = some (.int .i64 (st.n 9)) := ha
  have hb2 : X.cell? ⟨rb, 20, none⟩ = some (.int .i64 (st.t 9)) := hb
  have hfa2 : X.frozen? ⟨rb, 19, none⟩ = false := hfa
  have hfb2 : X.frozen? ⟨rb, 20, none⟩ = false := hfb
  have HX := Lib.hid hx
  have HG := Lib.hid hg
  clear hx hg
  go_still_tail 11, (by kernel_rfl)
  change wpList _ _ _ _ _ X.drew
  go_wp2_with fail
  go_end0
  refine ⟨rfl, ?_, Lib.grownBy_trans HG.out (Lib.grownBy_setB (Lib.grownBy_setB (grown_drew X rb) 19 _) 20 _)⟩
  exact row_setAt (row_setAt (show X.drew.heap[rb]? = _ from HX.out) 19 (.int .i64 v)) 20 (.int .i64 (st.turns + 1))
set_option maxRecDepth 100000 in
set_option maxHeartbeats 1000000 in
theorem tell_10 (v : Int) (rb : Nat) (st : St) (ht1 : 0 ≤ st.turns) (ht2 : st.turns ≤ 1000000000000000) (w : World) (h : RdAt w rb st) :
    Calls Tryz.prog 164 #[.pointer (some ⟨rb, 0, none⟩), .int .i64 10, .int .i64 v] w fun e w' => e = .returned (.tuple #[]) ∧ RdAt w' rb (tellS st 10 v) ∧ w.grownBy w' (some rb) := by
  have hr := h
  unfold RdAt at hr
  have hc : w.cell? ⟨rb, 27, none⟩ = some (.int .i64 st.turns) := by simp [World.cell?, hr, rdCells]
  have hi : w.frozen? ⟨rb, 27, none⟩ = false := by simp [World.frozen?, hr]
  have HR := Lib.hid hr
  clear hr h
  go_enter Tryz.func164, Tryz.ntmps164
  go_wp2_with fail
  obtain ⟨X, hX⟩ : ∃ X, X = w.setCell ⟨rb, 27, none⟩ (.int .i64 (st.turns + 1)) := ⟨_, rfl⟩
  have hx := row_setAt HR.out 27 (.int .i64 (st.turns + 1))
  have hg := grown_set w rb 27 (.int .i64 (st.turns + 1))
  rw [← hX] at hx hg ⊢
  clear hX hc hi
  have hc : X.drew.cell? ⟨rb, 27, none⟩ = some (.int .i64 (st.turns + 1)) := by
    show X.cell? ⟨rb, 27, none⟩ = _
    simp [World.cell?, hx, rdCells]
  have hc2 : X.cell? ⟨rb, 27, none⟩ = some (.int .i64 (st.turns + 1)) := hc
  have ha : X.drew.cell? ⟨rb, 21, none⟩ = some (.int .i64 (st.n 10)) := by
    show X.cell? ⟨rb, 21, none⟩ = _
    simp [World.cell?, hx, rdCells]
  have hb : X.drew.cell? ⟨rb, 22, none⟩ = some (.int .i64 (st.t 10)) := by
    show X.cell? ⟨rb, 22, none⟩ = _
    simp [World.cell?, hx, rdCells]
  have hfa : X.drew.frozen? ⟨rb, 21, none⟩ = false := by
    show X.frozen? ⟨rb, 21, none⟩ = _
    simp [World.frozen?, hx]
  have hfb : X.drew.frozen? ⟨rb, 22, none⟩ = false := by
    show X.frozen? ⟨rb, 22, none⟩ = _
    simp [World.frozen?, hx]
  have ha2 : X.cell? ⟨rb, 21, none⟩ = some (.int .i64 (st.n 10)) := ha
  have hb2 : X.cell? ⟨rb, 22, none⟩ = some (.int .i64 (st.t 10)) := hb
  have hfa2 : X.frozen? ⟨rb, 21, none⟩ = false := hfa
  have hfb2 : X.frozen? ⟨rb, 22, none⟩ = false := hfb
  have HX := Lib.hid hx
  have HG := Lib.hid hg
  clear hx hg
  go_still_tail 11, (by kernel_rfl)
  change wpList _ _ _ _ _ X.drew
  go_wp2_with fail
  go_end0
  refine ⟨rfl, ?_, Lib.grownBy_trans HG.out (Lib.grownBy_setB (Lib.grownBy_setB (grown_drew X rb) 21 _) 22 _)⟩
  exact row_setAt (row_setAt (show X.drew.heap[rb]? = _ from HX.out) 21 (.int .i64 v)) 22 (.int .i64 (st.turns + 1))
set_option maxRecDepth 100000 in
set_option maxHeartbeats 1000000 in
theorem tell_11 (v : Int) (rb : Nat) (st : St) (ht1 : 0 ≤ st.turns) (ht2 : st.turns ≤ 1000000000000000) (w : World) (h : RdAt w rb st) :
    Calls Tryz.prog 164 #[.pointer (some ⟨rb, 0, none⟩), .int .i64 11, .int .i64 v] w fun e w' => e = .returned (.tuple #[]) ∧ RdAt w' rb (tellS st 11 v) ∧ w.grownBy w' (some rb) := by
  have hr := h
  unfold RdAt at hr
  have hc : w.cell? ⟨rb, 27, none⟩ = some (.int .i64 st.turns) := by simp [World.cell?, hr, rdCells]
  have hi : w.frozen? ⟨rb, 27, none⟩ = false := by simp [World.frozen?, hr]
  have HR := Lib.hid hr
  clear hr h
  go_enter Tryz.func164, Tryz.ntmps164
  go_wp2_with fail
  obtain ⟨X, hX⟩ : ∃ X, X = w.setCell ⟨rb, 27, none⟩ (.int .i64 (st.turns + 1)) := ⟨_, rfl⟩
  have hx := row_setAt HR.out 27 (.int .i64 (st.turns + 1))
  have hg := grown_set w rb 27 (.int .i64 (st.turns + 1))
  rw [← hX] at hx hg ⊢
  clear hX hc hi
  have hc : X.drew.cell? ⟨rb, 27, none⟩ = some (.int .i64 (st.turns + 1)) := by
    show X.cell? ⟨rb, 27, none⟩ = _
    simp [World.cell?, hx, rdCells]
  have hc2 : X.cell? ⟨rb, 27, none⟩ = some (.int .i64 (st.turns + 1)) := hc
  have ha : X.drew.cell? ⟨rb, 23, none⟩ = some (.int .i64 (st.n 11)) := by
    show X.cell? ⟨rb, 23, none⟩ = _
    simp [World.cell?, hx, rdCells]
  have hb : X.drew.cell? ⟨rb, 24, none⟩ = some (.int .i64 (st.t 11)) := by
    show X.cell? ⟨rb, 24, none⟩ = _
    simp [World.cell?, hx, rdCells]
  have hfa : X.drew.frozen? ⟨rb, 23, none⟩ = false := by
    show X.frozen? ⟨rb, 23, none⟩ = _
    simp [World.frozen?, hx]
  have hfb : X.drew.frozen? ⟨rb, 24, none⟩ = false := by
    show X.frozen? ⟨rb, 24, none⟩ = _
    simp [World.frozen?, hx]
  have ha2 : X.cell? ⟨rb, 23, none⟩ = some (.int .i64 (st.n 11)) := ha
  have hb2 : X.cell? ⟨rb, 24, none⟩ = some (.int .i64 (st.t 11)) := hb
  have hfa2 : X.frozen? ⟨rb, 23, none⟩ = false := hfa
  have hfb2 : X.frozen? ⟨rb, 24, none⟩ = false := hfb
  have HX := Lib.hid hx
  have HG := Lib.hid hg
  clear hx hg
  go_still_tail 11, (by kernel_rfl)
  change wpList _ _ _ _ _ X.drew
  go_wp2_with fail
  go_end0
  refine ⟨rfl, ?_, Lib.grownBy_trans HG.out (Lib.grownBy_setB (Lib.grownBy_setB (grown_drew X rb) 23 _) 24 _)⟩
  exact row_setAt (row_setAt (show X.drew.heap[rb]? = _ from HX.out) 23 (.int .i64 v)) 24 (.int .i64 (st.turns + 1))
set_option maxRecDepth 100000 in
set_option maxHeartbeats 1000000 in
theorem tell_12 (v : Int) (rb : Nat) (st : St) (ht1 : 0 ≤ st.turns) (ht2 : st.turns ≤ 1000000000000000) (w : World) (h : RdAt w rb st) :
    Calls Tryz.prog 164 #[.pointer (some ⟨rb, 0, none⟩), .int .i64 12, .int .i64 v] w fun e w' => e = .returned (.tuple #[]) ∧ RdAt w' rb (tellS st 12 v) ∧ w.grownBy w' (some rb) := by
  have hr := h
  unfold RdAt at hr
  have hc : w.cell? ⟨rb, 27, none⟩ = some (.int .i64 st.turns) := by simp [World.cell?, hr, rdCells]
  have hi : w.frozen? ⟨rb, 27, none⟩ = false := by simp [World.frozen?, hr]
  have HR := Lib.hid hr
  clear hr h
  go_enter Tryz.func164, Tryz.ntmps164
  go_wp2_with fail
  obtain ⟨X, hX⟩ : ∃ X, X = w.setCell ⟨rb, 27, none⟩ (.int .i64 (st.turns + 1)) := ⟨_, rfl⟩
  have hx := row_setAt HR.out 27 (.int .i64 (st.turns + 1))
  have hg := grown_set w rb 27 (.int .i64 (st.turns + 1))
  rw [← hX] at hx hg ⊢
  clear hX hc hi
  have hc : X.drew.cell? ⟨rb, 27, none⟩ = some (.int .i64 (st.turns + 1)) := by
    show X.cell? ⟨rb, 27, none⟩ = _
    simp [World.cell?, hx, rdCells]
  have hc2 : X.cell? ⟨rb, 27, none⟩ = some (.int .i64 (st.turns + 1)) := hc
  have ha : X.drew.cell? ⟨rb, 25, none⟩ = some (.int .i64 (st.n 12)) := by
    show X.cell? ⟨rb, 25, none⟩ = _
    simp [World.cell?, hx, rdCells]
  have hb : X.drew.cell? ⟨rb, 26, none⟩ = some (.int .i64 (st.t 12)) := by
    show X.cell? ⟨rb, 26, none⟩ = _
    simp [World.cell?, hx, rdCells]
  have hfa : X.drew.frozen? ⟨rb, 25, none⟩ = false := by
    show X.frozen? ⟨rb, 25, none⟩ = _
    simp [World.frozen?, hx]
  have hfb : X.drew.frozen? ⟨rb, 26, none⟩ = false := by
    show X.frozen? ⟨rb, 26, none⟩ = _
    simp [World.frozen?, hx]
  have ha2 : X.cell? ⟨rb, 25, none⟩ = some (.int .i64 (st.n 12)) := ha
  have hb2 : X.cell? ⟨rb, 26, none⟩ = some (.int .i64 (st.t 12)) := hb
  have hfa2 : X.frozen? ⟨rb, 25, none⟩ = false := hfa
  have hfb2 : X.frozen? ⟨rb, 26, none⟩ = false := hfb
  have HX := Lib.hid hx
  have HG := Lib.hid hg
  clear hx hg
  go_still_tail 11, (by kernel_rfl)
  change wpList _ _ _ _ _ X.drew
  go_wp2_with fail
  go_end0
  refine ⟨rfl, ?_, Lib.grownBy_trans HG.out (Lib.grownBy_setB (Lib.grownBy_setB (grown_drew X rb) 25 _) 26 _)⟩
  exact row_setAt (row_setAt (show X.drew.heap[rb]? = _ from HX.out) 25 (.int .i64 v)) 26 (.int .i64 (st.turns + 1))
theorem tell_any (p : Nat) (hp : p < 13) (v : Int) (rb : Nat) (st : St) (ht1 : 0 ≤ st.turns) (ht2 : st.turns ≤ 1000000000000000) (w : World) (h : RdAt w rb st) :
    Calls Tryz.prog 164 #[.pointer (some ⟨rb, 0, none⟩), .int .i64 p, .int .i64 v] w fun e w' => e = .returned (.tuple #[]) ∧ RdAt w' rb (tellS st p v) ∧ w.grownBy w' (some rb) := by
  match p, hp with
  | 0, _ => exact tell_0 v rb st ht1 ht2 w h
  | 1, _ => exact tell_1 v rb st ht1 ht2 w h
  | 2, _ => exact tell_2 v rb st ht1 ht2 w h
  | 3, _ => exact tell_3 v rb st ht1 ht2 w h
  | 4, _ => exact tell_4 v rb st ht1 ht2 w h
  | 5, _ => exact tell_5 v rb st ht1 ht2 w h
  | 6, _ => exact tell_6 v rb st ht1 ht2 w h
  | 7, _ => exact tell_7 v rb st ht1 ht2 w h
  | 8, _ => exact tell_8 v rb st ht1 ht2 w h
  | 9, _ => exact tell_9 v rb st ht1 ht2 w h
  | 10, _ => exact tell_10 v rb st ht1 ht2 w h
  | 11, _ => exact tell_11 v rb st ht1 ht2 w h
  | 12, _ => exact tell_12 v rb st ht1 ht2 w h
end Go.Proofs.YtpjncnoejdaplaaGreatDoor

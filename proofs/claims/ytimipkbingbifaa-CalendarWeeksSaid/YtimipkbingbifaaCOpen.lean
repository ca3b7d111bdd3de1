/- A time that came in, opened. -/
import Derived.Test.YtimipkbingbifaaCMem
import Derived.WideShapes
import Derived.Laws.Cover2
import Derived.Carry
namespace Go.Proofs.Ytimipkbingbifaa
open Go Go.ChangeShapes Go.WideShapes Go.ChangeAt Go.RowKit Go.Lib

section
variable {H : Type} {enc : TypeId × Value → H} {W : World} {base : Nat} {spare : Nat → Bool} {held : Bool}
theorem trod_floatC {P : Program} {fuel : Nat} {t : TypeId} {k : FloatKind} {v : Value} {x : DataW H × List MemPlace} (ht : P.underlying t = some (.float k)) (h : DataW.trod enc P W base spare held fuel t [v] = some x) :
    ∃ b, v = .float k b ∧ x = (.lit (.float k b), []) ∧ (Lit.float k b).wf = true := by
  cases fuel with
  | zero => simp [DataW.trod] at h
  | succ n =>
    rw [DataW.trod_step] at h
    unfold DataW.trodStep at h
    rw [ht] at h
    split at h <;> first | (exfalso; simp_all; done) | skip
    next k' k2 b e1 e2 =>
      split at h
      · next hc =>
        obtain ⟨rfl, hw⟩ := hc
        cases h
        cases e1
        cases e2
        exact ⟨b, rfl, rfl, hw⟩
      · cases h
theorem arr8 {α : Type} {cs : Array α} (h : cs.size = 8) : ∃ c0 c1 c2 c3 c4 c5 c6 c7, cs = #[c0, c1, c2, c3, c4, c5, c6, c7] := by
  obtain ⟨l⟩ := cs
  match l, h with
  | [c0, c1, c2, c3, c4, c5, c6, c7], _ => exact ⟨c0, c1, c2, c3, c4, c5, c6, c7, rfl⟩
def fitsI (n : Int) : Prop := (Lit.int .i64 n).wf = true
theorem open_time {r : Reach} {b0 : Nat} {v : Value} {d : DataW H} {ps : List MemPlace} (hval : Value.okWide Try.prog W r b0 37 v) (hd : DataW.Trod enc Try.prog W base spare held 37 v d ps) :
    ∃ (y m dd h i : Int) (s : Nat) (wd yd : Int), v = .agg (timeV y m dd h i s wd yd) ∧ ps = [] ∧ fitsI y ∧ fitsI m ∧ fitsI dd ∧ fitsI h ∧ fitsI i ∧ (Lit.float .f64 s).wf = true := by
  have hC : Try.prog.cellsOf 37 = 8 := by kernel_rfl
  have hi : Try.prog.underlying 3 = some (.int .i64) := by kernel_rfl
  have hf : Try.prog.underlying 35 = some (.float .f64) := by kernel_rfl
  have hs : ∃ f0 f1 f2 f3 f4 f5 f6 f7 : Field, Try.prog.underlying 37 = some (.struct #[f0, f1, f2, f3, f4, f5, f6, f7]) ∧ (f0.type = 3 ∧ f0.offset = 0) ∧ (f1.type = 3 ∧ f1.offset = 1) ∧ (f2.type = 3 ∧ f2.offset = 2) ∧ (f3.type = 3 ∧ f3.offset = 3) ∧ (f4.type = 3 ∧ f4.offset = 4) ∧ (f5.type = 35 ∧ f5.offset = 5) ∧ (f6.type = 3 ∧ f6.offset = 6) ∧ (f7.type = 3 ∧ f7.offset = 7) :=
    ⟨_, _, _, _, _, _, _, _, Try.underlying37, ⟨rfl, rfl⟩, ⟨rfl, rfl⟩, ⟨rfl, rfl⟩, ⟨rfl, rfl⟩, ⟨rfl, rfl⟩, ⟨rfl, rfl⟩, ⟨rfl, rfl⟩, ⟨rfl, rfl⟩⟩
  have ci : Try.prog.cellsOf 3 = 1 := by kernel_rfl
  have cf : Try.prog.cellsOf 35 = 1 := by kernel_rfl
  obtain ⟨f0, f1, f2, f3, f4, f5, f6, f7, hs, ⟨a0, o0⟩, ⟨a1, o1⟩, ⟨a2, o2⟩, ⟨a3, o3⟩, ⟨a4, o4⟩, ⟨a5, o5⟩, ⟨a6, o6⟩, ⟨a7, o7⟩⟩ := hs
  obtain ⟨cs, rfl, hsz⟩ := okWide_struct hs hval
  obtain ⟨c0, c1, c2, c3, c4, c5, c6, c7, rfl⟩ := arr8 (hsz.trans hC)
  obtain ⟨fuel, hfu⟩ := hd
  obtain ⟨xs, n, _, hx, _, hlen, hall⟩ := DataW.trod_struct hs hfu
  have g0 := hall 0 f0 rfl
  have g1 := hall 1 f1 rfl
  have g2 := hall 2 f2 rfl
  have g3 := hall 3 f3 rfl
  have g4 := hall 4 f4 rfl
  have g5 := hall 5 f5 rfl
  have g6 := hall 6 f6 rfl
  have g7 := hall 7 f7 rfl
  rw [a0, o0, ci] at g0
  rw [a1, o1, ci] at g1
  rw [a2, o2, ci] at g2
  rw [a3, o3, ci] at g3
  rw [a4, o4, ci] at g4
  rw [a5, o5, cf] at g5
  rw [a6, o6, ci] at g6
  rw [a7, o7, ci] at g7
  match xs, hlen with
  | [y0, y1, y2, y3, y4, y5, y6, y7], _ =>
    obtain ⟨n0, k0, rfl, w0⟩ := DataW.trod_int hi (show _ = some y0 from g0)
    obtain ⟨n1, k1, rfl, w1⟩ := DataW.trod_int hi (show _ = some y1 from g1)
    obtain ⟨n2, k2, rfl, w2⟩ := DataW.trod_int hi (show _ = some y2 from g2)
    obtain ⟨n3, k3, rfl, w3⟩ := DataW.trod_int hi (show _ = some y3 from g3)
    obtain ⟨n4, k4, rfl, w4⟩ := DataW.trod_int hi (show _ = some y4 from g4)
    obtain ⟨n5, rfl, rfl, w5⟩ := trod_floatC hf (show DataW.trod enc Try.prog W base spare held n _ [c5] = some y5 from g5)
    obtain ⟨n6, k6, rfl, w6⟩ := DataW.trod_int hi (show _ = some y6 from g6)
    obtain ⟨n7, k7, rfl, w7⟩ := DataW.trod_int hi (show _ = some y7 from g7)
    have e0 : c0 = .int .i64 n0 := by simpa [Value.cells] using k0
    have e1 : c1 = .int .i64 n1 := by simpa [Value.cells] using k1
    have e2 : c2 = .int .i64 n2 := by simpa [Value.cells] using k2
    have e3 : c3 = .int .i64 n3 := by simpa [Value.cells] using k3
    have e4 : c4 = .int .i64 n4 := by simpa [Value.cells] using k4
    have e6 : c6 = .int .i64 n6 := by simpa [Value.cells] using k6
    have e7 : c7 = .int .i64 n7 := by simpa [Value.cells] using k7
    subst e0 e1 e2 e3 e4 e6 e7
    refine ⟨n0, n1, n2, n3, n4, n5, n6, n7, rfl, ?_, w0, w1, w2, w3, w4, w5⟩
    have := congrArg Prod.snd hx
    simpa using this
end
theorem fitsI_bd {n : Int} (h : fitsI n) : -9223372036854775808 ≤ n ∧ n ≤ 9223372036854775807 := by
  unfold fitsI at h
  simp [Lit.wf] at h
  have e1 : IntKind.i64.min = -9223372036854775808 := by decide
  have e2 : IntKind.i64.max = 9223372036854775807 := by decide
  omega
theorem bits_bd {s : Nat} (h : (Lit.float .f64 s).wf = true) : s < 18446744073709551616 := by
  simp [Lit.wf] at h
  exact h
end Go.Proofs.Ytimipkbingbifaa

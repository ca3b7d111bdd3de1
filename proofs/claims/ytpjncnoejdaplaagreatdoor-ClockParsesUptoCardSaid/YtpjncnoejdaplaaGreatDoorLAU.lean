/- A time as a moment. -/
import Derived.Test.YtpjncnoejdaplaaGreatDoorLAK
import Derived.Test.YtpjncnoejdaplaaGreatDoorLAQ
import Derived.Test.YtpjncnoejdaplaaGreatDoorLAS
import Derived.Deep.RegionWith
import Derived.Deep.RegionHeld3
import Derived.Deep.RegionLaw
import Derived.Test.YtpjncnoejdaplaaGreatDoorLAT
import Derived.Test.YtpjncnoejdaplaaGreatDoorLAB
namespace Go.Proofs.YtpjncnoejdaplaaGreatDoor
open Go Go.RowKit Go.Shelf

/-- The moment of a known day's second. -/
def mkMom (y m d a : Int) : Mom := { y := y, mo := m, d := d, h := a % 86400 / 3600, mi := a % 86400 / 60 % 60, ss := a % 86400 % 60, wd := (numI y m d + 4) % 7, yd := numI y m d - beginI y 0, sec := a, iy := isoI (numI y m d) y, iw := weekI (numI y m d) (isoI (numI y m d) y), fs := sunI (numI y m d) y, fm := monI (numI y m d) y }
theorem mkMom_ok (y m d a : Int) (hD : OkD y m d) (ha : a / 86400 = numI y m d) : MomOK (mkMom y m d a) := by
  have hr := num_range y m d hD
  have hin := num_in y m d hD
  have hiso := iso_in (numI y m d) y hin.1 hin.2
  have y2 := yearI_two y
  have y3 := yearI_two (isoI (numI y m d) y)
  obtain ⟨⟨a1, a2⟩, ⟨b1, b2⟩, c1, c2⟩ := hD
  have hl := lenI_bd y m b1 b2
  have hi : isoI (numI y m d) y = y - 1 ∨ isoI (numI y m d) y = y + 1 ∨ isoI (numI y m d) y = y := by
    unfold isoI
    split
    · exact .inl rfl
    · split
      · exact .inr (.inl rfl)
      · exact .inr (.inr rfl)
  obtain ⟨n, hn⟩ : ∃ n, numI y m d = n := ⟨_, rfl⟩
  obtain ⟨z, hz⟩ : ∃ z, isoI n y = z := ⟨_, rfl⟩
  rw [hn] at hr hin hiso y3 hi ha
  rw [hz] at hiso y3 hi
  unfold MomOK mkMom
  simp only
  rw [hn, hz]
  unfold weekI sunI monI
  refine ⟨⟨a1, a2⟩, ⟨b1, b2⟩, ⟨c1, by omega⟩, ?_, ?_, ?_, ?_, ?_, ?_, ?_, ?_, ?_, ?_⟩ <;> omega
theorem ice13 {w : World} {b : Nat} {u0 u1 u2 u3 u4 u5 u6 u7 u8 u9 u10 u11 u12 : Value} {t : TypeId} (h : w.heap[b]? = some (.cells #[u0, u1, u2, u3, u4, u5, u6, u7, u8, u9, u10, u11, u12] t (0, 0))) :
    w.frozen? ⟨b, 0, none⟩ = false ∧ w.frozen? ⟨b, 1, none⟩ = false ∧ w.frozen? ⟨b, 2, none⟩ = false ∧ w.frozen? ⟨b, 3, none⟩ = false ∧ w.frozen? ⟨b, 4, none⟩ = false ∧ w.frozen? ⟨b, 5, none⟩ = false ∧ w.frozen? ⟨b, 6, none⟩ = false ∧ w.frozen? ⟨b, 7, none⟩ = false ∧ w.frozen? ⟨b, 8, none⟩ = false ∧ w.frozen? ⟨b, 9, none⟩ = false ∧ w.frozen? ⟨b, 10, none⟩ = false ∧ w.frozen? ⟨b, 11, none⟩ = false ∧ w.frozen? ⟨b, 12, none⟩ = false := by
  refine ⟨?_, ?_, ?_, ?_, ?_, ?_, ?_, ?_, ?_, ?_, ?_, ?_, ?_⟩ <;> simp [World.frozen?, h]
theorem set8_row13 {w : World} {R : Nat} {u0 u1 u2 u3 u4 u5 u6 u7 u8 u9 u10 u11 u12 : Value} {t : TypeId} (h : w.heap[R]? = some (.cells #[u0, u1, u2, u3, u4, u5, u6, u7, u8, u9, u10, u11, u12] t (0, 0))) (x0 x1 x2 x3 x4 x5 x6 x7 : Value) : (set8 w R x0 x1 x2 x3 x4 x5 x6 x7).heap[R]? = some (.cells #[x0, x1, x2, x3, x4, x5, x6, x7, u8, u9, u10, u11, u12] t (0, 0)) := by
  have h0 : (w.setCell ⟨R, 0, none⟩ x0).heap[R]? = some (.cells #[x0, u1, u2, u3, u4, u5, u6, u7, u8, u9, u10, u11, u12] t (0, 0)) := row_setAt h 0 x0
  have h1 : ((w.setCell ⟨R, 0, none⟩ x0).setCell ⟨R, 1, none⟩ x1).heap[R]? = some (.cells #[x0, x1, u2, u3, u4, u5, u6, u7, u8, u9, u10, u11, u12] t (0, 0)) := row_setAt h0 1 x1
  have h2 : (((w.setCell ⟨R, 0, none⟩ x0).setCell ⟨R, 1, none⟩ x1).setCell ⟨R, 2, none⟩ x2).heap[R]? = some (.cells #[x0, x1, x2, u3, u4, u5, u6, u7, u8, u9, u10, u11, u12] t (0, 0)) := row_setAt h1 2 x2
  have h3 : ((((w.setCell ⟨R, 0, none⟩ x0).setCell ⟨R, 1, none⟩ x1).setCell ⟨R, 2, none⟩ x2).setCell ⟨R, 3, none⟩ x3).heap[R]? = some (.cells #[x0, x1, x2, x3, u4, u5, u6, u7, u8, u9, u10, u11, u12] t (0, 0)) := row_setAt h2 3 x3
  have h4 : (((((w.setCell ⟨R, 0, none⟩ x0).setCell ⟨R, 1, none⟩ x1).setCell ⟨R, 2, none⟩ x2).setCell ⟨R, 3, none⟩ x3).setCell ⟨R, 4, none⟩ x4).heap[R]? = some (.cells #[x0, x1, x2, x3, x4, u5, u6, u7, u8, u9, u10, u11, u12] t (0, 0)) := row_setAt h3 4 x4
  have h5 : ((((((w.setCell ⟨R, 0, none⟩ x0).setCell ⟨R, 1, none⟩ x1).setCell ⟨R, 2, none⟩ x2).setCell ⟨R, 3, none⟩ x3).setCell ⟨R, 4, none⟩ x4).setCell ⟨R, 5, none⟩ x5).heap[R]? = some (.cells #[x0, x1, x2, x3, x4, x5, u6, u7, u8, u9, u10, u11, u12] t (0, 0)) := row_setAt h4 5 x5
  have h6 : (((((((w.setCell ⟨R, 0, none⟩ x0).setCell ⟨R, 1, none⟩ x1).setCell ⟨R, 2, none⟩ x2).setCell ⟨R, 3, none⟩ x3).setCell ⟨R, 4, none⟩ x4).setCell ⟨R, 5, none⟩ x5).setCell ⟨R, 6, none⟩ x6).heap[R]? = some (.cells #[x0, x1, x2, x3, x4, x5, x6, u7, u8, u9, u10, u11, u12] t (0, 0)) := row_setAt h5 6 x6
  have h7 : ((((((((w.setCell ⟨R, 0, none⟩ x0).setCell ⟨R, 1, none⟩ x1).setCell ⟨R, 2, none⟩ x2).setCell ⟨R, 3, none⟩ x3).setCell ⟨R, 4, none⟩ x4).setCell ⟨R, 5, none⟩ x5).setCell ⟨R, 6, none⟩ x6).setCell ⟨R, 7, none⟩ x7).heap[R]? = some (.cells #[x0, x1, x2, x3, x4, x5, x6, x7, u8, u9, u10, u11, u12] t (0, 0)) := row_setAt h6 7 x7
  exact h7
theorem three_other (w : World) {R k : Nat} {o : Obj} (h : k ≠ R) (x y z : Value) (hk : w.heap[k]? = some o) : (((w.setCell ⟨R, 5, none⟩ x).setCell ⟨R, 6, none⟩ y).setCell ⟨R, 7, none⟩ z).heap[k]? = some o := by
  rw [setCell_other_block _ h, setCell_other_block _ h, setCell_other_block _ h]
  exact hk
def set13 (w : World) (R : Nat) (x0 x1 x2 x3 x4 x5 x6 x7 x8 x9 x10 x11 x12 : Value) : World := (((((((((((((w.setCell ⟨R, 0, none⟩ x0).setCell ⟨R, 1, none⟩ x1).setCell ⟨R, 2, none⟩ x2).setCell ⟨R, 3, none⟩ x3).setCell ⟨R, 4, none⟩ x4).setCell ⟨R, 5, none⟩ x5).setCell ⟨R, 6, none⟩ x6).setCell ⟨R, 7, none⟩ x7).setCell ⟨R, 8, none⟩ x8).setCell ⟨R, 9, none⟩ x9).setCell ⟨R, 10, none⟩ x10).setCell ⟨R, 11, none⟩ x11).setCell ⟨R, 12, none⟩ x12)
theorem set13_row {w : World} {R : Nat} {u0 u1 u2 u3 u4 u5 u6 u7 u8 u9 u10 u11 u12 : Value} {t : TypeId} (h : w.heap[R]? = some (.cells #[u0, u1, u2, u3, u4, u5, u6, u7, u8, u9, u10, u11, u12] t (0, 0))) (x0 x1 x2 x3 x4 x5 x6 x7 x8 x9 x10 x11 x12 : Value) : (set13 w R x0 x1 x2 x3 x4 x5 x6 x7 x8 x9 x10 x11 x12).heap[R]? = some (.cells #[x0, x1, x2, x3, x4, x5, x6, x7, x8, x9, x10, x11, x12] t (0, 0)) := by
  have h0 : (w.setCell ⟨R, 0, none⟩ x0).heap[R]? = some (.cells #[x0, u1, u2, u3, u4, u5, u6, u7, u8, u9, u10, u11, u12] t (0, 0)) := row_setAt h 0 x0
  have h1 : ((w.setCell ⟨R, 0, none⟩ x0).setCell ⟨R, 1, none⟩ x1).heap[R]? = some (.cells #[x0, x1, u2, u3, u4, u5, u6, u7, u8, u9, u10, u11, u12] t (0, 0)) := row_setAt h0 1 x1
  have h2 : (((w.setCell ⟨R, 0, none⟩ x0).setCell ⟨R, 1, none⟩ x1).setCell ⟨R, 2, none⟩ x2).heap[R]? = some (.cells #[x0, x1, x2, u3, u4, u5, u6, u7, u8, u9, u10, u11, u12] t (0, 0)) := row_setAt h1 2 x2
  have h3 : ((((w.setCell ⟨R, 0, none⟩ x0).setCell ⟨R, 1, none⟩ x1).setCell ⟨R, 2, none⟩ x2).setCell ⟨R, 3, none⟩ x3).heap[R]? = some (.cells #[x0, x1, x2, x3, u4, u5, u6, u7, u8, u9, u10, u11, u12] t (0, 0)) := row_setAt h2 3 x3
  have h4 : (((((w.setCell ⟨R, 0, none⟩ x0).setCell ⟨R, 1, none⟩ x1).setCell ⟨R, 2, none⟩ x2).setCell ⟨R, 3, none⟩ x3).setCell ⟨R, 4, none⟩ x4).heap[R]? = some (.cells #[x0, x1, x2, x3, x4, u5, u6, u7, u8, u9, u10, u11, u12] t (0, 0)) := row_setAt h3 4 x4
  have h5 : ((((((w.setCell ⟨R, 0, none⟩ x0).setCell ⟨R, 1, none⟩ x1).setCell ⟨R, 2, none⟩ x2).setCell ⟨R, 3, none⟩ x3).setCell ⟨R, 4, none⟩ x4).setCell ⟨R, 5, none⟩ x5).heap[R]? = some (.cells #[x0, x1, x2, x3, x4, x5, u6, u7, u8, u9, u10, u11, u12] t (0, 0)) := row_setAt h4 5 x5
  have h6 : (((((((w.setCell ⟨R, 0, none⟩ x0).setCell ⟨R, 1, none⟩ x1).setCell ⟨R, 2, none⟩ x2).setCell ⟨R, 3, none⟩ x3).setCell ⟨R, 4, none⟩ x4).setCell ⟨R, 5, none⟩ x5).setCell ⟨R, 6, none⟩ x6).heap[R]? = some (.cells #[x0, x1, x2, x3, x4, x5, x6, u7, u8, u9, u10, u11, u12] t (0, 0)) := row_setAt h5 6 x6
  have h7 : ((((((((w.setCell ⟨R, 0, none⟩ x0).setCell ⟨R, 1, none⟩ x1).setCell ⟨R, 2, none⟩ x2).setCell ⟨R, 3, none⟩ x3).setCell ⟨R, 4, none⟩ x4).setCell ⟨R, 5, none⟩ x5).setCell ⟨R, 6, none⟩ x6).setCell ⟨R, 7, none⟩ x7).heap[R]? = some (.cells #[x0, x1, x2, x3, x4, x5, x6, x7, u8, u9, u10, u11, u12] t (0, 0)) := row_setAt h6 7 x7
  have h8 : (((((((((w.setCell ⟨R, 0, none⟩ x0).setCell ⟨R, 1, none⟩ x1).setCell ⟨R, 2, none⟩ x2).setCell ⟨R, 3, none⟩ x3).setCell ⟨R, 4, none⟩ x4).setCell ⟨R, 5, none⟩ x5).setCell ⟨R, 6, none⟩ x6).setCell ⟨R, 7, none⟩ x7).setCell ⟨R, 8, none⟩ x8).heap[R]? = some (.cells #[x0, x1, x2, x3, x4, x5, x6, x7, x8, u9, u10, u11, u12] t (0, 0)) := row_setAt h7 8 x8
  have h9 : ((((((((((w.setCell ⟨R, 0, none⟩ x0).setCell ⟨R, 1, none⟩ x1).setCell ⟨R, 2, none⟩ x2).setCell ⟨R, 3, none⟩ x3).setCell ⟨R, 4, none⟩ x4).setCell ⟨R, 5, none⟩ x5).setCell ⟨R, 6, none⟩ x6).setCell ⟨R, 7, none⟩ x7).setCell ⟨R, 8, none⟩ x8).setCell ⟨R, 9, none⟩ x9).heap[R]? = some (.cells #[x0, x1, x2, x3, x4, x5, x6, x7, x8, x9, u10, u11, u12] t (0, 0)) := row_setAt h8 9 x9
  have h10 : (((((((((((w.setCell ⟨R, 0, none⟩ x0).setCell ⟨R, 1, none⟩ x1).setCell ⟨R, 2, none⟩ x2).setCell ⟨R, 3, none⟩ x3).setCell ⟨R, 4, none⟩ x4).setCell ⟨R, 5, none⟩ x5).setCell ⟨R, 6, none⟩ x6).setCell ⟨R, 7, none⟩ x7).setCell ⟨R, 8, none⟩ x8).setCell ⟨R, 9, none⟩ x9).setCell ⟨R, 10, none⟩ x10).heap[R]? = some (.cells #[x0, x1, x2, x3, x4, x5, x6, x7, x8, x9, x10, u11, u12] t (0, 0)) := row_setAt h9 10 x10
  have h11 : ((((((((((((w.setCell ⟨R, 0, none⟩ x0).setCell ⟨R, 1, none⟩ x1).setCell ⟨R, 2, none⟩ x2).setCell ⟨R, 3, none⟩ x3).setCell ⟨R, 4, none⟩ x4).setCell ⟨R, 5, none⟩ x5).setCell ⟨R, 6, none⟩ x6).setCell ⟨R, 7, none⟩ x7).setCell ⟨R, 8, none⟩ x8).setCell ⟨R, 9, none⟩ x9).setCell ⟨R, 10, none⟩ x10).setCell ⟨R, 11, none⟩ x11).heap[R]? = some (.cells #[x0, x1, x2, x3, x4, x5, x6, x7, x8, x9, x10, x11, u12] t (0, 0)) := row_setAt h10 11 x11
  have h12 : (((((((((((((w.setCell ⟨R, 0, none⟩ x0).setCell ⟨R, 1, none⟩ x1).setCell ⟨R, 2, none⟩ x2).setCell ⟨R, 3, none⟩ x3).setCell ⟨R, 4, none⟩ x4).setCell ⟨R, 5, none⟩ x5).setCell ⟨R, 6, none⟩ x6).setCell ⟨R, 7, none⟩ x7).setCell ⟨R, 8, none⟩ x8).setCell ⟨R, 9, none⟩ x9).setCell ⟨R, 10, none⟩ x10).setCell ⟨R, 11, none⟩ x11).setCell ⟨R, 12, none⟩ x12).heap[R]? = some (.cells #[x0, x1, x2, x3, x4, x5, x6, x7, x8, x9, x10, x11, x12] t (0, 0)) := row_setAt h11 12 x12
  exact h12
theorem set13_below {B R : Nat} {w w' : World} (h : Below B w w') (q : B ≤ R) (x0 x1 x2 x3 x4 x5 x6 x7 x8 x9 x10 x11 x12 : Value) : Below B w (set13 w' R x0 x1 x2 x3 x4 x5 x6 x7 x8 x9 x10 x11 x12) := by
  unfold set13
  exact (((((((((((((h.setCell (p := ⟨R, 0, none⟩) q x0).setCell (p := ⟨R, 1, none⟩) q x1).setCell (p := ⟨R, 2, none⟩) q x2).setCell (p := ⟨R, 3, none⟩) q x3).setCell (p := ⟨R, 4, none⟩) q x4).setCell (p := ⟨R, 5, none⟩) q x5).setCell (p := ⟨R, 6, none⟩) q x6).setCell (p := ⟨R, 7, none⟩) q x7).setCell (p := ⟨R, 8, none⟩) q x8).setCell (p := ⟨R, 9, none⟩) q x9).setCell (p := ⟨R, 10, none⟩) q x10).setCell (p := ⟨R, 11, none⟩) q x11).setCell (p := ⟨R, 12, none⟩) q x12)
theorem set4_row13 {w : World} {R : Nat} {u0 u1 u2 u3 u4 u5 u6 u7 u8 u9 u10 u11 u12 : Value} {t : TypeId} (h : w.heap[R]? = some (.cells #[u0, u1, u2, u3, u4, u5, u6, u7, u8, u9, u10, u11, u12] t (0, 0))) (a b c d : Value) : ((((w.setCell ⟨R, 9, none⟩ a).setCell ⟨R, 10, none⟩ b).setCell ⟨R, 11, none⟩ c).setCell ⟨R, 12, none⟩ d).heap[R]? = some (.cells #[u0, u1, u2, u3, u4, u5, u6, u7, u8, a, b, c, d] t (0, 0)) := by
  have h1 : (w.setCell ⟨R, 9, none⟩ a).heap[R]? = some (.cells #[u0, u1, u2, u3, u4, u5, u6, u7, u8, a, u10, u11, u12] t (0, 0)) := row_setAt h 9 a
  have h2 : ((w.setCell ⟨R, 9, none⟩ a).setCell ⟨R, 10, none⟩ b).heap[R]? = some (.cells #[u0, u1, u2, u3, u4, u5, u6, u7, u8, a, b, u11, u12] t (0, 0)) := row_setAt h1 10 b
  have h3 : (((w.setCell ⟨R, 9, none⟩ a).setCell ⟨R, 10, none⟩ b).setCell ⟨R, 11, none⟩ c).heap[R]? = some (.cells #[u0, u1, u2, u3, u4, u5, u6, u7, u8, a, b, c, u12] t (0, 0)) := row_setAt h2 11 c
  exact row_setAt h3 12 d
theorem four_other {w : World} {R k : Nat} {o : Obj} (h : k ≠ R) (a b c d : Value) (hk : w.heap[k]? = some o) : ((((w.setCell ⟨R, 9, none⟩ a).setCell ⟨R, 10, none⟩ b).setCell ⟨R, 11, none⟩ c).setCell ⟨R, 12, none⟩ d).heap[k]? = some o := by
  rw [setCell_other_block _ h, setCell_other_block _ h, setCell_other_block _ h, setCell_other_block _ h]
  exact hk
theorem sizeMom : (Tryz.prog.info? 57).map (·.size) = some 13 := by kernel_rfl
def zeroM : Array Value := #[.int .i64 0, .int .i64 0, .int .i64 0, .int .i64 0, .int .i64 0, .float .f64 0, .int .i64 0, .int .i64 0, .int .i64 0, .int .i64 0, .int .i64 0, .int .i64 0, .int .i64 0]
/-- A time of a moment, its second as it stands. -/
def tmV (M : Mom) (s : Nat) (wd yd : Int) : Array Value := timeV M.y M.mo M.d M.h M.mi s wd yd
set_option maxRecDepth 100000 in
set_option maxHeartbeats 4000000 in
theorem momentOf_ok (y m d a : Int) (hD : OkD y m d) (ha : a / 86400 = numI y m d) (s : Nat) (wd yd : Int) (hs : szB s < 9218868437227405312) (he : Ieee.double.order (floorB s) (fI (a % 86400 % 60)) = some .eq)
    (hJ : ∀ w, Calls Tryz.prog 53 #[.agg (timeV y m d (a % 86400 / 3600) (a % 86400 / 60 % 60) s wd yd)] w fun e w' => e = .returned (.tuple #[.int .i64 a, .int .i64 0]) ∧ Below w.heap.size w w') (w : World) :
    Calls Tryz.prog 22 #[.agg (timeV y m d (a % 86400 / 3600) (a % 86400 / 60 % 60) s wd yd)] w fun e w' => e = .returned (.tuple #[.agg (momV (mkMom y m d a)), .nilIface]) ∧ Below w.heap.size w w' := by
  have hsf := run_store_float Tryz.prog
  have hci := conv_int a
  have hr := num_range y m d hD
  have hz := (fI_is a (by omega) (by omega)).1
  have hfl := flI_fI a (by omega) (by omega)
  have hS := fun w => Split_of (fI a) hz y m d (a % 86400) hD (by rw [hfl]; exact ha) (by rw [hfl]) w
  rw [sec_fI a (a % 86400 % 60) (by omega) (by omega) (by omega) (by omega)] at hS
  have HS := Lib.hid hS
  have HJ := Lib.hid hJ
  have HDy := Lib.hid (fun w => Day_yes y m d hD w)
  have HWk := Lib.hid (fun w => Weeks_of y m d hD w)
  have HFl := Lib.hid (fun w => Floor_num s (by omega) w)
  have HE := Lib.hid he
  have HM : Hid (momV (mkMom y m d a) = #[.int .i64 y, .int .i64 m, .int .i64 d, .int .i64 (a % 86400 / 3600), .int .i64 (a % 86400 / 60 % 60), .float .f64 (fI (a % 86400 % 60)), .int .i64 ((numI y m d + 4) % 7), .int .i64 (numI y m d - beginI y 0), .int .i64 a, .int .i64 (isoI (numI y m d) y), .int .i64 (weekI (numI y m d) (isoI (numI y m d) y)), .int .i64 (sunI (numI y m d) y), .int .i64 (monI (numI y m d) y)]) := Lib.hid rfl
  clear hS hJ hz hfl he hs hr ha hD
  unfold timeV at HS HJ ⊢
  obtain ⟨h, hh⟩ : ∃ h, a % 86400 / 3600 = h := ⟨_, rfl⟩
  obtain ⟨i, hi⟩ : ∃ i, a % 86400 / 60 % 60 = i := ⟨_, rfl⟩
  obtain ⟨r, hr⟩ : ∃ r, fI (a % 86400 % 60) = r := ⟨_, rfl⟩
  obtain ⟨k, hk⟩ : ∃ k, numI y m d = k := ⟨_, rfl⟩
  obtain ⟨wd', hwd⟩ : ∃ wd', (k + 4) % 7 = wd' := ⟨_, rfl⟩
  obtain ⟨yd', hyd⟩ : ∃ yd', k - beginI y 0 = yd' := ⟨_, rfl⟩
  rw [hh, hi, hr, hk, hwd, hyd] at HS HM
  rw [hh, hi] at HJ ⊢
  rw [hr] at HE
  rw [hk] at HDy HWk
  clear hh hi hr hk hwd hyd
  go_enter Tryz.func22, Tryz.ntmps22
  go_wp2_with fail
  have r1 := row_alloc3 (heap_alloc_new w (.cells #[.int .i64 y, .int .i64 m, .int .i64 d, .int .i64 h, .int .i64 i, .float .f64 s, .int .i64 wd, .int .i64 yd] 24)) (.cells zeroM 57)
  have r2 := heap_alloc_new (w.alloc (.cells #[.int .i64 y, .int .i64 m, .int .i64 d, .int .i64 h, .int .i64 i, .float .f64 s, .int .i64 wd, .int .i64 yd] 24)) (.cells zeroM 57)
  rw [World.size_alloc] at r2
  have b1 := ((Below.refl w.heap.size w).alloc (Nat.le_refl _) (.cells #[.int .i64 y, .int .i64 m, .int .i64 d, .int .i64 h, .int .i64 i, .float .f64 s, .int .i64 wd, .int .i64 yd] 24)).alloc (by simp) (.cells zeroM 57)
  have z1 : w.heap.size + 1 < ((w.alloc (.cells #[.int .i64 y, .int .i64 m, .int .i64 d, .int .i64 h, .int .i64 i, .float .f64 s, .int .i64 wd, .int .i64 yd] 24)).alloc (.cells zeroM 57)).heap.size := by simp
  unfold zeroM at r1 r2 b1 z1
  generalize (w.alloc (.cells #[.int .i64 y, .int .i64 m, .int .i64 d, .int .i64 h, .int .i64 i, .float .f64 s, .int .i64 wd, .int .i64 yd] 24)).alloc (.cells #[.int .i64 0, .int .i64 0, .int .i64 0, .int .i64 0, .int .i64 0, .float .f64 0, .int .i64 0, .int .i64 0, .int .i64 0, .int .i64 0, .int .i64 0, .int .i64 0, .int .i64 0] 57) = X1 at r1 r2 b1 z1 ⊢
  have R1 := Lib.hid r1
  have R2 := Lib.hid r2
  have B1 := Lib.hid b1
  have Z1 := Lib.hid z1
  clear r1 r2 b1 z1
  refine (HJ.out _).mono ?_
  rintro e w1 ⟨rfl, hb⟩
  have T1 := Lib.hid ((hb.block w.heap.size (by have := Z1.out; omega)).trans R1.out)
  have T2 := Lib.hid ((hb.block (w.heap.size + 1) Z1.out).trans R2.out)
  have B2 := Lib.hid (B1.out.trans (hb.mono B1.out.size))
  have Z2 := Lib.hid (Nat.lt_of_lt_of_le Z1.out hb.size)
  clear hb R1 R2 B1 Z1
  go_wp2_with fail
  have r1 := row_alloc3 T1.out (.cells #[.int .i64 0, .int .i64 0, .int .i64 0, .int .i64 0, .int .i64 0, .float .f64 0, .int .i64 0, .int .i64 0, .int .i64 a, .int .i64 0, .int .i64 0, .int .i64 0, .int .i64 0] 57)
  have r2 := row_alloc3 T2.out (.cells #[.int .i64 0, .int .i64 0, .int .i64 0, .int .i64 0, .int .i64 0, .float .f64 0, .int .i64 0, .int .i64 0, .int .i64 a, .int .i64 0, .int .i64 0, .int .i64 0, .int .i64 0] 57)
  have r3 := heap_alloc_new w1 (.cells #[.int .i64 0, .int .i64 0, .int .i64 0, .int .i64 0, .int .i64 0, .float .f64 0, .int .i64 0, .int .i64 0, .int .i64 a, .int .i64 0, .int .i64 0, .int .i64 0, .int .i64 0] 57)
  have b1 := B2.out.alloc B2.out.size (.cells #[.int .i64 0, .int .i64 0, .int .i64 0, .int .i64 0, .int .i64 0, .float .f64 0, .int .i64 0, .int .i64 0, .int .i64 a, .int .i64 0, .int .i64 0, .int .i64 0, .int .i64 0] 57)
  have z1 : w1.heap.size < (w1.alloc (.cells #[.int .i64 0, .int .i64 0, .int .i64 0, .int .i64 0, .int .i64 0, .float .f64 0, .int .i64 0, .int .i64 0, .int .i64 a, .int .i64 0, .int .i64 0, .int .i64 0, .int .i64 0] 57)).heap.size := by simp
  obtain ⟨q, hq⟩ : ∃ q, w1.heap.size = q := ⟨_, rfl⟩
  have HQ : Hid (w.heap.size + 1 < q) := Lib.hid (by rw [← hq]; exact Z2.out)
  rw [hq] at r3 z1 ⊢
  generalize w1.alloc (.cells #[.int .i64 0, .int .i64 0, .int .i64 0, .int .i64 0, .int .i64 0, .float .f64 0, .int .i64 0, .int .i64 0, .int .i64 a, .int .i64 0, .int .i64 0, .int .i64 0, .int .i64 0] 57) = X2 at r1 r2 r3 b1 z1 ⊢
  have R1 := Lib.hid r1
  have R2 := Lib.hid r2
  have R3 := Lib.hid r3
  have B3 := Lib.hid b1
  have Z3 := Lib.hid z1
  clear r1 r2 r3 b1 z1 T1 T2 B2 Z2 hq hci
  refine (HS.out _).mono ?_
  rintro e w3 ⟨rfl, hb⟩
  have T1 := Lib.hid ((hb.block w.heap.size (by have := Z3.out; have := HQ.out; omega)).trans R1.out)
  have T2 := Lib.hid ((hb.block (w.heap.size + 1) (by have := Z3.out; have := HQ.out; omega)).trans R2.out)
  have T3 := Lib.hid ((hb.block q Z3.out).trans R3.out)
  have B4 := Lib.hid (B3.out.trans (hb.mono B3.out.size))
  have Z4 := Lib.hid (Nat.lt_of_lt_of_le Z3.out hb.size)
  clear hb R1 R2 R3 B3 Z3
  obtain ⟨u0, u1, u2, u3, u4, u5, u6, u7, u8, u9, u10, u11, u12⟩ := row13 T3.out
  obtain ⟨v0, v1, v2, v3, v4, v5, v6, v7, v8, v9, v10, v11, v12⟩ := ice13 T3.out
  go_wp2_with fail
  obtain ⟨X4, hX4⟩ : ∃ X4, X4 = set8 w3 q (.int .i64 y) (.int .i64 m) (.int .i64 d) (.int .i64 h) (.int .i64 i) (.float .f64 r) (.int .i64 wd') (.int .i64 yd') := ⟨_, rfl⟩
  have R3 := Lib.hid (set8_row13 T3.out (.int .i64 y) (.int .i64 m) (.int .i64 d) (.int .i64 h) (.int .i64 i) (.float .f64 r) (.int .i64 wd') (.int .i64 yd'))
  have R1 := Lib.hid ((set8_other (w := w3) (R := q) (k := w.heap.size) (by have := HQ.out; omega) (.int .i64 y) (.int .i64 m) (.int .i64 d) (.int .i64 h) (.int .i64 i) (.float .f64 r) (.int .i64 wd') (.int .i64 yd')).trans T1.out)
  have R2 := Lib.hid ((set8_other (w := w3) (R := q) (k := w.heap.size + 1) (by have := HQ.out; omega) (.int .i64 y) (.int .i64 m) (.int .i64 d) (.int .i64 h) (.int .i64 i) (.float .f64 r) (.int .i64 wd') (.int .i64 yd')).trans T2.out)
  have B5 := Lib.hid (set8_below B4.out (R := q) (by have := HQ.out; omega) (.int .i64 y) (.int .i64 m) (.int .i64 d) (.int .i64 h) (.int .i64 i) (.float .f64 r) (.int .i64 wd') (.int .i64 yd'))
  rw [← hX4] at R1 R2 R3 B5
  unfold set8 at hX4
  rw [← hX4]
  clear hX4 T1 T2 T3 B4 Z4 u0 u1 u2 u3 u4 u5 u6 u7 u8 u9 u10 u11 u12 v0 v1 v2 v3 v4 v5 v6 v7 v8 v9 v10 v11 v12
  obtain ⟨u0, u1, u2, u3, u4, u5, u6, u7, u8, u9, u10, u11, u12⟩ := row13 R3.out
  obtain ⟨p0, p1, p2, p3, p4, p5, p6, p7⟩ := row8 R1.out
  obtain ⟨f0, f1, f2, f3, f4, f5, f6, f7⟩ := ice8 R1.out
  have hqn : (q = w.heap.size) = False := by have := HQ.out; simp; omega
  go_cut [38] from 27 to 37 (fun _ wx => Hid (wx.heap[w.heap.size]? = some (.cells #[.int .i64 y, .int .i64 m, .int .i64 d, .int .i64 h, .int .i64 i, .float .f64 (floorB s), .int .i64 wd', .int .i64 yd'] 24 (0, 0))) ∧ Hid (wx.heap[w.heap.size + 1]? = some (.cells #[.int .i64 0, .int .i64 0, .int .i64 0, .int .i64 0, .int .i64 0, .float .f64 0, .int .i64 0, .int .i64 0, .int .i64 0, .int .i64 0, .int .i64 0, .int .i64 0, .int .i64 0] 57 (0, 0))) ∧ Hid (wx.heap[q]? = some (.cells #[.int .i64 y, .int .i64 m, .int .i64 d, .int .i64 h, .int .i64 i, .float .f64 r, .int .i64 wd', .int .i64 yd', .int .i64 a, .int .i64 0, .int .i64 0, .int .i64 0, .int .i64 0] 57 (0, 0))) ∧ Hid (Below w.heap.size w wx))
  case first =>
    go_region_with ((go_at_call 38; (refine (HFl.out _).mono ?_); rintro e w' ⟨rfl, rfl⟩))
    all_goals
      go_wp2_with fail
      go_meet
      refine ⟨Lib.hid (row_setAt (row_setAt (row_setAt R1.out 5 (.float .f64 (floorB s))) 6 (.int .i64 wd')) 7 (.int .i64 yd')), Lib.hid (three_other X4 (by omega) _ _ _ R2.out), Lib.hid (three_other X4 (by have := HQ.out; omega) _ _ _ R3.out), Lib.hid ?_⟩
      exact ((((B5.out.setCell (p := ⟨w.heap.size, 5, none⟩) (Nat.le_refl _) _).setCell (p := ⟨w.heap.size, 6, none⟩) (Nat.le_refl _) _).setCell (p := ⟨w.heap.size, 7, none⟩) (Nat.le_refl _) _)).drew
  case rest =>
    clear u0 u1 u2 u3 u4 u5 u6 u7 u8 u9 u10 u11 u12 p0 p1 p2 p3 p4 p5 p6 p7 f0 f1 f2 f3 f4 f5 f6 f7 R1 R2 R3 B5
    obtain ⟨R1, R2, R3, B5⟩ := hcut
    obtain ⟨u0, u1, u2, u3, u4, u5, u6, u7, u8, u9, u10, u11, u12⟩ := row13 R3.out
    obtain ⟨p0, p1, p2, p3, p4, p5, p6, p7⟩ := row8 R1.out
    have hfe := eqF_true (floorB s) r HE.out
    go_wp2_with fail
    refine (HDy.out _).mono ?_
    rintro e w5 ⟨rfl, hb⟩
    have T2 := Lib.hid ((hb.block _ (Array.getElem?_eq_some_iff.1 R2.out).1).trans R2.out)
    have T3 := Lib.hid ((hb.block _ (Array.getElem?_eq_some_iff.1 R3.out).1).trans R3.out)
    have B6 := Lib.hid (B5.out.trans (hb.mono B5.out.size))
    clear hb R1 R2 R3 B5 u0 u1 u2 u3 u4 u5 u6 u7 u8 u9 u10 u11 u12 p0 p1 p2 p3 p4 p5 p6 p7 hfe
    go_wp2_with fail
    refine (HWk.out _).mono ?_
    rintro e w6 ⟨rfl, hb⟩
    have R2 := Lib.hid ((hb.block _ (Array.getElem?_eq_some_iff.1 T2.out).1).trans T2.out)
    have R3 := Lib.hid ((hb.block _ (Array.getElem?_eq_some_iff.1 T3.out).1).trans T3.out)
    have B7 := Lib.hid (B6.out.trans (hb.mono B6.out.size))
    clear hb T2 T3 B6
    obtain ⟨u0, u1, u2, u3, u4, u5, u6, u7, u8, u9, u10, u11, u12⟩ := row13 R3.out
    obtain ⟨v0, v1, v2, v3, v4, v5, v6, v7, v8, v9, v10, v11, v12⟩ := ice13 R3.out
    obtain ⟨c0, c1, c2, c3, c4, c5, c6, c7, c8, c9, c10, c11, c12⟩ := row13 R2.out
    obtain ⟨f0, f1, f2, f3, f4, f5, f6, f7, f8, f9, f10, f11, f12⟩ := ice13 R2.out
    go_upto_region 11 with fail
    obtain ⟨X7, hX7⟩ : ∃ X7, X7 = (((w6.setCell ⟨q, 9, none⟩ (.int .i64 (isoI k y))).setCell ⟨q, 10, none⟩ (.int .i64 (weekI k (isoI k y)))).setCell ⟨q, 11, none⟩ (.int .i64 (sunI k y))).setCell ⟨q, 12, none⟩ (.int .i64 (monI k y)) := ⟨_, rfl⟩
    have T3 := Lib.hid (set4_row13 R3.out (.int .i64 (isoI k y)) (.int .i64 (weekI k (isoI k y))) (.int .i64 (sunI k y)) (.int .i64 (monI k y)))
    have T2 := Lib.hid (four_other (R := q) (by have := HQ.out; omega) (.int .i64 (isoI k y)) (.int .i64 (weekI k (isoI k y))) (.int .i64 (sunI k y)) (.int .i64 (monI k y)) R2.out)
    have B8 := Lib.hid ((((B7.out.setCell (p := ⟨q, 9, none⟩) (by have := HQ.out; show w.heap.size ≤ q; omega) (.int .i64 (isoI k y))).setCell (p := ⟨q, 10, none⟩) (by have := HQ.out; show w.heap.size ≤ q; omega) (.int .i64 (weekI k (isoI k y)))).setCell (p := ⟨q, 11, none⟩) (by have := HQ.out; show w.heap.size ≤ q; omega) (.int .i64 (sunI k y))).setCell (p := ⟨q, 12, none⟩) (by have := HQ.out; show w.heap.size ≤ q; omega) (.int .i64 (monI k y)))
    rw [← hX7] at T2 T3 B8 ⊢
    clear hX7 u0 u1 u2 u3 u4 u5 u6 u7 u8 u9 u10 u11 u12 v0 v1 v2 v3 v4 v5 v6 v7 v8 v9 v10 v11 v12 c0 c1 c2 c3 c4 c5 c6 c7 c8 c9 c10 c11 c12 f0 f1 f2 f3 f4 f5 f6 f7 f8 f9 f10 f11 f12 R2 R3 B7
    obtain ⟨u0, u1, u2, u3, u4, u5, u6, u7, u8, u9, u10, u11, u12⟩ := row13 T3.out
    obtain ⟨c0, c1, c2, c3, c4, c5, c6, c7, c8, c9, c10, c11, c12⟩ := row13 T2.out
    obtain ⟨f0, f1, f2, f3, f4, f5, f6, f7, f8, f9, f10, f11, f12⟩ := ice13 T2.out
    go_wp2_with fail
    refine bodyPost_ret_by (results_row_tmp rfl _ _ (w.heap.size + 1) 57 _ (0, 0) _ .nilIface rfl rfl (set13_row T2.out ..) Tryz.underlying57 rfl sizeMom) rfl ?_
    exact ⟨by rw [HM.out], set13_below B8.out (by omega) ..⟩
end Go.Proofs.YtpjncnoejdaplaaGreatDoor
namespace Go.Proofs.YtpjncnoejdaplaaGreatDoor
open Go Go.RowKit Go.Shelf

theorem cell_keep {w : World} {o : Obj} {p : Addr} (h : p.block < w.heap.size) : (w.alloc o).cell? p = w.cell? p := ((Below.refl w.heap.size w).alloc (Nat.le_refl _) o).cell h
theorem one_row13 {w : World} {M : Mom} {t : TypeId} {b : Nat} (h : w.heap[b]? = some (.cells (momV M) t (0, 0))) : w.heap[b]? = some (.cells #[.int .i64 M.y, .int .i64 M.mo, .int .i64 M.d, .int .i64 M.h, .int .i64 M.mi, .float .f64 (fI M.ss), .int .i64 M.wd, .int .i64 M.yd, .int .i64 M.sec, .int .i64 M.iy, .int .i64 M.iw, .int .i64 M.fs, .int .i64 M.fm] t (0, 0)) := h
set_option maxRecDepth 100000 in
set_option maxHeartbeats 4000000 in
theorem Format_of (M : Mom) (hM : MomOK M) (y mo d h mi : Int) (s : Nat) (wd yd : Int) (hm : ∀ w, Calls Tryz.prog 22 #[.agg (timeV y mo d h mi s wd yd)] w fun e w' => e = .returned (.tuple #[.agg (momV M), .nilIface]) ∧ Below w.heap.size w w') (f : ByteArray) (hf : f.size ≤ 1048576) (eb : Addr) (w : World) (hG : GlobW w eb) :
    Calls Tryz.prog 8 #[.agg (timeV y mo d h mi s wd yd), .string f] w fun e w' => e = .returned (.tuple #[.string ⟨(timeT M f).toArray⟩, .int .i64 0]) ∧ Below w.heap.size w w' := by
  have HM := Lib.hid hm
  have HG := Lib.hid hG
  have HK := Lib.hid hM
  have hsf := run_store_float Tryz.prog
  have HA := Lib.hid ((Below.refl w.heap.size w).alloc (Nat.le_refl _) (Obj.cells (timeV y mo d h mi s wd yd) 24))
  clear hm hG hM
  unfold timeV at HM HA ⊢
  go_enter Tryz.func8, Tryz.ntmps8
  go_wp2_with fail
  refine (HM.out _).mono ?_
  rintro e w1 ⟨rfl, hb⟩
  have B1 := Lib.hid (HA.out.trans (hb.mono (by simp)))
  have G1 := Lib.hid (HG.out.below B1.out)
  clear hb
  have hg := fun o => (cell_keep (w := w1) (o := o) (p := ⟨0, 0, none⟩) (by have := G1.out.size; show 0 < _; omega)).trans G1.out.err
  unfold momV
  go_wp2_with fail
  refine (is_nil eb _).mono ?_
  rintro e w2 ⟨rfl, rfl⟩
  have r1 := one_row13 (heap_alloc_new w1 (.cells (momV M) 57))
  have b1 := B1.out.alloc B1.out.size (.cells (momV M) 57)
  have g1 := G1.out.below ((Below.refl w1.heap.size w1).alloc (Nat.le_refl _) (.cells (momV M) 57))
  unfold momV at r1 b1 g1
  go_upto_region 4 with fail
  obtain ⟨q, hq⟩ : ∃ q, w1.heap.size = q := ⟨_, rfl⟩
  rw [hq] at r1 ⊢
  generalize w1.alloc (.cells #[.int .i64 M.y, .int .i64 M.mo, .int .i64 M.d, .int .i64 M.h, .int .i64 M.mi, .float .f64 (fI M.ss), .int .i64 M.wd, .int .i64 M.yd, .int .i64 M.sec, .int .i64 M.iy, .int .i64 M.iw, .int .i64 M.fs, .int .i64 M.fm] 57) = X at r1 b1 g1 ⊢
  have R := Lib.hid r1
  have B := Lib.hid b1
  have G := Lib.hid g1
  clear r1 b1 g1 hq hg B1 G1 HA
  obtain ⟨u0, u1, u2, u3, u4, u5, u6, u7, u8, u9, u10, u11, u12⟩ := row13 R.out
  go_region_law ((first
    | (go_simp; go_at_call 24; refine (moment_any M HK.out f hf _ 53 eb _ (by first | exact h8.out | exact GlobW.below h8.out (Below.drew (Below.refl _ _))) (by exact h7.out)).mono ?_; rintro e w4 ⟨rfl, hb4⟩; have h9 := Lib.hid hb4; clear hb4)
    | (go_simp; go_at_call 25; refine (writers_any _).mono ?_; rintro e w3 ⟨⟨mb, rfl, hs⟩, hb0⟩; have hb : Below X.heap.size X w3 := ((Below.refl X.heap.size X).drew).trans hb0; have h7 := Lib.hid hs; have h8 := Lib.hid (G.out.below hb); obtain ⟨c0, c1, c2, c3, c4, c5, c6, c7, c8, c9, c10, c11, c12⟩ := row13 ((hb.block q (Array.getElem?_eq_some_iff.1 R.out).1).trans R.out); have h6 := Lib.hid hb; clear hs hb hb0)))
  all_goals (try go_wp2_with fail)
  all_goals exact bodyPost_ret (v := .tuple #[.string ⟨(timeT M f).toArray⟩, .int .i64 0]) (by simp [results, Tryz.results8, go_sem]) rfl ⟨rfl, B.out.trans ((h6.out.trans (h9.out.mono h6.out.size)).mono B.out.size)⟩
end Go.Proofs.YtpjncnoejdaplaaGreatDoor
namespace Go.Proofs.YtpjncnoejdaplaaGreatDoor
open Go Go.RowKit Go.Shelf

theorem head_p1 : parseS [50, 48, 49, 53, 45, 48, 51, 45, 48, 53, 84, 50, 51, 58, 53, 49, 58, 52, 55, 90] [37, 89, 45, 37, 109, 45, 37, 100, 84, 37, 72, 58, 37, 77, 58, 37, 83, 90] = some 1425599507 := by decide +kernel
theorem head_p2 : parseS [50, 48, 49, 53, 32, 51, 49] [37, 89, 32, 37, 106] = some 1422662400 := by decide +kernel
theorem head_p3 : parseS [50, 48, 49, 53, 45, 48, 50, 45, 51, 48] [37, 70] = none := by decide +kernel
theorem head_t1 : timeT (mkMom 2015 2 5 1425599507) ⟨#[37, 65, 44, 32, 37, 66, 32, 37, 100, 44, 32, 37, 89]⟩ = [84, 104, 117, 114, 115, 100, 97, 121, 44, 32, 77, 97, 114, 99, 104, 32, 48, 53, 44, 32, 50, 48, 49, 53] := by decide +kernel
theorem head_t2 : timeT (mkMom 2015 2 5 1425599507) ⟨#[37, 101, 124, 37, 106, 124, 37, 85, 124, 37, 86, 124, 37, 73, 37, 112, 124, 37, 37, 124, 37, 113, 124, 37]⟩ = [32, 53, 124, 48, 54, 52, 124, 48, 57, 124, 49, 48, 124, 49, 49, 80, 77, 124, 37, 124, 37, 113, 124, 37] := by decide +kernel
end Go.Proofs.YtpjncnoejdaplaaGreatDoor
namespace Go.Proofs.YtpjncnoejdaplaaGreatDoor
open Go Go.RowKit

theorem lnum_any (n : Int) (w : World) : Calls Tryz.prog 10 #[.int .i64 n] w fun e w' => e = .returned (.int .i64 n) ∧ w = w' := by
  go_enter Tryz.func10, Tryz.ntmps10
  go_wp2_with fail
  go_ret
  exact ⟨rfl, rfl⟩
end Go.Proofs.YtpjncnoejdaplaaGreatDoor
namespace Go.Proofs.YtpjncnoejdaplaaGreatDoor
open Go Go.RowKit Go.Shelf

theorem join_tm (y m d a wd yd : Int) (hD : OkD y m d) (hN : numI y m d = a / 86400) (w : World) :
    Calls Tryz.prog 53 #[.agg (timeV y m d (a % 86400 / 3600) (a % 86400 / 60 % 60) (fI (a % 86400 % 60)) wd yd)] w fun e w' => e = .returned (.tuple #[.int .i64 a, .int .i64 0]) ∧ Below w.heap.size w w' := by
  have hfl := flI_fI (a % 86400 % 60) (by omega) (by omega)
  have e := join_in y m d (a % 86400 / 3600) (a % 86400 / 60 % 60) (fI (a % 86400 % 60)) wd yd hD (by omega) (by omega) (fitS_fI _ (by omega) (by omega)) (by rw [hfl]; omega) w
  rw [hfl, hN, show a / 86400 * 86400 + a % 86400 / 3600 * 3600 + a % 86400 / 60 % 60 * 60 + a % 86400 % 60 = a from by omega] at e
  exact e
theorem Format_at (y m d a wd yd : Int) (hD : OkD y m d) (hN : numI y m d = a / 86400) (f : ByteArray) (hf : f.size ≤ 1048576) (eb : Addr) (w : World) (hG : GlobW w eb) :
    Calls Tryz.prog 8 #[.agg (timeV y m d (a % 86400 / 3600) (a % 86400 / 60 % 60) (fI (a % 86400 % 60)) wd yd), .string f] w fun e w' => e = .returned (.tuple #[.string ⟨(timeT (mkMom y m d a) f).toArray⟩, .int .i64 0]) ∧ Below w.heap.size w w' := by
  have hz := (fI_is (a % 86400 % 60) (by omega) (by omega)).1
  have hfl := flI_fI (a % 86400 % 60) (by omega) (by omega)
  refine Format_of (mkMom y m d a) (mkMom_ok y m d a hD hN.symm) _ _ _ _ _ _ _ _ (fun w => momentOf_ok y m d a hD hN.symm _ wd yd hz ?_ (join_tm y m d a wd yd hD hN) w) f hf eb w hG
  rw [floor_cmp _ _ hz (by omega) (by omega), hfl, Int.compare_eq_eq.2 rfl]
set_option maxRecDepth 100000 in
theorem text_of (y m d h i : Int) (s : Nat) (wd yd : Int) (f : ByteArray) (t : List UInt8) (eb : Addr) (hF : ∀ w, GlobW w eb → Calls Tryz.prog 8 #[.agg (timeV y m d h i s wd yd), .string f] w fun e w' => e = .returned (.tuple #[.string ⟨t.toArray⟩, .int .i64 0]) ∧ Below w.heap.size w w') (w : World) (hG : GlobW w eb) :
    Calls Tryz.prog 21 #[.agg (timeV y m d h i s wd yd), .string f] w fun e w' => e = .returned (.string ⟨t.toArray⟩) ∧ Below w.heap.size w w' := by
  have hsf := run_store_float Tryz.prog
  have HF := Lib.hid hF
  have HA := Lib.hid ((Below.refl w.heap.size w).alloc (Nat.le_refl _) (Obj.cells (timeV y m d h i s wd yd) 24))
  have HG := Lib.hid (hG.below HA.out)
  clear hF hG
  unfold timeV at HF HA HG ⊢
  go_enter Tryz.func21, Tryz.ntmps21
  go_wp2_with fail
  refine (HF.out _ HG.out).mono ?_
  rintro e w1 ⟨rfl, hb⟩
  have HB := Lib.hid (HA.out.trans (hb.mono HA.out.size))
  clear hb HA HG HF
  go_wp2_with fail
  refine (lnum_any _ _).mono ?_
  rintro e w2 ⟨rfl, rfl⟩
  go_wp2_with fail
  go_ret
  exact ⟨rfl, HB.out⟩
/-- The laws' text of a time. -/
theorem text_at (y m d a wd yd : Int) (hD : OkD y m d) (hN : numI y m d = a / 86400) (f : ByteArray) (hf : f.size ≤ 1048576) (eb : Addr) (w : World) (hG : GlobW w eb) :
    Calls Tryz.prog 21 #[.agg (timeV y m d (a % 86400 / 3600) (a % 86400 / 60 % 60) (fI (a % 86400 % 60)) wd yd), .string f] w fun e w' => e = .returned (.string ⟨(timeT (mkMom y m d a) f).toArray⟩) ∧ Below w.heap.size w w' :=
  text_of _ _ _ _ _ _ _ _ f _ eb (fun w hG => Format_at y m d a wd yd hD hN f hf eb w hG) w hG
end Go.Proofs.YtpjncnoejdaplaaGreatDoor
namespace Go.Proofs.YtpjncnoejdaplaaGreatDoor
open Go Go.RowKit Go.Shelf

def numV (f : Nat) : Array Value := #[.int .i64 3, .float .f64 f, .string ⟨#[]⟩, .slice none 0 0, .slice none 0 0]
def nilV : Array Value := #[.int .i64 0, .float .f64 0, .string ⟨#[]⟩, .slice none 0 0, .slice none 0 0]
def noErr : Array Value := #[.bool false, .int .i64 0, .float .f64 0, .string ⟨#[]⟩, .slice none 0 0, .slice none 0 0]
def errT (s : ByteArray) : Array Value := #[.bool true, .int .i64 4, .float .f64 0, .string s, .slice none 0 0, .slice none 0 0]
theorem sizeV : (Tryz.prog.info? 46).map (·.size) = some 5 := by kernel_rfl
theorem sizeE : (Tryz.prog.info? 48).map (·.size) = some 6 := by kernel_rfl
set_option maxRecDepth 100000 in
theorem Number_any (n : Int) (w : World) : Calls Tryz.prog 49 #[.int .i64 n] w fun e w' => e = .returned (.agg (numV (fI n))) ∧ Below w.heap.size w w' := by
  have hsf := run_store_float Tryz.prog
  have hci := conv_int
  have hb := (Below.refl w.heap.size w).alloc (Nat.le_refl _) (.cells (numV (fI n)) 46)
  have hr := heap_alloc_new w (.cells (numV (fI n)) 46)
  have HB := Lib.hid hb
  have HR := Lib.hid hr
  clear hb hr
  unfold numV at HB HR ⊢
  go_enter Tryz.func49, Tryz.ntmps49
  go_wp2_with fail
  refine bodyPost_ret_by (results_cell_row rfl _ _ w.heap.size 46 _ (0, 0) _ rfl HR.out Tryz.underlying46 rfl sizeV) rfl ?_
  exact ⟨rfl, HB.out⟩
set_option maxRecDepth 100000 in
theorem Failure_any (s : ByteArray) (w : World) : Calls Tryz.prog 98 #[.string s] w fun e w' => e = .returned (.agg (errT s)) ∧ Below w.heap.size w w' := by
  have hsf := run_store_float Tryz.prog
  have hb := (Below.refl w.heap.size w).alloc (Nat.le_refl _) (.cells (errT s) 48)
  have hr := heap_alloc_new w (.cells (errT s) 48)
  have HB := Lib.hid hb
  have HR := Lib.hid hr
  clear hb hr
  unfold errT at HB HR ⊢
  go_enter Tryz.func98, Tryz.ntmps98
  go_wp2_with fail
  refine bodyPost_ret_by (results_cell_row rfl _ _ w.heap.size 48 _ (0, 0) _ rfl HR.out Tryz.underlying48 rfl sizeE) rfl ?_
  exact ⟨rfl, HB.out⟩
end Go.Proofs.YtpjncnoejdaplaaGreatDoor

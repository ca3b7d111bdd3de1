/- Times as text: what a moment is, and what each directive writes of it, in plain words. -/
import Derived.Test.YtpjncnoejdaplaaGreatDoorLAA
import Derived.Test.YtpjncnoejdaplaaGreatDoorProg
import Derived.Lib.ItoaNum
import Derived.Lib.Strings
import Derived.Lib.Repeat
import Derived.WalkKit
import Derived.ProofKit
import Derived.OpenShut
import Derived.WalkLawsBesides
import Derived.Lib.Hide
import Derived.Lib.ConvBytes
import Derived.Lib.SlBytesRow
import Derived.Maps.OwnSet
import Derived.Below
namespace Go.Proofs.YtpjncnoejdaplaaGreatDoor
open Go

/-- A moment: a time, and what is known of it besides. -/
structure Mom where
  y : Int
  mo : Int
  d : Int
  h : Int
  mi : Int
  ss : Int
  wd : Int
  yd : Int
  sec : Int
  iy : Int
  iw : Int
  fs : Int
  fm : Int
/-- A moment in its ranges. -/
def MomOK (m : Mom) : Prop := (-9999 ≤ m.y ∧ m.y ≤ 9999) ∧ (0 ≤ m.mo ∧ m.mo ≤ 11) ∧ (1 ≤ m.d ∧ m.d ≤ 31) ∧ (0 ≤ m.h ∧ m.h ≤ 23) ∧ (0 ≤ m.mi ∧ m.mi ≤ 59) ∧ (0 ≤ m.ss ∧ m.ss ≤ 59) ∧ (0 ≤ m.wd ∧ m.wd ≤ 6) ∧ (0 ≤ m.yd ∧ m.yd ≤ 365) ∧
  (-1000000000000 ≤ m.sec ∧ m.sec ≤ 1000000000000) ∧ (-10000 ≤ m.iy ∧ m.iy ≤ 10000) ∧ (0 ≤ m.iw ∧ m.iw ≤ 53) ∧ (0 ≤ m.fs ∧ m.fs ≤ 53) ∧ (0 ≤ m.fm ∧ m.fm ≤ 53)
def momV (m : Mom) : Array Value := #[.int .i64 m.y, .int .i64 m.mo, .int .i64 m.d, .int .i64 m.h, .int .i64 m.mi, .float .f64 (fI m.ss), .int .i64 m.wd, .int .i64 m.yd, .int .i64 m.sec, .int .i64 m.iy, .int .i64 m.iw, .int .i64 m.fs, .int .i64 m.fm]
/-- The numbers that are written. -/
inductive NF where
  | day | hour | twelfth | year | hun | yin | month | minute | second | yday | wdayU | wday | sunday | monday | week | iso | isoIn | all
  deriving DecidableEq
def NF.val (m : Mom) : NF → Int
  | .day => m.d
  | .hour => m.h
  | .twelfth => (m.h + 11) % 12 + 1
  | .year => m.y
  | .hun => m.y / 100
  | .yin => m.y - 100 * (m.y / 100)
  | .month => m.mo + 1
  | .minute => m.mi
  | .second => m.ss
  | .yday => m.yd + 1
  | .wdayU => (m.wd + 6) % 7 + 1
  | .wday => m.wd
  | .sunday => m.fs
  | .monday => m.fm
  | .week => m.iw
  | .iso => m.iy
  | .isoIn => m.iy - 100 * (m.iy / 100)
  | .all => m.sec
theorem NF.bound (m : Mom) (h : MomOK m) (k : NF) : -1000000000000 ≤ k.val m ∧ k.val m ≤ 1000000000000 := by
  unfold MomOK at h
  cases k <;> simp only [NF.val] <;> omega
/-- The names. -/
def dayNames : List ByteArray := [⟨#[83, 117, 110, 100, 97, 121]⟩, ⟨#[77, 111, 110, 100, 97, 121]⟩, ⟨#[84, 117, 101, 115, 100, 97, 121]⟩, ⟨#[87, 101, 100, 110, 101, 115, 100, 97, 121]⟩, ⟨#[84, 104, 117, 114, 115, 100, 97, 121]⟩, ⟨#[70, 114, 105, 100, 97, 121]⟩, ⟨#[83, 97, 116, 117, 114, 100, 97, 121]⟩]
def monthNames : List ByteArray := [⟨#[74, 97, 110, 117, 97, 114, 121]⟩, ⟨#[70, 101, 98, 114, 117, 97, 114, 121]⟩, ⟨#[77, 97, 114, 99, 104]⟩, ⟨#[65, 112, 114, 105, 108]⟩, ⟨#[77, 97, 121]⟩, ⟨#[74, 117, 110, 101]⟩, ⟨#[74, 117, 108, 121]⟩, ⟨#[65, 117, 103, 117, 115, 116]⟩, ⟨#[83, 101, 112, 116, 101, 109, 98, 101, 114]⟩, ⟨#[79, 99, 116, 111, 98, 101, 114]⟩, ⟨#[78, 111, 118, 101, 109, 98, 101, 114]⟩, ⟨#[68, 101, 99, 101, 109, 98, 101, 114]⟩]
def nameAt (l : List ByteArray) (i : Int) : List UInt8 := (l.getD i.toNat ⟨#[]⟩).data.toList
/-- A number, with what fills it up ahead of it. -/
def padT (digits : Nat) (fill : ByteArray) (n : Int) : List UInt8 :=
  (if n < 0 then [45] else []) ++ (Lib.repeatL fill.data.toList (digits - (Lib.decDigits n.natAbs).length) ++ Lib.decDigits n.natAbs)
/-- What stands for a directive, but for a form. -/
inductive WP where
  | dayS | dayL | monS | monL | halfU | halfL
  | text (t : ByteArray)
  | pad (digits : Nat) (fill : ByteArray) (n : NF)
def WP.txt (m : Mom) : WP → List UInt8
  | .dayS => (nameAt dayNames m.wd).take 3
  | .dayL => nameAt dayNames m.wd
  | .monS => (nameAt monthNames m.mo).take 3
  | .monL => nameAt monthNames m.mo
  | .halfU => if m.h < 12 then [65, 77] else [80, 77]
  | .halfL => if m.h < 12 then [97, 109] else [112, 109]
  | .text t => t.data.toList
  | .pad d f n => padT d f (n.val m)
def z0 : ByteArray := ⟨#[48]⟩
def bl : ByteArray := ⟨#[32]⟩
/-- The directives that are no forms. -/
def plainW (c : Nat) : Option WP :=
  if c = 97 then some .dayS else if c = 65 then some .dayL else if c = 98 then some .monS else if c = 104 then some .monS else if c = 66 then some .monL
  else if c = 112 then some .halfU else if c = 80 then some .halfL else if c = 110 then some (.text ⟨#[10]⟩) else if c = 116 then some (.text ⟨#[9]⟩) else if c = 37 then some (.text ⟨#[37]⟩)
  else if c = 122 then some (.text ⟨#[43, 48, 48, 48, 48]⟩) else if c = 90 then some (.text ⟨#[85, 84, 67]⟩)
  else if c = 89 then some (.pad 1 z0 .year) else if c = 67 then some (.pad 2 z0 .hun) else if c = 121 then some (.pad 2 z0 .yin) else if c = 109 then some (.pad 2 z0 .month)
  else if c = 100 then some (.pad 2 z0 .day) else if c = 101 then some (.pad 2 bl .day) else if c = 72 then some (.pad 2 z0 .hour) else if c = 107 then some (.pad 2 bl .hour)
  else if c = 73 then some (.pad 2 z0 .twelfth) else if c = 108 then some (.pad 2 bl .twelfth) else if c = 77 then some (.pad 2 z0 .minute) else if c = 83 then some (.pad 2 z0 .second)
  else if c = 106 then some (.pad 3 z0 .yday) else if c = 117 then some (.pad 1 z0 .wdayU) else if c = 119 then some (.pad 1 z0 .wday) else if c = 85 then some (.pad 2 z0 .sunday)
  else if c = 87 then some (.pad 2 z0 .monday) else if c = 86 then some (.pad 2 z0 .week) else if c = 71 then some (.pad 1 z0 .iso) else if c = 103 then some (.pad 2 z0 .isoIn)
  else if c = 115 then some (.pad 1 z0 .all) else none
/-- The forms. -/
def formOf (c : Nat) : Option ByteArray :=
  if c = 68 ∨ c = 120 then some ⟨#[37, 109, 47, 37, 100, 47, 37, 121]⟩
  else if c = 70 then some ⟨#[37, 89, 45, 37, 109, 45, 37, 100]⟩
  else if c = 82 then some ⟨#[37, 72, 58, 37, 77]⟩
  else if c = 84 ∨ c = 88 then some ⟨#[37, 72, 58, 37, 77, 58, 37, 83]⟩
  else if c = 114 then some ⟨#[37, 73, 58, 37, 77, 58, 37, 83, 32, 37, 112]⟩
  else if c = 99 then some ⟨#[37, 97, 32, 37, 98, 32, 37, 101, 32, 37, 72, 58, 37, 77, 58, 37, 83, 32, 37, 89]⟩
  else none
/-- A format, where each directive's text is known. -/
def fmtT (sem : Nat → Option (List UInt8)) : List UInt8 → List UInt8
  | [] => []
  | [c] => [c]
  | c :: d :: r => if c = 37 then match sem d.toNat with
      | some t => t ++ fmtT sem r
      | none => c :: fmtT sem (d :: r)
    else c :: fmtT sem (d :: r)
/-- The texts of the directives that are no forms; of all. -/
def semP (m : Mom) (c : Nat) : Option (List UInt8) := (plainW c).map (WP.txt m)
def semA (m : Mom) (c : Nat) : Option (List UInt8) :=
  match formOf c with
  | some f => some (fmtT (semP m) f.data.toList)
  | none => semP m c
/-- A time by a format. -/
def timeT (m : Mom) (f : ByteArray) : List UInt8 := fmtT (semA m) f.data.toList
/-- What a map of writers holds. -/
inductive WS where
  | plain (p : WP)
  | form (f : ByteArray)
def specW (c : Nat) : Option WS :=
  match formOf c with
  | some f => some (.form f)
  | none => (plainW c).map .plain
end Go.Proofs.YtpjncnoejdaplaaGreatDoor
namespace Go.Proofs.YtpjncnoejdaplaaGreatDoor
open Go Go.RowKit

/-- A store of a number: a law that the library lacks. -/
theorem run_store_float (P : Program) (a : Addr) (x : Nat) (W : World) (m : Mode) : (store a (.float .f64 x) m).run P W = stored P W a (.float .f64 x) m := run_store P W a _ m rfl
theorem row8 {w : World} {b : Nat} {u0 u1 u2 u3 u4 u5 u6 u7 : Value} {t : TypeId} (hb : w.heap[b]? = some (.cells #[u0, u1, u2, u3, u4, u5, u6, u7] t (0, 0))) :
    w.cell? ⟨b, 0, none⟩ = some u0 ∧ w.cell? ⟨b, 1, none⟩ = some u1 ∧ w.cell? ⟨b, 2, none⟩ = some u2 ∧ w.cell? ⟨b, 3, none⟩ = some u3 ∧ w.cell? ⟨b, 4, none⟩ = some u4 ∧ w.cell? ⟨b, 5, none⟩ = some u5 ∧ w.cell? ⟨b, 6, none⟩ = some u6 ∧ w.cell? ⟨b, 7, none⟩ = some u7 := by
  simp [World.cell?, hb]
theorem ice8 {w : World} {b : Nat} {u0 u1 u2 u3 u4 u5 u6 u7 : Value} {t : TypeId} (hb : w.heap[b]? = some (.cells #[u0, u1, u2, u3, u4, u5, u6, u7] t (0, 0))) :
    w.frozen? ⟨b, 0, none⟩ = false ∧ w.frozen? ⟨b, 1, none⟩ = false ∧ w.frozen? ⟨b, 2, none⟩ = false ∧ w.frozen? ⟨b, 3, none⟩ = false ∧ w.frozen? ⟨b, 4, none⟩ = false ∧ w.frozen? ⟨b, 5, none⟩ = false ∧ w.frozen? ⟨b, 6, none⟩ = false ∧ w.frozen? ⟨b, 7, none⟩ = false := by
  simp [World.frozen?, hb]
theorem row_setAt {w : World} {R : Nat} {cs : Array Value} {t : TypeId} {fr : Nat × Nat} (h : w.heap[R]? = some (.cells cs t fr)) (i : Nat) (x : Value) : (w.setCell ⟨R, i, none⟩ x).heap[R]? = some (.cells (cs.setIfInBounds i x) t fr) := by
  simp [World.setCell, Array.getElem?_modify, h]
theorem setCell_other_block {w : World} {R i k : Nat} (x : Value) (h : k ≠ R) : (w.setCell ⟨R, i, none⟩ x).heap[k]? = w.heap[k]? := by
  simp [World.setCell, Array.getElem?_modify]
  intro e; omega
theorem row_alloc3 {w : World} {R : Nat} {x : Obj} (h : w.heap[R]? = some x) (o : Obj) : (w.alloc o).heap[R]? = some x := by
  have := (Array.getElem?_eq_some_iff.1 h).1
  show (w.heap.push o)[R]? = _
  rw [Array.getElem?_push, if_neg (by omega)]
  exact h
def set8 (w : World) (R : Nat) (x0 x1 x2 x3 x4 x5 x6 x7 : Value) : World :=
  (((((((w.setCell ⟨R, 0, none⟩ x0).setCell ⟨R, 1, none⟩ x1).setCell ⟨R, 2, none⟩ x2).setCell ⟨R, 3, none⟩ x3).setCell ⟨R, 4, none⟩ x4).setCell ⟨R, 5, none⟩ x5).setCell ⟨R, 6, none⟩ x6).setCell ⟨R, 7, none⟩ x7
theorem set8_row {w : World} {R : Nat} {u0 u1 u2 u3 u4 u5 u6 u7 : Value} {t : TypeId} (h : w.heap[R]? = some (.cells #[u0, u1, u2, u3, u4, u5, u6, u7] t (0, 0))) (x0 x1 x2 x3 x4 x5 x6 x7 : Value) : (set8 w R x0 x1 x2 x3 x4 x5 x6 x7).heap[R]? = some (.cells #[x0, x1, x2, x3, x4, x5, x6, x7] t (0, 0)) := by
  have h0 : (w.setCell ⟨R, 0, none⟩ x0).heap[R]? = some (.cells #[x0, u1, u2, u3, u4, u5, u6, u7] t (0, 0)) := row_setAt h 0 x0
  have h1 : ((w.setCell ⟨R, 0, none⟩ x0).setCell ⟨R, 1, none⟩ x1).heap[R]? = some (.cells #[x0, x1, u2, u3, u4, u5, u6, u7] t (0, 0)) := row_setAt h0 1 x1
  have h2 : (((w.setCell ⟨R, 0, none⟩ x0).setCell ⟨R, 1, none⟩ x1).setCell ⟨R, 2, none⟩ x2).heap[R]? = some (.cells #[x0, x1, x2, u3, u4, u5, u6, u7] t (0, 0)) := row_setAt h1 2 x2
  have h3 : ((((w.setCell ⟨R, 0, none⟩ x0).setCell ⟨R, 1, none⟩ x1).setCell ⟨R, 2, none⟩ x2).setCell ⟨R, 3, none⟩ x3).heap[R]? = some (.cells #[x0, x1, x2, x3, u4, u5, u6, u7] t (0, 0)) := row_setAt h2 3 x3
  have h4 : (((((w.setCell ⟨R, 0, none⟩ x0).setCell ⟨R, 1, none⟩ x1).setCell ⟨R, 2, none⟩ x2).setCell ⟨R, 3, none⟩ x3).setCell ⟨R, 4, none⟩ x4).heap[R]? = some (.cells #[x0, x1, x2, x3, x4, u5, u6, u7] t (0, 0)) := row_setAt h3 4 x4
  have h5 : ((((((w.setCell ⟨R, 0, none⟩ x0).setCell ⟨R, 1, none⟩ x1).setCell ⟨R, 2, none⟩ x2).setCell ⟨R, 3, none⟩ x3).setCell ⟨R, 4, none⟩ x4).setCell ⟨R, 5, none⟩ x5).heap[R]? = some (.cells #[x0, x1, x2, x3, x4, x5, u6, u7] t (0, 0)) := row_setAt h4 5 x5
  have h6 : (((((((w.setCell ⟨R, 0, none⟩ x0).setCell ⟨R, 1, none⟩ x1).setCell ⟨R, 2, none⟩ x2).setCell ⟨R, 3, none⟩ x3).setCell ⟨R, 4, none⟩ x4).setCell ⟨R, 5, none⟩ x5).setCell ⟨R, 6, none⟩ x6).heap[R]? = some (.cells #[x0, x1, x2, x3, x4, x5, x6, u7] t (0, 0)) := row_setAt h5 6 x6
  have h7 : ((((((((w.setCell ⟨R, 0, none⟩ x0).setCell ⟨R, 1, none⟩ x1).setCell ⟨R, 2, none⟩ x2).setCell ⟨R, 3, none⟩ x3).setCell ⟨R, 4, none⟩ x4).setCell ⟨R, 5, none⟩ x5).setCell ⟨R, 6, none⟩ x6).setCell ⟨R, 7, none⟩ x7).heap[R]? = some (.cells #[x0, x1, x2, x3, x4, x5, x6, x7] t (0, 0)) := row_setAt h6 7 x7
  exact h7
theorem set8_other {w : World} {R k : Nat} (h : k ≠ R) (x0 x1 x2 x3 x4 x5 x6 x7 : Value) : (set8 w R x0 x1 x2 x3 x4 x5 x6 x7).heap[k]? = w.heap[k]? := by
  unfold set8
  rw [setCell_other_block _ h, setCell_other_block _ h, setCell_other_block _ h, setCell_other_block _ h, setCell_other_block _ h, setCell_other_block _ h, setCell_other_block _ h, setCell_other_block _ h]
theorem set8_size (w : World) (R : Nat) (x0 x1 x2 x3 x4 x5 x6 x7 : Value) : (set8 w R x0 x1 x2 x3 x4 x5 x6 x7).heap.size = w.heap.size := by
  simp only [set8, World.setCell, Array.size_modify]
theorem set8_below {B R : Nat} {w w' : World} (h : Below B w w') (q : B ≤ R) (x0 x1 x2 x3 x4 x5 x6 x7 : Value) : Below B w (set8 w' R x0 x1 x2 x3 x4 x5 x6 x7) := by
  unfold set8
  exact (((((((h.setCell (p := ⟨R, 0, none⟩) q x0).setCell (p := ⟨R, 1, none⟩) q x1).setCell (p := ⟨R, 2, none⟩) q x2).setCell (p := ⟨R, 3, none⟩) q x3).setCell (p := ⟨R, 4, none⟩) q x4).setCell (p := ⟨R, 5, none⟩) q x5).setCell (p := ⟨R, 6, none⟩) q x6).setCell (p := ⟨R, 7, none⟩) q x7
theorem results_row_tmp {P : Program} {fn : Func} {p q : Tmp} {ty : TypeId} (h : fn.results = #[.cell p ty, .tmp q]) (tmps : Array Value) (w : World) (g1 : Nat) (t1 : TypeId) (cs1 : Array Value) (fr1 : Nat × Nat) (d1 : TypeDesc) (x : Value)
    (hp : tmps.getD p undef = .pointer (some ⟨g1, 0, none⟩)) (hq : tmps.getD q undef = x) (hg1 : w.heap[g1]? = some (.cells cs1 t1 fr1))
    (hu1 : P.underlying ty = some d1) (hd1 : (match d1 with | .struct _ | .array _ _ => true | _ => false) = true) (hi1 : (P.info? ty).map (·.size) = some cs1.size) :
    (results fn tmps).run P w = .ok (.tuple #[.agg cs1, x]) w := by
  have hp' : tmps[p]?.getD undef = .pointer (some ⟨g1, 0, none⟩) := by simpa using hp
  have hq' : tmps[q]?.getD undef = x := by simpa using hq
  simp [results, h, hp', hq', asAddr, run_loadVar_row w g1 t1 ty cs1 fr1 d1 hg1 hu1 hd1 hi1]
theorem sizeTime : (Tryz.prog.info? 24).map (·.size) = some 8 := by kernel_rfl
/-- Two doubles that are compared within a struct: a law that the library lacks. -/
theorem eqF (d x y : Nat) (w : World) : (Op.equalIn (d + 1) 22 (.float .f64 x) (.float .f64 y)).run Tryz.prog w = .ok (Op.floatEq .f64 x y) w := by
  have h2 : Tryz.prog.underlying 22 = some (.float .f64) := by kernel_rfl
  unfold Op.equalIn
  simp [run_underlying h2]
theorem eqF_true (x y : Nat) (h : Ieee.double.order x y = some .eq) (w : World) : (Op.equalIn 9999 22 (.float .f64 x) (.float .f64 y)).run Tryz.prog w = .ok true w := by
  have e := eqF 9998 x y w
  have h' : Op.floatEq .f64 x y = true := by
    have h2 : FloatKind.f64.format.order x y = some .eq := h
    unfold Op.floatEq
    rw [h2]
    rfl
  rw [h'] at e
  exact e
def timeV (y m d h i : Int) (s : Nat) (wd yd : Int) : Array Value := #[.int .i64 y, .int .i64 m, .int .i64 d, .int .i64 h, .int .i64 i, .float .f64 s, .int .i64 wd, .int .i64 yd]
theorem below_drewN {B : Nat} {w w' : World} (h : Below B w w') (n : Nat) : Below B w (w'.drewN n) := by
  induction n with
  | zero => exact h
  | succ n ih => exact ih.drew
theorem drewN_heap (w : World) (n : Nat) : (w.drewN n).heap = w.heap := by
  induction n with
  | zero => rfl
  | succ n ih => exact ih
theorem drewN_row {w : World} {g : Nat} {o : Obj} (h : w.heap[g]? = some o) (n : Nat) : (w.drewN n).heap[g]? = some o := by
  rw [drewN_heap]
  exact h
end Go.Proofs.YtpjncnoejdaplaaGreatDoor
namespace Go.Proofs.YtpjncnoejdaplaaGreatDoor
open Go Go.RowKit Go.WideShapes


/-- Block b is a conversion's row whose first cells are these bytes. -/
def BRow (w : World) (e : TypeId) (b : Nat) (l : List UInt8) : Prop :=
  ∃ cur, w.heap[b]? = some (.cells cur e (cur.size, cur.size + 1)) ∧ l.length ≤ cur.size ∧ ∀ j (h : j < l.length), cur[j]? = some (.int .u8 (l[j].toNat : Int))

theorem BRow.made (w : World) (e : TypeId) (s : ByteArray) : BRow (Lib.bytesWorld w e s) e w.heap.size s.data.toList := by
  refine ⟨_, Lib.bytesWorld_at_new w e s, ?_, fun j h => ?_⟩
  · unfold Lib.bytesCells; simp
  · unfold Lib.bytesCells
    have h' : j < s.data.size := by simpa using h
    rw [Array.getElem?_append_left (by simpa using h')]
    simp only [Array.getElem?_map, Array.getElem?_eq_getElem h', Option.map_some, Array.getElem_toList]
theorem BRow.cell {w : World} {e : TypeId} {b : Nat} {l : List UInt8} (h : BRow w e b l) (j : Nat) (hj : j < l.length) : w.cell? ⟨b, j, none⟩ = some (.int .u8 (l[j].toNat : Int)) := by
  obtain ⟨cur, hb, _, hc⟩ := h
  rw [Lib.cell_of_heap hb]
  exact hc j hj
theorem BRow.frozen {w : World} {e : TypeId} {b : Nat} {l : List UInt8} (h : BRow w e b l) (j : Nat) (hj : j < l.length) : w.frozen? ⟨b, j, none⟩ = false := by
  obtain ⟨cur, hb, hl, _⟩ := h
  simp [World.frozen?, hb]
  omega
theorem BRow.lt {w : World} {e : TypeId} {b : Nat} {l : List UInt8} (h : BRow w e b l) : b < w.heap.size := by
  obtain ⟨cur, hb, _⟩ := h
  rcases Nat.lt_or_ge b w.heap.size with h' | h'
  · exact h'
  · rw [Array.getElem?_eq_none h'] at hb; cases hb
theorem BRow.stored {w : World} {e : TypeId} {b : Nat} {l : List UInt8} (h : BRow w e b l) (j : Nat) (hj : j < l.length) (c : UInt8) : BRow (w.setCell ⟨b, j, none⟩ (.int .u8 (c.toNat : Int))) e b (l.set j c) := by
  obtain ⟨cur, hb, hl, hc⟩ := h
  refine ⟨cur.setIfInBounds j (.int .u8 (c.toNat : Int)), ?_, by simpa using hl, fun i hi => ?_⟩
  · simp [World.setCell, Array.getElem?_modify, hb]
  · have hi' : i < l.length := by simpa using hi
    rw [Array.getElem?_setIfInBounds]
    by_cases hij : j = i
    · subst hij
      rw [if_pos rfl, if_pos (by omega)]
      simp
    · rw [if_neg hij, hc i hi']
      simp [hij]
theorem BRow.drew {w : World} {e : TypeId} {b : Nat} {l : List UInt8} (h : BRow w e b l) : BRow w.drew e b l := h
theorem BRow.bytes {w : World} {e : TypeId} {b : Nat} {l : List UInt8} (h : BRow w e b l) : Lib.Bytes w b 0 ⟨l.toArray⟩ := by
  intro i hi
  have hi' : i < l.length := by simpa [ByteArray.size] using hi
  rw [Nat.zero_add, h.cell i hi']
  rfl
/-- One byte in the other case. -/
def caseB (up : Bool) (c : UInt8) : UInt8 := if up then (if 97 ≤ c.toNat ∧ c.toNat ≤ 122 then c - 32 else c) else (if 65 ≤ c.toNat ∧ c.toNat ≤ 90 then c + 32 else c)
theorem xor32 : ∀ n : Fin 256, bits .xor .u8 (n.val : Int) 32 = if n.val / 32 % 2 = 1 then ((n.val - 32 : Nat) : Int) else ((n.val + 32 : Nat) : Int) := by decide +kernel
theorem flip32 (b : UInt8) : bits .xor .u8 (b.toNat : Int) 32 = if b.toNat / 32 % 2 = 1 then ((b.toNat - 32 : Nat) : Int) else ((b.toNat + 32 : Nat) : Int) := xor32 ⟨b.toNat, b.toNat_lt⟩
theorem caseB_up {c : UInt8} (h1 : 97 ≤ c.toNat) (h2 : c.toNat ≤ 122) : bits .xor .u8 (c.toNat : Int) 32 = ((caseB true c).toNat : Int) := by
  rw [flip32, if_pos (by omega)]
  unfold caseB
  rw [if_pos rfl, if_pos ⟨h1, h2⟩, UInt8.toNat_sub_of_le c 32 (by rw [UInt8.le_iff_toNat_le]; simp; omega)]
  rfl
theorem caseB_down {c : UInt8} (h1 : 65 ≤ c.toNat) (h2 : c.toNat ≤ 90) : bits .xor .u8 (c.toNat : Int) 32 = ((caseB false c).toNat : Int) := by
  rw [flip32, if_neg (by omega)]
  unfold caseB
  rw [if_neg (by simp), if_pos ⟨h1, h2⟩, UInt8.toNat_add]
  simp
  omega
theorem caseB_same_up {c : UInt8} (h : ¬ (97 ≤ c.toNat ∧ c.toNat ≤ 122)) : caseB true c = c := by unfold caseB; rw [if_pos rfl, if_neg h]
theorem caseB_same_down {c : UInt8} (h : ¬ (65 ≤ c.toNat ∧ c.toNat ≤ 90)) : caseB false c = c := by unfold caseB; rw [if_neg (by simp), if_neg h]
theorem mixed_set (f : UInt8 → UInt8) (l : List UInt8) (k : Nat) (h : k < l.length) : (((l.take k).map f) ++ l.drop k).set k (f l[k]) = ((l.take (k + 1)).map f) ++ l.drop (k + 1) := by
  rw [List.set_append_right _ _ (by simp; omega), ← List.getElem_cons_drop h]
  have e : ((l.take k).map f).length = k := by simp; omega
  rw [e, Nat.sub_self, List.set_cons_zero, ← List.take_append_getElem h, List.map_append, List.append_assoc]
  rfl
theorem mixed_get (f : UInt8 → UInt8) (l : List UInt8) (k : Nat) (h : k < l.length) : ∃ h' : k < (((l.take k).map f) ++ l.drop k).length, (((l.take k).map f) ++ l.drop k)[k] = l[k] := by
  refine ⟨by simp; omega, ?_⟩
  rw [List.getElem_append_right (by simp; omega)]
  simp [Nat.min_eq_left (Nat.le_of_lt h)]
theorem mixed_keep (f : UInt8 → UInt8) (l : List UInt8) (k : Nat) (h : k < l.length) (he : f l[k] = l[k]) : ((l.take k).map f) ++ l.drop k = ((l.take (k + 1)).map f) ++ l.drop (k + 1) := by
  rw [← mixed_set f l k h, he]
  obtain ⟨h', e⟩ := mixed_get f l k h
  conv => lhs; rw [← List.set_getElem_self h']
  rw [e]

theorem size_mk (l : List UInt8) : (⟨l.toArray⟩ : ByteArray).size = l.length := by simp [ByteArray.size]
theorem below_bytes (w : World) (e : TypeId) (s : ByteArray) : Below w.heap.size w (Lib.bytesWorld w e s) :=
  ⟨rfl, rfl, rfl, by rw [Lib.bytesWorld_size]; omega, fun k hk => Lib.bytesWorld_at_old w e s k hk⟩
theorem caseB_up2 {c : UInt8} (h1 : 97 ≤ c.toNat) (h2 : c.toNat ≤ 122) : (c.toNat : Int) - 97 + 65 = ((caseB true c).toNat : Int) := by
  unfold caseB
  rw [if_pos rfl, if_pos ⟨h1, h2⟩, UInt8.toNat_sub_of_le c 32 (by rw [UInt8.le_iff_toNat_le]; simp; omega)]
  simp
  omega
theorem caseB_down2 {c : UInt8} (h1 : 65 ≤ c.toNat) (h2 : c.toNat ≤ 90) : (c.toNat : Int) - 65 + 97 = ((caseB false c).toNat : Int) := by
  unfold caseB
  rw [if_neg (by simp), if_pos ⟨h1, h2⟩, UInt8.toNat_add]
  simp
  omega
set_option maxRecDepth 100000 in
set_option maxHeartbeats 2000000 in
theorem Case_down (s : ByteArray) (hm : s.size ≤ 1000000000) (w : World) :
    Calls Tryz.prog 195 #[.string s, .bool false] w fun e w' => e = .returned (.string ⟨(s.data.toList.map (caseB false)).toArray⟩) ∧ Below w.heap.size w w' := by
  have hcv := Lib.run_convert_string_bytes (P := Tryz.prog) w 9 104 5 s Tryz.underlying9 Tryz.underlying104 Tryz.underlying5
  have hsz : s.data.toList.length = s.size := by simp
  go_enter Tryz.func195, Tryz.ntmps195
  go_wp2
  clear hcv
  have hr0 := BRow.made w 5 s
  have hb0 := below_bytes w 5 s
  obtain ⟨W, hW⟩ : ∃ W, Lib.bytesWorld w 5 s = W := ⟨_, rfl⟩
  rw [hW] at hr0 hb0 ⊢
  clear hW
  go_loopw [8, 9, 17] (fun u8 u9 i wr => ∃ k : Nat, i = .int .i64 k ∧ k ≤ s.size ∧ BRow wr 5 w.heap.size (((s.data.toList.take k).map (caseB false)) ++ s.data.toList.drop k) ∧ Below w.heap.size w wr) (fun _ _ i _ => s.size - (intOf i).toNat)
  case atStart => exact ⟨0, rfl, Nat.zero_le _, by simpa using hr0, hb0⟩
  case round =>
    obtain ⟨k, rfl, hk, hr, hb⟩ := hrel
    clear hr0 hb0
    by_cases hlt : k < s.size
    · have hl : k < s.data.toList.length := by omega
      obtain ⟨h', hg⟩ := mixed_get (caseB false) s.data.toList k hl
      have hc := hr.cell k h'
      have hf := hr.frozen k h'
      rw [hg] at hc
      obtain ⟨c, hcc⟩ : ∃ c, s.data.toList[k] = c := ⟨_, rfl⟩
      rw [hcc] at hc
      have Hr := Lib.hid hr
      have Hg := Lib.hid hg
      have Hcc := Lib.hid hcc
      clear hr hg hcc
      by_cases h1 : 65 ≤ c.toNat ∧ c.toNat ≤ 90
      · have HX := Lib.hid (caseB_down2 h1.1 h1.2)
        obtain ⟨h1, h2⟩ := h1
        go_wp2
        refine ⟨⟨k + 1, by go_num, by omega, ?_, hb.setCell (p := ⟨w.heap.size, k, none⟩) (Nat.le_refl _) _⟩, by simp [intOf]; omega⟩
        have h3 := Hr.out.stored k h' (caseB false c)
        rw [← Hcc.out, mixed_set (caseB false) s.data.toList k hl, Hcc.out] at h3
        rw [← HX.out] at h3
        exact h3
      · have HS := Lib.hid (caseB_same_down h1)
        have hrel2 : BRow wr 5 w.heap.size (((s.data.toList.take (k + 1)).map (caseB false)) ++ s.data.toList.drop (k + 1)) := by
          rw [← mixed_keep (caseB false) s.data.toList k hl (by rw [Hcc.out]; exact HS.out)]
          exact Hr.out
        have HR2 := Lib.hid hrel2
        clear hrel2
        by_cases h2 : 65 ≤ c.toNat
        · have h3 : 90 < c.toNat := by omega
          clear h1
          go_wp2
          exact ⟨⟨k + 1, by go_num, by omega, HR2.out, hb⟩, by simp [intOf]; omega⟩
        · clear h1
          go_wp2
          exact ⟨⟨k + 1, by go_num, by omega, HR2.out, hb⟩, by simp [intOf]; omega⟩
    · obtain rfl : k = s.size := by omega
      have hre : BRow wr 5 w.heap.size (s.data.toList.map (caseB false)) := by
        have h3 := hr
        rw [List.take_of_length_le (by omega), List.drop_of_length_le (by omega), List.append_nil] at h3
        exact h3
      have hsz2 : (⟨(s.data.toList.map (caseB false)).toArray⟩ : ByteArray).size = s.size := by rw [size_mk, List.length_map]; exact hsz
      have hback := Lib.run_convert_whole (P := Tryz.prog) wr 104 5 9 Tryz.underlying104 Tryz.underlying5 Tryz.underlying9 w.heap.size 0 _ hre.bytes (grownCap w s.size 0 5)
      rw [hsz2] at hback
      clear hr hre hsz2
      go_wp2
      go_ret
      exact ⟨rfl, hb⟩
end Go.Proofs.YtpjncnoejdaplaaGreatDoor
namespace Go.Proofs.YtpjncnoejdaplaaGreatDoor
open Go Go.RowKit

def blankB (c : UInt8) : Bool := decide (c.toNat = 32 ∨ (9 ≤ c.toNat ∧ c.toNat ≤ 13))
def letterB (c : UInt8) : Bool := decide ((65 ≤ c.toNat ∧ c.toNat ≤ 90) ∨ (97 ≤ c.toNat ∧ c.toNat ≤ 122))
def digitB (c : UInt8) : Bool := decide (48 ≤ c.toNat ∧ c.toNat ≤ 57)
/-- A text on its way: what is left, what was told of each part, and when. -/
structure St where
  left : List UInt8
  n : Nat → Int
  t : Nat → Int
  turns : Int
def rdCells (st : St) : Array Value := #[.string ⟨st.left.toArray⟩, .int .i64 (st.n 0), .int .i64 (st.t 0), .int .i64 (st.n 1), .int .i64 (st.t 1), .int .i64 (st.n 2), .int .i64 (st.t 2), .int .i64 (st.n 3), .int .i64 (st.t 3), .int .i64 (st.n 4), .int .i64 (st.t 4), .int .i64 (st.n 5), .int .i64 (st.t 5), .int .i64 (st.n 6), .int .i64 (st.t 6), .int .i64 (st.n 7), .int .i64 (st.t 7), .int .i64 (st.n 8), .int .i64 (st.t 8), .int .i64 (st.n 9), .int .i64 (st.t 9), .int .i64 (st.n 10), .int .i64 (st.t 10), .int .i64 (st.n 11), .int .i64 (st.t 11), .int .i64 (st.n 12), .int .i64 (st.t 12), .int .i64 st.turns]
def RdAt (w : World) (rb : Nat) (st : St) : Prop := w.heap[rb]? = some (.cells (rdCells st) 129 (0, 0))
def updI (f : Nat → Int) (p : Nat) (v : Int) (q : Nat) : Int := if q = p then v else f q
def tellS (st : St) (p : Nat) (v : Int) : St := { left := st.left, n := updI st.n p v, t := updI st.t p (st.turns + 1), turns := st.turns + 1 }
def leftS (st : St) (l : List UInt8) : St := { left := l, n := st.n, t := st.t, turns := st.turns }
/-- Digits that stand there, so many at most: their number, how many. -/
def digK (most : Nat) (l : List UInt8) : Nat := ((l.take most).takeWhile digitB).length
def numOf (l : List UInt8) : Int := l.foldl (fun n c => n * 10 + ((c.toNat : Int) - 48)) 0
def digN (most : Nat) (l : List UInt8) : Int := numOf (l.take (digK most l))
def skipS (p : UInt8 → Bool) (st : St) : St := leftS st (st.left.dropWhile p)
def cutS (s : List UInt8) (st : St) : Option St := if Lib.hasPrefix st.left s = true then some (leftS st (st.left.drop s.length)) else none
def cutName (nm : List UInt8) (st : St) : Option St :=
  if nm.length ≤ st.left.length ∧ (st.left.take nm.length).map (caseB false) = nm.map (caseB false) then some (leftS st (st.left.drop nm.length)) else none
def numberS (digits : Nat) (least most : Int) (p : Nat) (st : St) : Option St :=
  let s := skipS blankB st
  if digK digits s.left = 0 ∨ digN digits s.left < least ∨ most < digN digits s.left then none
  else some (tellS (leftS s (s.left.drop (digK digits s.left))) p (digN digits s.left))
def nameS (names : List ByteArray) (letters p : Nat) (st : St) : Nat → Option St
  | 0 => none
  | k + 1 =>
    let i := names.length - (k + 1)
    match cutName (names.getD i ⟨#[]⟩).data.toList st with
    | some s => some (tellS s p (i + 1))
    | none => match cutName ((names.getD i ⟨#[]⟩).data.toList.take letters) st with
      | some s => some (tellS s p (i + 1))
      | none => nameS names letters p st k
def literalS (c : UInt8) (st : St) : Option St :=
  if blankB c = true then some (skipS blankB st) else match st.left with
    | [] => none
    | d :: r => if d = c then some (leftS st r) else none
/-- A sign. -/
def signS (st : St) : Option St := match cutS [43] st with
  | some s => some s
  | none => cutS [45] st
def zoneS (st0 : St) : Option St :=
  let st := skipS blankB st0
  match cutS [90] st with
  | some s => some s
  | none =>
    match signS st with
    | none => none
    | some s =>
      let s1 := leftS s (s.left.drop (digK 2 s.left))
      let s2 := (cutS [58] s1).getD s1
      let s3 := leftS s2 (s2.left.drop (digK 2 s2.left))
      if digK 2 s.left ≠ 2 ∨ digK 2 s2.left ≠ 2 then none else some s3
/-- Seconds that Split knows. -/
def knownS (a : Int) : Prop := -4371587 ≤ a / 86400 ∧ a / 86400 ≤ 2932896
instance (a : Int) : Decidable (knownS a) := by unfold knownS; infer_instance
def secondsS (st : St) : Option St :=
  let neg := Lib.hasPrefix st.left [45]
  let s := (cutS [45] st).getD st
  let a := (if neg = true then -1 else 1) * digN 12 s.left
  if digK 12 s.left = 0 ∨ ¬ knownS a then none else some (tellS (leftS s (s.left.drop (digK 12 s.left))) 12 a)
/-- What is read, but for forms. -/
inductive RP where
  | num (digits : Nat) (least most : Int) (p : Nat)
  | many (letters : Bool)
  | percent
  | zone
  | secs
  | name (names : List ByteArray) (letters p : Nat)
def RP.step (st : St) : RP → Option St
  | .num d a b p => numberS d a b p st
  | .many l => some (skipS (if l = true then letterB else blankB) st)
  | .percent => cutS [37] st
  | .zone => zoneS st
  | .secs => secondsS st
  | .name ns k p => nameS ns k p st ns.length
def halfNames : List ByteArray := [⟨#[97, 109]⟩, ⟨#[112, 109]⟩]
def plainR (c : Nat) : Option RP :=
  if c = 89 then some (.num 4 0 9999 1) else if c = 67 then some (.num 2 0 99 2) else if c = 121 then some (.num 2 0 99 3) else if c = 109 then some (.num 2 1 12 4)
  else if c = 100 then some (.num 2 1 31 5) else if c = 101 then some (.num 2 1 31 5) else if c = 72 then some (.num 2 0 23 7) else if c = 107 then some (.num 2 0 23 7)
  else if c = 73 then some (.num 2 1 12 8) else if c = 108 then some (.num 2 1 12 8) else if c = 77 then some (.num 2 0 59 10) else if c = 83 then some (.num 2 0 60 11)
  else if c = 106 then some (.num 3 1 366 6) else if c = 85 then some (.num 2 0 53 0) else if c = 87 then some (.num 2 0 53 0) else if c = 86 then some (.num 2 0 53 0)
  else if c = 117 then some (.num 1 0 7 0) else if c = 119 then some (.num 1 0 7 0) else if c = 71 then some (.num 4 0 9999 0) else if c = 103 then some (.num 2 0 99 0)
  else if c = 115 then some .secs else if c = 110 then some (.many false) else if c = 116 then some (.many false) else if c = 37 then some .percent
  else if c = 90 then some (.many true) else if c = 122 then some .zone
  else if c = 97 then some (.name dayNames 3 0) else if c = 65 then some (.name dayNames 3 0)
  else if c = 98 then some (.name monthNames 3 4) else if c = 104 then some (.name monthNames 3 4) else if c = 66 then some (.name monthNames 3 4)
  else if c = 112 then some (.name halfNames 2 9) else if c = 80 then some (.name halfNames 2 9) else none
/-- A format followed, where each directive's step is known. -/
def followT (sem : Nat → Option (St → Option St)) : List UInt8 → St → Option St
  | [], st => some st
  | [c], st => if c = 37 then none else literalS c st
  | c :: d :: r, st => if c = 37 then (match sem d.toNat with
      | some f => (f st).bind (followT sem r)
      | none => none) else (literalS c st).bind (followT sem (d :: r))
def stepP (c : Nat) : Option (St → Option St) := (plainR c).map fun p st => p.step st
def stepA (c : Nat) : Option (St → Option St) :=
  match formOf c with
  | some f => some (followT stepP f.data.toList)
  | none => stepP c
inductive RS where
  | plain (p : RP)
  | form (f : ByteArray)
def specR (c : Nat) : Option RS :=
  match formOf c with
  | some f => some (.form f)
  | none => (plainR c).map .plain
def st0 (s : List UInt8) : St := { left := s, n := fun _ => 0, t := fun _ => 0, turns := 0 }
/-- The year, the hour that was told. -/
def yearS (st : St) : Int := if st.t 1 > max (st.t 2) (st.t 3) then st.n 1 else (if st.t 2 = 0 then (if st.t 3 > 0 ∧ st.n 3 < 69 then 20 else 19) else st.n 2) * 100 + st.n 3
def hourS (st : St) : Int := if st.t 8 ≤ st.t 7 then st.n 7 else st.n 8 % 12 + (if st.n 9 = 2 then 12 else 0)
end Go.Proofs.YtpjncnoejdaplaaGreatDoor
namespace Go.Proofs.YtpjncnoejdaplaaGreatDoor
open Go Go.RowKit

/-- A map's element is taken as it is. -/
def heldR (v : Value) : Option (DataW Value × List MemPlace) := some (.held v, [])
theorem lawB : Go.Maps.Keyed Tryz.prog 5 := Go.Maps.int_keyed Tryz.underlying5
theorem wf_u8 (c : Nat) (h : c < 256) : (Lit.int .u8 c).wf = true := by
  have h1 : IntKind.u8.min = 0 := by decide
  have h2 : IntKind.u8.max = 255 := by decide
  simp [Lit.wf, h1, h2]
  omega
def litB (c : Nat) : Lit := .int .u8 c
theorem litB_ok (c : Nat) (h : c < 256) : keyOf Tryz.prog 5 (.int .u8 c) = some (litB c) := Go.Maps.keyOf_int_mk Tryz.underlying5 (wf_u8 c h)
theorem litB_ne {a b : Nat} (h : a ≠ b) : litB a ≠ litB b := fun e => h (by
  have e1 : (a : Int) = (b : Int) := by injection e
  omega)
/-- Is it a function, and not none? -/
def isFn : Value → Bool
  | .nilFunc => false
  | _ => true
/-- The map in block b, of at most n entries, has these functions. -/
def MapF (w : World) (b n : Nat) (f : Nat → Value) : Prop := ∃ D : DataW Value, w.ownsMap Tryz.prog 5 heldR b n D ∧ ∀ c, D.atKey (litB c) (.held .nilFunc) = .held (f c) ∧ Maps.has D (litB c) = isFn (f c)
/-- One more. -/
def upd (f : Nat → Value) (c : Nat) (v : Value) (d : Nat) : Value := if d = c then v else f d
theorem MapF.made (w : World) : MapF (w.alloc (.map #[] 0)) w.heap.size 0 (fun _ => .nilFunc) :=
  ⟨.map [], World.ownsMap_made _ _ _ _, fun _ => ⟨rfl, rfl⟩⟩
theorem MapF.block {w w' : World} {b n : Nat} {f : Nat → Value} (h : MapF w b n f) (hb : w'.heap[b]? = w.heap[b]?) : MapF w' b n f := by
  obtain ⟨D, ⟨es, clock, h1, r⟩, h2⟩ := h
  exact ⟨D, ⟨es, clock, hb.trans h1, r⟩, h2⟩
theorem MapF.lt {w : World} {b n : Nat} {f : Nat → Value} (h : MapF w b n f) : b < w.heap.size := by
  obtain ⟨D, h1, _⟩ := h
  exact h1.lt
theorem MapF.store {w : World} {b n : Nat} {f : Nat → Value} (h : MapF w b n f) {t e : TypeId} (ht : Tryz.prog.underlying t = some (.map 5 e)) (hn : n < maxLen) {c : Nat} (hc : c < 256) {v : Value} (hv : isFn v = true) :
    ∃ w', (Instr.mapUpdate t (.map (some b)) (.int .u8 c) v).run Tryz.prog w = .ok () w' ∧ MapF w' b (n + 1) (upd f c v) ∧ w.grownBy w' (some b) := by
  obtain ⟨D, h1, h2⟩ := h
  obtain ⟨w', hrun, hown, hg⟩ := h1.update (R := heldR) lawB ht hn (litB_ok c hc) (val := v) (d := .held v) (ps := []) rfl
  refine ⟨w', hrun, ⟨_, hown, fun d => ?_⟩, hg⟩
  by_cases e : d = c
  · subst e
    have hl : WideAt.IsKeyLit (litB d) := trivial
    rw [Maps.atKey_put_same h1.isMap hl, Maps.has_put_same h1.isMap hl]
    simp [upd, hv]
  · have hne : litB d ≠ litB c := litB_ne e
    rw [Maps.atKey_put_other hne, Maps.has_put_other hne]
    simp only [upd, if_neg e]
    exact h2 d
theorem MapF.look {w : World} {b n : Nat} {f : Nat → Value} (h : MapF w b n f) {t e : TypeId} (ht : Tryz.prog.underlying t = some (.map 5 e)) (hz : (zeroValue e).run Tryz.prog w = .ok .nilFunc w) {c : Nat} (hc : c < 256) :
    (Instr.lookup t (.map (some b)) (.int .u8 c) true).run Tryz.prog w = .ok (.tuple #[f c, .bool (isFn (f c))]) w ∧ (Instr.lookup t (.map (some b)) (.int .u8 c) false).run Tryz.prog w = .ok (f c) w := by
  obtain ⟨D, h1, h2⟩ := h
  obtain ⟨v, ps, hrun, hv⟩ := h1.look_ok lawB ht hz (zd := .held .nilFunc) (zp := []) rfl (litB_ok c hc)
  obtain ⟨v', ps', hrun', hv'⟩ := h1.lookup lawB ht hz (zd := .held .nilFunc) (zp := []) rfl (litB_ok c hc)
  rw [(h2 c).1] at hv hv'
  have e1 : v = f c := by
    have := congrArg (Option.map Prod.fst) hv
    simpa [heldR] using this
  have e2 : v' = f c := by
    have := congrArg (Option.map Prod.fst) hv'
    simpa [heldR] using this
  subst e1
  rw [e2] at hrun'
  exact ⟨by rw [← (h2 c).2]; exact hrun, hrun'⟩

section
variable {S : Type} (At : World → Nat → Value → S → Prop)
/-- The map in block b has, at each byte, a function that is as it should be, or none. -/
def SpC (w : World) (b : Nat) (v : Value) : Option S → Prop
  | none => v = .nilFunc
  | some s => isFn v = true ∧ At w b v s
def SpG (w : World) (b n : Nat) (g : Nat → Option S) : Prop := ∃ f, MapF w b n f ∧ ∀ c, SpC At w b (f c) (g c)
def updG (g : Nat → Option S) (c : Nat) (s : S) (d : Nat) : Option S := if d = c then some s else g d
/-- What is said of a function stays where nothing but the map turns. -/
def Stays : Prop := ∀ w w' b v s, At w b v s → (∀ k, k < w.heap.size → k ≠ b → w'.heap[k]? = w.heap[k]?) → At w' b v s
variable {At}
theorem SpC.keep (hS : Stays At) {w w' : World} {b : Nat} {v : Value} {o : Option S} (h : SpC At w b v o) (hk : ∀ k, k < w.heap.size → k ≠ b → w'.heap[k]? = w.heap[k]?) : SpC At w' b v o := by
  cases o with
  | none => exact h
  | some s => exact ⟨h.1, hS _ _ _ _ _ h.2 hk⟩
theorem SpG.below (hS : Stays At) {w w' : World} {b n : Nat} {g : Nat → Option S} (h : SpG At w b n g) (hb : Below w.heap.size w w') : SpG At w' b n g := by
  obtain ⟨f, h1, h2⟩ := h
  exact ⟨f, h1.block (hb.block b h1.lt), fun c => (h2 c).keep hS fun k hk _ => hb.block k hk⟩
theorem SpG.belowB (hS : Stays At) {w w' : World} {b n B : Nat} {g : Nat → Option S} (h : SpG At w b n g) (hB : w.heap.size ≤ B) (hb : Below B w w') : SpG At w' b n g := h.below hS (hb.mono hB)
theorem SpG.made (w : World) : SpG At (w.alloc (.map #[] 0)) w.heap.size 0 (fun _ => none) := ⟨_, MapF.made w, fun _ => rfl⟩
theorem SpG.lt {w : World} {b n : Nat} {g : Nat → Option S} (h : SpG At w b n g) : b < w.heap.size := h.choose_spec.1.lt
theorem SpG.more {w : World} {b n m : Nat} {g : Nat → Option S} (h : SpG At w b n g) (hm : n ≤ m) : SpG At w b m g := by
  obtain ⟨f, ⟨D, h1, h2⟩, h3⟩ := h
  exact ⟨f, ⟨D, h1.mono hm, h2⟩, h3⟩
theorem SpG.store (hS : Stays At) {w : World} {b n : Nat} {g : Nat → Option S} (h : SpG At w b n g) {t e : TypeId} (ht : Tryz.prog.underlying t = some (.map 5 e)) (hn : n < maxLen) {c : Nat} (hc : c < 256) {v : Value} {s : S} (hv : isFn v = true) (hs : At w b v s) :
    ∃ w', (Instr.mapUpdate t (.map (some b)) (.int .u8 c) v).run Tryz.prog w = .ok () w' ∧ SpG At w' b (n + 1) (updG g c s) ∧ w.grownBy w' (some b) := by
  obtain ⟨f, h1, h2⟩ := h
  obtain ⟨w', hrun, hm, hg⟩ := h1.store ht hn hc hv
  have hk : ∀ k, k < w.heap.size → k ≠ b → w'.heap[k]? = w.heap[k]? := fun k hk hne => hg.block k hk (fun e => hne (Option.some.inj e))
  refine ⟨w', hrun, ⟨_, hm, fun d => ?_⟩, hg⟩
  by_cases e : d = c
  · subst e
    simp only [updG, upd, if_pos]
    exact ⟨hv, hS _ _ _ _ _ hs hk⟩
  · simp only [updG, upd, if_neg e]
    exact (h2 d).keep hS hk
/-- A store into it, at the operation. -/
theorem wpList_insert_S (hS : Stays At) {w : World} {ops : Array Oper} {rest : List Oper} {o : Oper} {a : Act} {Q : Exit → Act → World → Prop}
    (hg : o.guard = none) (m x v : Operand) (t e : TypeId) (hop : o.op = Op.insert t m x v ∨ o.op = Op.mapUpdate t m x v) (ht : Tryz.prog.underlying t = some (.map 5 e)) (b n : Nat) (g : Nat → Option S)
    (hm : a.eval m = .map (some b)) (h : SpG At w b n g) (hn : n < maxLen) (c : Nat) (hc : c < 256) (hx : a.eval x = .int .u8 c) (val : Value) (hv : a.eval v = val) (s : S) (hf : isFn val = true) (hs : At w b val s)
    (hK : ∀ w', SpG At w' b (n + 1) (updG g c s) → w.grownBy w' (some b) → wpList Tryz.prog ops Q rest (a.put o.dst undef) w') :
    wpList Tryz.prog ops Q (o :: rest) a w := by
  refine wpList_plain hg fun K' hK' => ?_
  obtain ⟨w', hrun, r1, r2⟩ := h.store hS ht hn hc hf hs
  unfold Oper.wp
  rcases hop with hop | hop
  · simp [execOp, hop, hm, hx, hv, hrun, Result.andThen]
    exact hK' _ _ (hK w' r1 r2)
  · simp [execOp, hop, hm, hx, hv, hrun, Result.andThen]
    exact hK' _ _ (hK w' r1 r2)
end
end Go.Proofs.YtpjncnoejdaplaaGreatDoor

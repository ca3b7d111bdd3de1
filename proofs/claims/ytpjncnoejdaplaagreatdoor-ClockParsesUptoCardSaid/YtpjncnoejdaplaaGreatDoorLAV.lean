/- A time as an array of its fields. -/
import Derived.Test.YtpjncnoejdaplaaGreatDoorLAU
import Derived.Laws.BitsAll
namespace Go.Proofs.YtpjncnoejdaplaaGreatDoor
open Go Go.RowKit Go.Shelf

/-- A time's fields, as values. -/
def tmCells (y m d h i : Int) (s : Nat) (wd yd : Int) : Array Value := #[.int .i64 3, .float .f64 (fI y), .string ⟨#[]⟩, .slice none 0 0, .slice none 0 0, .int .i64 3, .float .f64 (fI m), .string ⟨#[]⟩, .slice none 0 0, .slice none 0 0, .int .i64 3, .float .f64 (fI d), .string ⟨#[]⟩, .slice none 0 0, .slice none 0 0, .int .i64 3, .float .f64 (fI h), .string ⟨#[]⟩, .slice none 0 0, .slice none 0 0, .int .i64 3, .float .f64 (fI i), .string ⟨#[]⟩, .slice none 0 0, .slice none 0 0, .int .i64 3, .float .f64 s, .string ⟨#[]⟩, .slice none 0 0, .slice none 0 0, .int .i64 3, .float .f64 (fI wd), .string ⟨#[]⟩, .slice none 0 0, .slice none 0 0, .int .i64 3, .float .f64 (fI yd), .string ⟨#[]⟩, .slice none 0 0, .slice none 0 0]
/-- The time's box, the result's cells. -/
def FlI (w X : World) (v : Array Value) : Prop := X.heap[w.heap.size]? = some (.cells v 24 (0, 0)) ∧ X.heap[w.heap.size + 1]? = some (.cells nilV 46 (0, 0)) ∧ Below w.heap.size w X
theorem FlI.below {w X X' : World} {v : Array Value} (h : FlI w X v) (hb : Below X.heap.size X X') : FlI w X' v :=
  ⟨(hb.block _ (Array.getElem?_eq_some_iff.1 h.1).1).trans h.1, (hb.block _ (Array.getElem?_eq_some_iff.1 h.2.1).1).trans h.2.1, h.2.2.trans (hb.mono h.2.2.size)⟩
theorem FlI.drew {w X : World} {v : Array Value} (h : FlI w X v) : FlI w X.drew v := h.below ((Below.refl _ X).drew)
theorem FlI.cells {w X : World} {y m d h i : Int} {s : Nat} {wd yd : Int} (hF : FlI w X #[.int .i64 y, .int .i64 m, .int .i64 d, .int .i64 h, .int .i64 i, .float .f64 s, .int .i64 wd, .int .i64 yd]) : X.cell? ⟨w.heap.size, 0, none⟩ = some (.int .i64 y) ∧ X.cell? ⟨w.heap.size, 1, none⟩ = some (.int .i64 m) ∧ X.cell? ⟨w.heap.size, 2, none⟩ = some (.int .i64 d) ∧ X.cell? ⟨w.heap.size, 3, none⟩ = some (.int .i64 h) ∧ X.cell? ⟨w.heap.size, 4, none⟩ = some (.int .i64 i) ∧ X.cell? ⟨w.heap.size, 5, none⟩ = some (.float .f64 s) ∧ X.cell? ⟨w.heap.size, 6, none⟩ = some (.int .i64 wd) ∧ X.cell? ⟨w.heap.size, 7, none⟩ = some (.int .i64 yd) := by
  obtain ⟨u0, u1, u2, u3, u4, u5, u6, u7⟩ := row8 hF.1
  exact ⟨u0, u1, u2, u3, u4, u5, u6, u7⟩
theorem FlI.one {w X : World} {v : Array Value} (h : FlI w X v) (o : Obj) : FlI w (X.alloc o) v := h.below ((Below.refl _ X).alloc (Nat.le_refl _) o)
def set5 (X : World) (g : Nat) (a b c e f : Value) : World := ((((X.setCell ⟨g, 0, none⟩ a).setCell ⟨g, 1, none⟩ b).setCell ⟨g, 2, none⟩ c).setCell ⟨g, 3, none⟩ e).setCell ⟨g, 4, none⟩ f
theorem set5_other {X : World} {g k : Nat} (hk : k ≠ g) (a b c e f : Value) : (set5 X g a b c e f).heap[k]? = X.heap[k]? := by
  unfold set5
  rw [setCell_other_block _ hk, setCell_other_block _ hk, setCell_other_block _ hk, setCell_other_block _ hk, setCell_other_block _ hk]
theorem set5_row {X : World} {g : Nat} {u0 u1 u2 u3 u4 : Value} {t : TypeId} (h : X.heap[g]? = some (.cells #[u0, u1, u2, u3, u4] t (0, 0))) (a b c e f : Value) : (set5 X g a b c e f).heap[g]? = some (.cells #[a, b, c, e, f] t (0, 0)) :=
  row_setAt (row_setAt (row_setAt (row_setAt (row_setAt h 0 a) 1 b) 2 c) 3 e) 4 f
theorem set5_below {B g : Nat} {w w' : World} (h : Below B w w') (q : B ≤ g) (a b c e f : Value) : Below B w (set5 w' g a b c e f) :=
  ((((h.setCell (p := ⟨g, 0, none⟩) q a).setCell (p := ⟨g, 1, none⟩) q b).setCell (p := ⟨g, 2, none⟩) q c).setCell (p := ⟨g, 3, none⟩) q e).setCell (p := ⟨g, 4, none⟩) q f
theorem cells_of {X : World} {g : Nat} {y m d h i : Int} {s : Nat} {wd yd : Int} (hF : X.heap[g]? = some (.cells #[.int .i64 y, .int .i64 m, .int .i64 d, .int .i64 h, .int .i64 i, .float .f64 s, .int .i64 wd, .int .i64 yd] 24 (0, 0))) : X.cell? ⟨g, 0, none⟩ = some (.int .i64 y) ∧ X.cell? ⟨g, 1, none⟩ = some (.int .i64 m) ∧ X.cell? ⟨g, 2, none⟩ = some (.int .i64 d) ∧ X.cell? ⟨g, 3, none⟩ = some (.int .i64 h) ∧ X.cell? ⟨g, 4, none⟩ = some (.int .i64 i) ∧ X.cell? ⟨g, 5, none⟩ = some (.float .f64 s) ∧ X.cell? ⟨g, 6, none⟩ = some (.int .i64 wd) ∧ X.cell? ⟨g, 7, none⟩ = some (.int .i64 yd) := by
  obtain ⟨u0, u1, u2, u3, u4, u5, u6, u7⟩ := row8 hF
  exact ⟨u0, u1, u2, u3, u4, u5, u6, u7⟩
theorem FlI.cells5 {w X : World} {y m d h i : Int} {s : Nat} {wd yd : Int} (hF : FlI w X #[.int .i64 y, .int .i64 m, .int .i64 d, .int .i64 h, .int .i64 i, .float .f64 s, .int .i64 wd, .int .i64 yd]) (a b c e f : Value) : (((((X.setCell ⟨w.heap.size + 1, 0, none⟩ a).setCell ⟨w.heap.size + 1, 1, none⟩ b).setCell ⟨w.heap.size + 1, 2, none⟩ c).setCell ⟨w.heap.size + 1, 3, none⟩ e).setCell ⟨w.heap.size + 1, 4, none⟩ f).cell? ⟨w.heap.size, 0, none⟩ = some (.int .i64 y) ∧ (((((X.setCell ⟨w.heap.size + 1, 0, none⟩ a).setCell ⟨w.heap.size + 1, 1, none⟩ b).setCell ⟨w.heap.size + 1, 2, none⟩ c).setCell ⟨w.heap.size + 1, 3, none⟩ e).setCell ⟨w.heap.size + 1, 4, none⟩ f).cell? ⟨w.heap.size, 1, none⟩ = some (.int .i64 m) ∧ (((((X.setCell ⟨w.heap.size + 1, 0, none⟩ a).setCell ⟨w.heap.size + 1, 1, none⟩ b).setCell ⟨w.heap.size + 1, 2, none⟩ c).setCell ⟨w.heap.size + 1, 3, none⟩ e).setCell ⟨w.heap.size + 1, 4, none⟩ f).cell? ⟨w.heap.size, 2, none⟩ = some (.int .i64 d) ∧ (((((X.setCell ⟨w.heap.size + 1, 0, none⟩ a).setCell ⟨w.heap.size + 1, 1, none⟩ b).setCell ⟨w.heap.size + 1, 2, none⟩ c).setCell ⟨w.heap.size + 1, 3, none⟩ e).setCell ⟨w.heap.size + 1, 4, none⟩ f).cell? ⟨w.heap.size, 3, none⟩ = some (.int .i64 h) ∧ (((((X.setCell ⟨w.heap.size + 1, 0, none⟩ a).setCell ⟨w.heap.size + 1, 1, none⟩ b).setCell ⟨w.heap.size + 1, 2, none⟩ c).setCell ⟨w.heap.size + 1, 3, none⟩ e).setCell ⟨w.heap.size + 1, 4, none⟩ f).cell? ⟨w.heap.size, 4, none⟩ = some (.int .i64 i) ∧ (((((X.setCell ⟨w.heap.size + 1, 0, none⟩ a).setCell ⟨w.heap.size + 1, 1, none⟩ b).setCell ⟨w.heap.size + 1, 2, none⟩ c).setCell ⟨w.heap.size + 1, 3, none⟩ e).setCell ⟨w.heap.size + 1, 4, none⟩ f).cell? ⟨w.heap.size, 5, none⟩ = some (.float .f64 s) ∧ (((((X.setCell ⟨w.heap.size + 1, 0, none⟩ a).setCell ⟨w.heap.size + 1, 1, none⟩ b).setCell ⟨w.heap.size + 1, 2, none⟩ c).setCell ⟨w.heap.size + 1, 3, none⟩ e).setCell ⟨w.heap.size + 1, 4, none⟩ f).cell? ⟨w.heap.size, 6, none⟩ = some (.int .i64 wd) ∧ (((((X.setCell ⟨w.heap.size + 1, 0, none⟩ a).setCell ⟨w.heap.size + 1, 1, none⟩ b).setCell ⟨w.heap.size + 1, 2, none⟩ c).setCell ⟨w.heap.size + 1, 3, none⟩ e).setCell ⟨w.heap.size + 1, 4, none⟩ f).cell? ⟨w.heap.size, 7, none⟩ = some (.int .i64 yd) :=
  cells_of (X := set5 X (w.heap.size + 1) a b c e f) ((set5_other (by omega) ..).trans hF.1)
theorem FlI.first (w : World) (v : Array Value) : FlI w ((w.alloc (.cells v 24)).alloc (.cells nilV 46)) v := by
  refine ⟨row_alloc3 (heap_alloc_new w _) _, ?_, ((Below.refl w.heap.size w).alloc (Nat.le_refl _) _).alloc (by simp) _⟩
  have := heap_alloc_new (w.alloc (.cells v 24)) (.cells nilV 46)
  rw [World.size_alloc] at this
  exact this
theorem row5n {w : World} {g : Nat} {a b c d e : Value} {t : TypeId} (h : w.heap[g]? = some (.cells #[a, b, c, d, e] t (0, 0))) : (w.cell? ⟨g, 0, none⟩ = some a ∧ w.cell? ⟨g, 1, none⟩ = some b ∧ w.cell? ⟨g, 2, none⟩ = some c ∧ w.cell? ⟨g, 3, none⟩ = some d ∧ w.cell? ⟨g, 4, none⟩ = some e) ∧
    (w.frozen? ⟨g, 0, none⟩ = false ∧ w.frozen? ⟨g, 1, none⟩ = false ∧ w.frozen? ⟨g, 2, none⟩ = false ∧ w.frozen? ⟨g, 3, none⟩ = false ∧ w.frozen? ⟨g, 4, none⟩ = false) := by
  refine ⟨⟨?_, ?_, ?_, ?_, ?_⟩, ⟨?_, ?_, ?_, ?_, ?_⟩⟩
  all_goals simp [World.cell?, World.frozen?, h]
set_option maxRecDepth 100000 in
set_option maxHeartbeats 4000000 in
theorem fields_any (y m d h i : Int) (s : Nat) (wd yd : Int) (w : World) : Calls Tryz.prog 45 #[.agg (timeV y m d h i s wd yd)] w fun e w' => (∃ g, w.heap.size ≤ g ∧ e = .returned (.agg #[.int .i64 5, .float .f64 0, .string ⟨#[]⟩, .slice (some ⟨g, 0, none⟩) 8 8, .slice none 0 0]) ∧ w'.heap[g]? = some (.cells (tmCells y m d h i s wd yd) 46 (0, 0))) ∧ Below w.heap.size w w' := by
  have hsf := run_store_float Tryz.prog
  unfold timeV
  go_enter Tryz.func45, Tryz.ntmps45
  go_wp2_with fail
  have hf := FlI.first w #[.int .i64 y, .int .i64 m, .int .i64 d, .int .i64 h, .int .i64 i, .float .f64 s, .int .i64 wd, .int .i64 yd]
  unfold nilV at hf
  generalize (w.alloc (.cells #[.int .i64 y, .int .i64 m, .int .i64 d, .int .i64 h, .int .i64 i, .float .f64 s, .int .i64 wd, .int .i64 yd] 24)).alloc (.cells #[.int .i64 0, .float .f64 0, .string ⟨#[]⟩, .slice none 0 0, .slice none 0 0] 46) = X0 at hf ⊢
  have HF := Lib.hid hf
  clear hf
  go_region_held3 (fun W => W.cell? ⟨w.heap.size, 0, none⟩ = some (.int .i64 y) ∧ W.cell? ⟨w.heap.size, 1, none⟩ = some (.int .i64 m) ∧ W.cell? ⟨w.heap.size, 2, none⟩ = some (.int .i64 d) ∧ W.cell? ⟨w.heap.size, 3, none⟩ = some (.int .i64 h) ∧ W.cell? ⟨w.heap.size, 4, none⟩ = some (.int .i64 i) ∧ W.cell? ⟨w.heap.size, 5, none⟩ = some (.float .f64 s) ∧ W.cell? ⟨w.heap.size, 6, none⟩ = some (.int .i64 wd) ∧ W.cell? ⟨w.heap.size, 7, none⟩ = some (.int .i64 yd)) (first | with_reducible exact HF.out.cells | with_reducible exact HF.out.drew.cells | with_reducible exact (HF.out.one _).cells | with_reducible exact (HF.out.one _).cells5 ..)
    (first
    | (go_at_call 49; (with_reducible refine (Number_any _ _).mono ?_); rintro e w1 ⟨rfl, hb⟩; have hd : FlI w w1 #[.int .i64 y, .int .i64 m, .int .i64 d, .int .i64 h, .int .i64 i, .float .f64 s, .int .i64 wd, .int .i64 yd] := (by first | with_reducible exact HF.out.below hb | with_reducible exact HF.out.drew.below hb); clear HF; have HF := Lib.hid hd; clear hd hb; have p0 := fun o => (row5n (HF.out.one o).2.1).1.1; have p1 := fun o => (row5n (HF.out.one o).2.1).1.2.1; have p2 := fun o => (row5n (HF.out.one o).2.1).1.2.2.1; have p3 := fun o => (row5n (HF.out.one o).2.1).1.2.2.2.1; have p4 := fun o => (row5n (HF.out.one o).2.1).1.2.2.2.2; have v0 := fun o => (row5n (HF.out.one o).2.1).2.1; have v1 := fun o => (row5n (HF.out.one o).2.1).2.2.1; have v2 := fun o => (row5n (HF.out.one o).2.1).2.2.2.1; have v3 := fun o => (row5n (HF.out.one o).2.1).2.2.2.2.1; have v4 := fun o => (row5n (HF.out.one o).2.1).2.2.2.2.2; unfold numV))
  all_goals
    clear p0 p1 p2 p3 p4 v0 v1 v2 v3 v4
    go_wp2_with fail
    have hq := HF.out.one (.cells (tmCells y m d h i s wd yd) 46)
    refine bodyPost_ret_by (results_cell_row rfl _ _ (w.heap.size + 1) 46 _ (0, 0) _ rfl (set5_row hq.2.1 ..) Tryz.underlying46 rfl sizeV) rfl ?_
    exact ⟨⟨w1.heap.size, HF.out.2.2.size, rfl, (set5_other (by have := (Array.getElem?_eq_some_iff.1 HF.out.2.1).1; omega) ..).trans (heap_alloc_new w1 _)⟩, set5_below hq.2.2 (by omega) ..⟩
end Go.Proofs.YtpjncnoejdaplaaGreatDoor
namespace Go.Proofs.YtpjncnoejdaplaaGreatDoor
open Go Go.RowKit Go.Shelf

theorem results_two_rows {P : Program} {fn : Func} {p q : Tmp} {ty tz : TypeId} (h : fn.results = #[.cell p ty, .cell q tz]) (tmps : Array Value) (w : World) (g1 g2 : Nat) (t1 t2 : TypeId) (cs1 cs2 : Array Value) (fr1 fr2 : Nat × Nat) (d1 d2 : TypeDesc)
    (hp : tmps.getD p undef = .pointer (some ⟨g1, 0, none⟩)) (hq : tmps.getD q undef = .pointer (some ⟨g2, 0, none⟩)) (hg1 : w.heap[g1]? = some (.cells cs1 t1 fr1)) (hg2 : w.heap[g2]? = some (.cells cs2 t2 fr2))
    (hu1 : P.underlying ty = some d1) (hd1 : (match d1 with | .struct _ | .array _ _ => true | _ => false) = true) (hi1 : (P.info? ty).map (·.size) = some cs1.size)
    (hu2 : P.underlying tz = some d2) (hd2 : (match d2 with | .struct _ | .array _ _ => true | _ => false) = true) (hi2 : (P.info? tz).map (·.size) = some cs2.size) :
    (results fn tmps).run P w = .ok (.tuple #[.agg cs1, .agg cs2]) w := by
  have hp' : tmps[p]?.getD undef = .pointer (some ⟨g1, 0, none⟩) := by simpa using hp
  have hq' : tmps[q]?.getD undef = .pointer (some ⟨g2, 0, none⟩) := by simpa using hq
  simp [results, h, hp', hq', asAddr, run_loadVar_row w g1 t1 ty cs1 fr1 d1 hg1 hu1 hd1 hi1, run_loadVar_row w g2 t2 tz cs2 fr2 d2 hg2 hu2 hd2 hi2]
/-- What was handed in, the two results' cells. -/
structure GmI (w X : World) (v : Array Value) : Prop where
  arg : X.heap[w.heap.size]? = some (.cells v 46 (0, 0))
  res : X.heap[w.heap.size + 1]? = some (.cells #[.int .i64 0, .float .f64 0, .string ⟨#[]⟩, .slice none 0 0, .slice none 0 0] 46 (0, 0))
  err : X.heap[w.heap.size + 2]? = some (.cells #[.bool false, .int .i64 0, .float .f64 0, .string ⟨#[]⟩, .slice none 0 0, .slice none 0 0] 48 (0, 0))
  is : Below w.heap.size w X
theorem GmI.below {w X X' : World} {v : Array Value} (h : GmI w X v) (hb : Below X.heap.size X X') : GmI w X' v :=
  ⟨(hb.block _ (Array.getElem?_eq_some_iff.1 h.arg).1).trans h.arg, (hb.block _ (Array.getElem?_eq_some_iff.1 h.res).1).trans h.res, (hb.block _ (Array.getElem?_eq_some_iff.1 h.err).1).trans h.err, h.is.trans (hb.mono h.is.size)⟩
theorem GmI.one {w X : World} {v : Array Value} (h : GmI w X v) (o : Obj) : GmI w (X.alloc o) v := h.below ((Below.refl _ X).alloc (Nat.le_refl _) o)
theorem GmI.lt {w X : World} {v : Array Value} (h : GmI w X v) : w.heap.size + 2 < X.heap.size := (Array.getElem?_eq_some_iff.1 h.err).1
theorem GmI.first (w : World) (v : Array Value) : GmI w (((w.alloc (.cells v 46)).alloc (.cells #[.int .i64 0, .float .f64 0, .string ⟨#[]⟩, .slice none 0 0, .slice none 0 0] 46)).alloc (.cells #[.bool false, .int .i64 0, .float .f64 0, .string ⟨#[]⟩, .slice none 0 0, .slice none 0 0] 48)) v := by
  have h1 := heap_alloc_new (w.alloc (.cells v 46)) (.cells #[.int .i64 0, .float .f64 0, .string ⟨#[]⟩, .slice none 0 0, .slice none 0 0] 46)
  have h2 := heap_alloc_new ((w.alloc (.cells v 46)).alloc (.cells #[.int .i64 0, .float .f64 0, .string ⟨#[]⟩, .slice none 0 0, .slice none 0 0] 46)) (.cells #[.bool false, .int .i64 0, .float .f64 0, .string ⟨#[]⟩, .slice none 0 0, .slice none 0 0] 48)
  rw [World.size_alloc] at h1
  rw [World.size_alloc, World.size_alloc] at h2
  exact ⟨row_alloc3 (row_alloc3 (heap_alloc_new w _) _) _, row_alloc3 h1 _, h2, (((Below.refl w.heap.size w).alloc (Nat.le_refl _) _).alloc (by simp) _).alloc (by simp; omega) _⟩
def set6 (X : World) (g : Nat) (a b c e f k : Value) : World := (set5 X g a b c e f).setCell ⟨g, 5, none⟩ k
theorem set6_other {X : World} {g k : Nat} (hk : k ≠ g) (a b c e f l : Value) : (set6 X g a b c e f l).heap[k]? = X.heap[k]? := by
  unfold set6
  rw [setCell_other_block _ hk, set5_other hk]
theorem set6_row {X : World} {g : Nat} {u0 u1 u2 u3 u4 u5 : Value} {t : TypeId} (h : X.heap[g]? = some (.cells #[u0, u1, u2, u3, u4, u5] t (0, 0))) (a b c e f k : Value) : (set6 X g a b c e f k).heap[g]? = some (.cells #[a, b, c, e, f, k] t (0, 0)) :=
  row_setAt (row_setAt (row_setAt (row_setAt (row_setAt (row_setAt h 0 a) 1 b) 2 c) 3 e) 4 f) 5 k
theorem set6_below {B g : Nat} {w w' : World} (h : Below B w w') (q : B ≤ g) (a b c e f k : Value) : Below B w (set6 w' g a b c e f k) :=
  (set5_below h q a b c e f).setCell (p := ⟨g, 5, none⟩) q k
theorem row6n {w : World} {g : Nat} {a b c d e f : Value} {t : TypeId} (h : w.heap[g]? = some (.cells #[a, b, c, d, e, f] t (0, 0))) : (w.cell? ⟨g, 0, none⟩ = some a ∧ w.cell? ⟨g, 1, none⟩ = some b ∧ w.cell? ⟨g, 2, none⟩ = some c ∧ w.cell? ⟨g, 3, none⟩ = some d ∧ w.cell? ⟨g, 4, none⟩ = some e ∧ w.cell? ⟨g, 5, none⟩ = some f) ∧
    (w.frozen? ⟨g, 0, none⟩ = false ∧ w.frozen? ⟨g, 1, none⟩ = false ∧ w.frozen? ⟨g, 2, none⟩ = false ∧ w.frozen? ⟨g, 3, none⟩ = false ∧ w.frozen? ⟨g, 4, none⟩ = false ∧ w.frozen? ⟨g, 5, none⟩ = false) := by
  refine ⟨⟨?_, ?_, ?_, ?_, ?_, ?_⟩, ⟨?_, ?_, ?_, ?_, ?_, ?_⟩⟩
  all_goals simp [World.cell?, World.frozen?, h]
/-- What Gmtime answers of a time. -/
def GmPost (w : World) (v : Array Value) (e : Ending) (w' : World) : Prop := (∃ g, w.heap.size ≤ g ∧ e = .returned (.tuple #[.agg #[.int .i64 5, .float .f64 0, .string ⟨#[]⟩, .slice (some ⟨g, 0, none⟩) 8 8, .slice none 0 0], .agg noErr]) ∧ w'.heap[g]? = some (.cells v 46 (0, 0))) ∧ Below w.heap.size w w'
set_option maxRecDepth 100000 in
set_option maxHeartbeats 4000000 in
theorem Gmtime_of (f : Nat) (u : ByteArray) (a1 a2 : Option Addr) (n1 c1 n2 c2 : Nat) (y m d h i : Int) (s : Nat) (wd yd : Int) (hS : ∀ w, Calls Tryz.prog 15 #[.float .f64 f] w fun e w' => e = .returned (.tuple #[.agg (timeV y m d h i s wd yd), .int .i64 0]) ∧ Below w.heap.size w w') (w : World) :
    Calls Tryz.prog 16 #[.agg #[.int .i64 3, .float .f64 f, .string u, .slice a1 n1 c1, .slice a2 n2 c2]] w fun e w' => GmPost w (tmCells y m d h i s wd yd) e w' := by
  have hsf := run_store_float Tryz.prog
  have HS := Lib.hid hS
  have HFd := Lib.hid (fun w => fields_any y m d h i s wd yd w)
  clear hS
  unfold timeV at HS HFd
  go_enter Tryz.func16, Tryz.ntmps16
  go_upto_region 1 with fail
  have hg := GmI.first w #[.int .i64 3, .float .f64 f, .string u, .slice a1 n1 c1, .slice a2 n2 c2]
  generalize ((w.alloc (.cells #[.int .i64 3, .float .f64 f, .string u, .slice a1 n1 c1, .slice a2 n2 c2] 46)).alloc (.cells #[.int .i64 0, .float .f64 0, .string ⟨#[]⟩, .slice none 0 0, .slice none 0 0] 46)).alloc (.cells #[.bool false, .int .i64 0, .float .f64 0, .string ⟨#[]⟩, .slice none 0 0, .slice none 0 0] 48) = X0 at hg ⊢
  have HG := Lib.hid hg
  clear hg
  obtain ⟨⟨p0, p1, p2, p3, p4⟩, _⟩ := row5n HG.out.arg
  go_wp2_with fail
  refine (HS.out _).mono ?_
  rintro e w1 ⟨rfl, hb⟩
  have HG1 := Lib.hid (HG.out.below hb)
  clear hb HG p0 p1 p2 p3 p4
  go_upto_region 4 with fail
  have hg2 := HG1.out.one (.cells #[.int .i64 y, .int .i64 m, .int .i64 d, .int .i64 h, .int .i64 i, .float .f64 s, .int .i64 wd, .int .i64 yd] 24)
  have hr2 := heap_alloc_new w1 (.cells #[.int .i64 y, .int .i64 m, .int .i64 d, .int .i64 h, .int .i64 i, .float .f64 s, .int .i64 wd, .int .i64 yd] 24)
  obtain ⟨q, hq⟩ : ∃ q, w1.heap.size = q := ⟨_, rfl⟩
  rw [hq] at hr2 ⊢
  generalize w1.alloc (.cells #[.int .i64 y, .int .i64 m, .int .i64 d, .int .i64 h, .int .i64 i, .float .f64 s, .int .i64 wd, .int .i64 yd] 24) = X2 at hg2 hr2 ⊢
  have HG2 := Lib.hid hg2
  have HR2 := Lib.hid hr2
  clear hg2 hr2 HG1 hq
  obtain ⟨u0, u1, u2, u3, u4, u5, u6, u7⟩ := row8 HR2.out
  go_wp2_with fail
  refine (HFd.out _).mono ?_
  rintro e w3 ⟨⟨g, hg0, rfl, hgr⟩, hb⟩
  have HG3 := Lib.hid (HG2.out.below hb)
  have HGR := Lib.hid hgr
  have HGN : Hid (w.heap.size + 2 < g) := Lib.hid (by have := HG2.out.lt; omega)
  clear hb hgr hg0 HG2 HR2 u0 u1 u2 u3 u4 u5 u6 u7
  obtain ⟨⟨p0, p1, p2, p3, p4⟩, ⟨v0, v1, v2, v3, v4⟩⟩ := row5n HG3.out.res
  obtain ⟨⟨k0, k1, k2, k3, k4, k5⟩, ⟨l0, l1, l2, l3, l4, l5⟩⟩ := row6n HG3.out.err
  go_wp2_with fail
  have hr1 := set5_row HG3.out.res (.int .i64 5) (.float .f64 0) (.string ⟨#[]⟩) (.slice (some ⟨g, 0, none⟩) 8 8) (.slice none 0 0)
  have he1 := (set5_other (X := w3) (g := w.heap.size + 1) (k := w.heap.size + 2) (by omega) (.int .i64 5) (.float .f64 0) (.string ⟨#[]⟩) (.slice (some ⟨g, 0, none⟩) 8 8) (.slice none 0 0)).trans HG3.out.err
  have hg1 := (set5_other (X := w3) (g := w.heap.size + 1) (k := g) (by have := HGN.out; omega) (.int .i64 5) (.float .f64 0) (.string ⟨#[]⟩) (.slice (some ⟨g, 0, none⟩) 8 8) (.slice none 0 0)).trans HGR.out
  have hb1 := set5_below HG3.out.is (g := w.heap.size + 1) (by omega) (.int .i64 5) (.float .f64 0) (.string ⟨#[]⟩) (.slice (some ⟨g, 0, none⟩) 8 8) (.slice none 0 0)
  refine bodyPost_ret_by (results_two_rows rfl _ _ (w.heap.size + 1) (w.heap.size + 2) 46 48 _ _ (0, 0) (0, 0) _ _ rfl rfl ((set6_other (g := w.heap.size + 2) (by omega) ..).trans hr1) (set6_row he1 ..) Tryz.underlying46 rfl sizeV Tryz.underlying48 rfl sizeE) rfl ?_
  exact ⟨⟨g, by have := HGN.out; omega, rfl, (set6_other (by have := HGN.out; omega) ..).trans hg1⟩, set6_below hb1 (by omega) ..⟩
end Go.Proofs.YtpjncnoejdaplaaGreatDoor
namespace Go.Proofs.YtpjncnoejdaplaaGreatDoor
open Go Go.RowKit Go.Shelf

set_option exponentiation.threshold 2000 in
theorem fI_lt (k : Int) (h1 : -9007199254740992 ≤ k) (h2 : k ≤ 9007199254740992) : fI k < 18446744073709551616 := by
  have hb : k.natAbs < 2 ^ 1024 := Nat.lt_of_lt_of_le (by omega : k.natAbs < 2 ^ 54) (Nat.pow_le_pow_right (by omega) (by omega))
  exact (near_is (decide (k < 0)) k.natAbs hb (low_exact _ (by omega))).2.2.2
theorem andNot_topK (b : Nat) (hb : b < 18446744073709551616) : bits .andNot .u64 (b : Int) 9223372036854775808 = ((szB b : Nat) : Int) := by
  have h := u64_andNot_nat b 9223372036854775808 hb (by omega)
  have e : b &&& 9223372036854775807 = b % 9223372036854775808 := Nat.and_two_pow_sub_one_eq_mod b 63
  unfold szB
  rw [← e]
  exact h
theorem bits_mathK (b : Nat) (w : World) : (callFunc 91 #[.float .f64 b]).run Tryz.prog w = .ok (.value (.int .u64 b)) w := by
  rw [run_callFunc_extern Tryz.func91 (by kernel_rfl) (by kernel_rfl) (by kernel_rfl) (e := Extern.MathFloatBits.float64bits) (by kernel_rfl)]
  rfl
theorem sizeBits_K (b : Nat) (hb : b < 18446744073709551616) (w : World) : Calls Tryz.prog 176 #[.float .f64 b] w fun e w' => e = .returned (.int .u64 (szB b)) ∧ w = w' := by
  have h1 := bits_mathK
  have h2 := andNot_topK b hb
  go_enter Tryz.func176, Tryz.ntmps176
  go_wp2_with fail
  go_ret
  exact ⟨rfl, rfl⟩
theorem isNumber_K (b : Nat) (hb : b < 18446744073709551616) (w : World) : Calls Tryz.prog 157 #[.float .f64 b] w fun e w' => e = .returned (.bool (decide (szB b ≤ 9218868437227405312))) ∧ w = w' := by
  have hs : decide ((szB b : Int) ≤ 9218868437227405312) = decide (szB b ≤ 9218868437227405312) := by rw [decide_eq_decide]; omega
  go_enter Tryz.func157, Tryz.ntmps157
  go_wp2_with fail
  refine (sizeBits_K b hb w).mono ?_
  rintro e w' ⟨rfl, rfl⟩
  go_wp2_with fail
  go_ret
  exact ⟨rfl, rfl⟩
set_option exponentiation.threshold 2000 in
theorem toInt_fI (k : Int) (h1 : -9007199254740992 ≤ k) (h2 : k ≤ 9007199254740992) : (Ieee.double.read (fI k)).toInt .zero = some k := by
  obtain ⟨a1, a2⟩ := fI_is k h1 h2
  obtain ⟨m, j, r1, r2, _⟩ := read_fin3 _ a1
  have hv : sg (fI k / 9223372036854775808 % 2 == 1) (vN (szB (fI k))) = k * 2 ^ 1074 := a2
  obtain ⟨s, hs⟩ : ∃ s, (fI k / 9223372036854775808 % 2 == 1) = s := ⟨_, rfl⟩
  rw [hs] at hv r1
  rw [r1, (toInt_num s m j _ r2).1]
  congr 1
  have hp : (0 : Int) < (2 : Int) ^ 1074 := Int.pow_pos (by omega)
  have hN : (vN (szB (fI k)) : Int) = (if s then -k else k) * 2 ^ 1074 := by
    cases s
    · simpa [sg] using hv
    · simp only [sg, if_true] at hv ⊢
      rw [Int.neg_mul, ← hv]; omega
  have hd : ((vN (szB (fI k)) / 2 ^ 1074 : Nat) : Int) = if s then -k else k := by
    rw [Int.natCast_ediv, hN]
    exact Int.mul_ediv_cancel _ (by omega)
  unfold sg
  rw [hd]
  cases s <;> simp
theorem conv_fI (k : Int) (h1 : -9007199254740992 ≤ k) (h2 : k ≤ 9007199254740992) (w : World) : (convert 22 3 (.float .f64 (fI k))).run Tryz.prog w = .ok (.int .i64 k) w := by
  refine run_convert_float_int w _ _ .f64 .i64 _ _ (by kernel_rfl) (by kernel_rfl) ?_
  have h' : (FloatKind.f64.decode (fI k)).toInt .zero = some k := toInt_fI k h1 h2
  unfold floatToIntVal
  rw [h']
  have e1 : IntKind.i64.min = -9223372036854775808 := by decide
  have e2 : IntKind.i64.max = 9223372036854775807 := by decide
  simp only [e1, e2]
  rw [if_pos ⟨by omega, by omega⟩]
theorem c_end : valB 4890909195324358656 = 9223372036854775808 * 2 ^ 1074 := by decide +kernel
theorem c_nend : valB 14114281232179134464 = -9223372036854775808 * 2 ^ 1074 := by decide +kernel
set_option exponentiation.threshold 2000 in
set_option maxRecDepth 100000 in
theorem Int_fI (k : Int) (h1 : -9007199254740992 ≤ k) (h2 : k ≤ 9007199254740992) (w : World) : Calls Tryz.prog 100 #[.float .f64 (fI k)] w fun e w' => e = .returned (.int .i64 k) ∧ w = w' := by
  obtain ⟨a1, a2⟩ := fI_is k h1 h2
  have o1 : FloatKind.f64.format.order (fI k) 4890909195324358656 = some .lt := by
    have := val_order (fI k) 4890909195324358656 a1 (by decide)
    rw [a2, c_end, Int.compare_eq_lt.2 (Int.mul_lt_mul_of_pos_right (by omega) (Int.pow_pos (by omega)))] at this
    exact this
  have o2 : FloatKind.f64.format.order (fI k) 14114281232179134464 = some .gt := by
    have := val_order (fI k) 14114281232179134464 a1 (by decide)
    rw [a2, c_nend, Int.compare_eq_gt.2 (Int.mul_lt_mul_of_pos_right (by omega) (Int.pow_pos (by omega)))] at this
    exact this
  have hc := conv_fI k h1 h2
  have HN := Lib.hid (isNumber_K (fI k) (fI_lt k h1 h2))
  have hd : decide (szB (fI k) ≤ 9218868437227405312) = true := by simp; omega
  rw [hd] at HN
  clear a1 a2 hd
  obtain ⟨b, hb⟩ : ∃ b, fI k = b := ⟨_, rfl⟩
  rw [hb] at o1 o2 hc HN ⊢
  go_enter Tryz.func100, Tryz.ntmps100
  go_wp2_with fail
  refine (HN.out _).mono ?_
  rintro e w' ⟨rfl, rfl⟩
  go_wp2_with fail
  go_ret
  exact ⟨rfl, rfl⟩
end Go.Proofs.YtpjncnoejdaplaaGreatDoor
namespace Go.Proofs.YtpjncnoejdaplaaGreatDoor
open Go Go.RowKit Go.Shelf

/-- A row that begins so. -/
def RowT (X : World) (g : Nat) (v : Array Value) : Prop := ∃ cs, X.heap[g]? = some (.cells cs 46 (0, 0)) ∧ ∀ k, k < v.size → cs[k]? = v[k]?
theorem RowT.below {X X' : World} {g : Nat} {v : Array Value} (h : RowT X g v) (hb : Below X.heap.size X X') : RowT X' g v := by
  obtain ⟨cs, h1, h2⟩ := h
  exact ⟨cs, (hb.block _ (Array.getElem?_eq_some_iff.1 h1).1).trans h1, h2⟩
theorem RowT.of {X : World} {g : Nat} {v : Array Value} (h : X.heap[g]? = some (.cells v 46 (0, 0))) : RowT X g v := ⟨v, h, fun _ _ => rfl⟩
/-- An array of a time's fields, boxed. -/
structure JnI (w X : World) (b g c8 : Nat) (v : Array Value) : Prop where
  box : X.heap[b]? = some (.cells #[.int .i64 5, .float .f64 0, .string ⟨#[]⟩, .slice (some ⟨g, 0, none⟩) 8 c8, .slice none 0 0] 46 (0, 0))
  row : RowT X g v
  is : Below w.heap.size w X
theorem JnI.below {w X X' : World} {b g c8 : Nat} {v : Array Value} (h : JnI w X b g c8 v) (hb : Below X.heap.size X X') : JnI w X' b g c8 v :=
  ⟨(hb.block _ (Array.getElem?_eq_some_iff.1 h.box).1).trans h.box, h.row.below hb, h.is.trans (hb.mono h.is.size)⟩
theorem JnI.drew {w X : World} {b g c8 : Nat} {v : Array Value} (h : JnI w X b g c8 v) : JnI w X.drew b g c8 v := h.below ((Below.refl _ X).drew)
theorem JnI.list {w X : World} {b g c8 : Nat} {v : Array Value} (h : JnI w X b g c8 v) : X.cell? ⟨b, 3, none⟩ = some (.slice (some ⟨g, 0, none⟩) 8 c8) := by simp [World.cell?, h.box]
theorem JnI.cell {w X : World} {b g c8 : Nat} {v : Array Value} (h : JnI w X b g c8 v) (k : Nat) (x : Value) (e : v[k]? = some x) : X.cell? ⟨g, k, none⟩ = some x := by
  obtain ⟨cs, h1, h2⟩ := h.row
  unfold World.cell?
  rw [h1]
  exact (h2 k (Array.getElem?_eq_some_iff.1 e).1).trans e
theorem JnI.two {w X : World} {b g c8 : Nat} {y m d h i : Int} {s : Nat} {wd yd : Int} (hJ : JnI w X b g c8 (tmCells y m d h i s wd yd)) : X.cell? ⟨b, 3, none⟩ = some (.slice (some ⟨g, 0, none⟩) 8 c8) ∧ X.cell? ⟨g, 26, none⟩ = some (.float .f64 s) := ⟨hJ.list, hJ.cell 26 _ rfl⟩
set_option maxRecDepth 100000 in
theorem whole_0 (w X : World) (b g c8 : Nat) (_hc8 : 8 ≤ c8) (y m d h i : Int) (s : Nat) (wd yd : Int) (hn : -9007199254740992 ≤ y ∧ y ≤ 9007199254740992) (hJ : JnI w X b g c8 (tmCells y m d h i s wd yd)) : Calls Tryz.prog 99 #[.int .i64 0, .pointer (some ⟨b, 0, none⟩)] X fun e w' => e = .returned (.int .i64 y) ∧ X = w' := by
  have h1 := hJ.list
  have h2 := hJ.cell 1 (.float .f64 (fI y)) rfl
  have HI := Lib.hid (fun w => Int_fI y hn.1 hn.2 w)
  clear hJ hn
  go_enter Tryz.func99, Tryz.ntmps99
  go_wp2_with fail
  refine (HI.out _).mono ?_
  rintro e w' ⟨rfl, rfl⟩
  go_wp2_with fail
  go_ret
  exact ⟨rfl, rfl⟩
set_option maxRecDepth 100000 in
theorem whole_1 (w X : World) (b g c8 : Nat) (_hc8 : 8 ≤ c8) (y m d h i : Int) (s : Nat) (wd yd : Int) (hn : -9007199254740992 ≤ m ∧ m ≤ 9007199254740992) (hJ : JnI w X b g c8 (tmCells y m d h i s wd yd)) : Calls Tryz.prog 99 #[.int .i64 1, .pointer (some ⟨b, 0, none⟩)] X fun e w' => e = .returned (.int .i64 m) ∧ X = w' := by
  have h1 := hJ.list
  have h2 := hJ.cell 6 (.float .f64 (fI m)) rfl
  have HI := Lib.hid (fun w => Int_fI m hn.1 hn.2 w)
  clear hJ hn
  go_enter Tryz.func99, Tryz.ntmps99
  go_wp2_with fail
  refine (HI.out _).mono ?_
  rintro e w' ⟨rfl, rfl⟩
  go_wp2_with fail
  go_ret
  exact ⟨rfl, rfl⟩
set_option maxRecDepth 100000 in
theorem whole_2 (w X : World) (b g c8 : Nat) (_hc8 : 8 ≤ c8) (y m d h i : Int) (s : Nat) (wd yd : Int) (hn : -9007199254740992 ≤ d ∧ d ≤ 9007199254740992) (hJ : JnI w X b g c8 (tmCells y m d h i s wd yd)) : Calls Tryz.prog 99 #[.int .i64 2, .pointer (some ⟨b, 0, none⟩)] X fun e w' => e = .returned (.int .i64 d) ∧ X = w' := by
  have h1 := hJ.list
  have h2 := hJ.cell 11 (.float .f64 (fI d)) rfl
  have HI := Lib.hid (fun w => Int_fI d hn.1 hn.2 w)
  clear hJ hn
  go_enter Tryz.func99, Tryz.ntmps99
  go_wp2_with fail
  refine (HI.out _).mono ?_
  rintro e w' ⟨rfl, rfl⟩
  go_wp2_with fail
  go_ret
  exact ⟨rfl, rfl⟩
set_option maxRecDepth 100000 in
theorem whole_3 (w X : World) (b g c8 : Nat) (_hc8 : 8 ≤ c8) (y m d h i : Int) (s : Nat) (wd yd : Int) (hn : -9007199254740992 ≤ h ∧ h ≤ 9007199254740992) (hJ : JnI w X b g c8 (tmCells y m d h i s wd yd)) : Calls Tryz.prog 99 #[.int .i64 3, .pointer (some ⟨b, 0, none⟩)] X fun e w' => e = .returned (.int .i64 h) ∧ X = w' := by
  have h1 := hJ.list
  have h2 := hJ.cell 16 (.float .f64 (fI h)) rfl
  have HI := Lib.hid (fun w => Int_fI h hn.1 hn.2 w)
  clear hJ hn
  go_enter Tryz.func99, Tryz.ntmps99
  go_wp2_with fail
  refine (HI.out _).mono ?_
  rintro e w' ⟨rfl, rfl⟩
  go_wp2_with fail
  go_ret
  exact ⟨rfl, rfl⟩
set_option maxRecDepth 100000 in
theorem whole_4 (w X : World) (b g c8 : Nat) (_hc8 : 8 ≤ c8) (y m d h i : Int) (s : Nat) (wd yd : Int) (hn : -9007199254740992 ≤ i ∧ i ≤ 9007199254740992) (hJ : JnI w X b g c8 (tmCells y m d h i s wd yd)) : Calls Tryz.prog 99 #[.int .i64 4, .pointer (some ⟨b, 0, none⟩)] X fun e w' => e = .returned (.int .i64 i) ∧ X = w' := by
  have h1 := hJ.list
  have h2 := hJ.cell 21 (.float .f64 (fI i)) rfl
  have HI := Lib.hid (fun w => Int_fI i hn.1 hn.2 w)
  clear hJ hn
  go_enter Tryz.func99, Tryz.ntmps99
  go_wp2_with fail
  refine (HI.out _).mono ?_
  rintro e w' ⟨rfl, rfl⟩
  go_wp2_with fail
  go_ret
  exact ⟨rfl, rfl⟩
theorem enters_joined : ∀ args w, (callFunc 99 args).run Tryz.prog w = .ok (.enter 99 args) w := enters_of Tryz.func99 (by kernel_rfl) rfl
set_option maxRecDepth 100000 in
set_option maxHeartbeats 4000000 in
theorem joined_any (g c8 : Nat) (hc8 : 8 ≤ c8) (y m d h i : Int) (s : Nat) (wd yd : Int) (hy : -9007199254740992 ≤ y ∧ y ≤ 9007199254740992) (hm : -9007199254740992 ≤ m ∧ m ≤ 9007199254740992) (hd : -9007199254740992 ≤ d ∧ d ≤ 9007199254740992) (hh : -9007199254740992 ≤ h ∧ h ≤ 9007199254740992) (hi : -9007199254740992 ≤ i ∧ i ≤ 9007199254740992)
    (a c : Int) (hJn : ∀ w, Calls Tryz.prog 53 #[.agg (timeV y m d h i s 0 0)] w fun e w' => e = .returned (.tuple #[.int .i64 a, .int .i64 c]) ∧ Below w.heap.size w w') (w : World) (hg : RowT w g (tmCells y m d h i s wd yd)) :
    Calls Tryz.prog 48 #[.agg #[.int .i64 5, .float .f64 0, .string ⟨#[]⟩, .slice (some ⟨g, 0, none⟩) 8 c8, .slice none 0 0]] w fun e w' => e = .returned (.tuple #[.int .i64 a, .int .i64 c]) ∧ Below w.heap.size w w' := by
  have hsf := run_store_float Tryz.prog
  have HJ := Lib.hid hJn
  have HG := Lib.hid hg
  have H0 := Lib.hid (fun w X b g hJ => whole_0 w X b g c8 hc8 y m d h i s wd yd hy hJ)
  have H1 := Lib.hid (fun w X b g hJ => whole_1 w X b g c8 hc8 y m d h i s wd yd hm hJ)
  have H2 := Lib.hid (fun w X b g hJ => whole_2 w X b g c8 hc8 y m d h i s wd yd hd hJ)
  have H3 := Lib.hid (fun w X b g hJ => whole_3 w X b g c8 hc8 y m d h i s wd yd hh hJ)
  have H4 := Lib.hid (fun w X b g hJ => whole_4 w X b g c8 hc8 y m d h i s wd yd hi hJ)
  have hen := enters_joined
  clear hJn hg hy hm hd hh hi
  unfold timeV at HJ
  go_enter Tryz.func48, Tryz.ntmps48
  go_wp2_with fail
  have hj : JnI w (w.alloc (.cells #[.int .i64 5, .float .f64 0, .string ⟨#[]⟩, .slice (some ⟨g, 0, none⟩) 8 c8, .slice none 0 0] 46)) w.heap.size g c8 (tmCells y m d h i s wd yd) := ⟨heap_alloc_new w _, HG.out.below ((Below.refl w.heap.size w).alloc (Nat.le_refl _) _), (Below.refl w.heap.size w).alloc (Nat.le_refl _) _⟩
  generalize w.alloc (.cells #[.int .i64 5, .float .f64 0, .string ⟨#[]⟩, .slice (some ⟨g, 0, none⟩) 8 c8, .slice none 0 0] 46) = X0 at hj ⊢
  have HF := Lib.hid hj.drew
  clear hj HG
  go_region_held3 (fun W => W.cell? ⟨w.heap.size, 3, none⟩ = some (.slice (some ⟨g, 0, none⟩) 8 c8) ∧ W.cell? ⟨g, 26, none⟩ = some (.float .f64 s)) (first | with_reducible exact HF.out.two)
    (first
    | (go_at_call 99; (with_reducible refine (H0.out _ _ _ _ HF.out).mono ?_); rintro e w1 ⟨rfl, rfl⟩)
    | (go_at_call 99; (with_reducible refine (H1.out _ _ _ _ HF.out).mono ?_); rintro e w1 ⟨rfl, rfl⟩)
    | (go_at_call 99; (with_reducible refine (H2.out _ _ _ _ HF.out).mono ?_); rintro e w1 ⟨rfl, rfl⟩)
    | (go_at_call 99; (with_reducible refine (H3.out _ _ _ _ HF.out).mono ?_); rintro e w1 ⟨rfl, rfl⟩)
    | (go_at_call 99; (with_reducible refine (H4.out _ _ _ _ HF.out).mono ?_); rintro e w1 ⟨rfl, rfl⟩)
    | (go_at_call 53; (with_reducible refine (HJ.out _).mono ?_); rintro e w1 ⟨rfl, hb⟩; have hd2 := HF.out.below hb; clear HF; have HF := Lib.hid hd2; clear hd2 hb))
  all_goals (try go_wp2_with fail)
  all_goals exact bodyPost_ret (v := .tuple #[.int .i64 a, .int .i64 c]) (by simp [results, Tryz.results48, go_sem]) rfl ⟨rfl, by first | exact HF.out.is | exact HF.out.drew.is⟩
end Go.Proofs.YtpjncnoejdaplaaGreatDoor

/- Small functions of values: names, truth, what is bare. -/
import Derived.Test.YtdlighmnlcklnaaGreatDoorUBase
import Derived.Test.YtdlighmnlcklnaaGreatDoorUFmt
import Derived.Test.YtdlighmnlcklnaaGreatDoorUClone
import Derived.Test.YtdlighmnlcklnaaGreatDoorUWriteB
namespace Go.Proofs.YtdlighmnlcklnaaGreatDoor
open Go Go.RowKit

def nameV (k : Int) : ByteArray := if k = 0 then ⟨#[110, 117, 108, 108]⟩ else if k = 1 ∨ k = 2 then ⟨#[98, 111, 111, 108, 101, 97, 110]⟩ else if k = 3 then ⟨#[110, 117, 109, 98, 101, 114]⟩ else if k = 4 then ⟨#[115, 116, 114, 105, 110, 103]⟩ else if k = 5 then ⟨#[97, 114, 114, 97, 121]⟩ else ⟨#[111, 98, 106, 101, 99, 116]⟩
set_option maxRecDepth 100000 in
set_option maxHeartbeats 2000000 in
theorem Name_any (v : V) (a1 : Option Addr) (n1 c1 : Nat) (a2 : Option Addr) (n2 c2 : Nat) (h0 : 0 ≤ v.k) (h6 : v.k ≤ 6) (w : World) :
    Calls Tryz.prog 24 #[.agg (cellsV v (.slice a1 n1 c1) (.slice a2 n2 c2))] w fun e w' => e = .returned (.string (nameV v.k)) ∧ Below w.heap.size w w' := by
  unfold cellsV
  obtain ⟨k, hk⟩ : ∃ k, v.k = k := ⟨_, rfl⟩
  rw [hk] at h0 h6 ⊢
  have hc : k = 0 ∨ k = 1 ∨ k = 2 ∨ k = 3 ∨ k = 4 ∨ k = 5 ∨ k = 6 := by omega
  clear hk
  rcases hc with rfl | rfl | rfl | rfl | rfl | rfl | rfl
  all_goals
    go_enter Tryz.func24, Tryz.ntmps24
    go_wp2_with fail
    go_ret
    exact ⟨rfl, (Below.refl _ _).alloc (Nat.le_refl _) _⟩
def truthV (k : Int) : Bool := decide (1 < k)
set_option maxRecDepth 100000 in
set_option maxHeartbeats 2000000 in
theorem Truth_any (v : V) (a1 : Option Addr) (n1 c1 : Nat) (a2 : Option Addr) (n2 c2 : Nat) (h0 : 0 ≤ v.k) (h6 : v.k ≤ 6) (w : World) :
    Calls Tryz.prog 23 #[.agg (cellsV v (.slice a1 n1 c1) (.slice a2 n2 c2))] w fun e w' => e = .returned (.bool (truthV v.k)) ∧ Below w.heap.size w w' := by
  unfold cellsV
  obtain ⟨k, hk⟩ : ∃ k, v.k = k := ⟨_, rfl⟩
  rw [hk] at h0 h6 ⊢
  have hc : k = 0 ∨ k = 1 ∨ k = 2 ∨ k = 3 ∨ k = 4 ∨ k = 5 ∨ k = 6 := by omega
  clear hk
  rcases hc with rfl | rfl | rfl | rfl | rfl | rfl | rfl
  all_goals
    go_enter Tryz.func23, Tryz.ntmps23
    go_wp2_with fail
    go_ret
    exact ⟨rfl, (Below.refl _ _).alloc (Nat.le_refl _) _⟩
end Go.Proofs.YtdlighmnlcklnaaGreatDoor
namespace Go.Proofs.YtdlighmnlcklnaaGreatDoor
open Go Go.RowKit

/-- Values with nothing in them. -/
def leafV (k : Int) (f : Nat) (s : ByteArray) : V := .mk k f s [] []
def numV (f : Nat) : V := leafV 3 f ⟨#[]⟩
def strV (s : ByteArray) : V := leafV 4 0 s
def nilS : Value := .slice none 0 0
theorem caps_nil : Caps nilS := fun A n c e => by cases e; exact ⟨Nat.le_refl _, by unfold maxLen; omega, fun _ => rfl⟩
theorem leaf_atP (w : World) (p : Nat → Prop) (m : Nat) (k : Int) (f : Nat) (s : ByteArray) (hk : -9223372036854775808 ≤ k ∧ k ≤ 9223372036854775807) (hf : f < 18446744073709551616) (hs : s.size ≤ 1048576) : AtP w p (m + 1) (leafV k f s) nilS nilS :=
  ⟨⟨hk.1, hk.2, hf, hs, Nat.zero_le _, Nat.zero_le _, Nat.zero_le _⟩, ⟨⟨none, 0, rfl, fun h => absurd h (by simp [leafV, V.ks])⟩, caps_nil⟩, caps_nil, none, 0, 0, 0, rfl, fun h => absurd h (by simp [leafV, V.l]), fun i h => absurd h (by simp [leafV, V.l])⟩
theorem leaf_at (w : World) (B m : Nat) (k : Int) (f : Nat) (s : ByteArray) (hk : -9223372036854775808 ≤ k ∧ k ≤ 9223372036854775807) (hf : f < 18446744073709551616) (hs : s.size ≤ 1048576) : At w B (m + 1) (leafV k f s) nilS nilS := leaf_atP w _ m k f s hk hf hs
set_option maxHeartbeats 400000 in
theorem Num_any (f : Nat) (w : World) : Calls Tryz.prog 14 #[.float .f64 f] w fun e w' => e = .returned (.agg #[.int .i64 3, .float .f64 f, .string ⟨#[]⟩, .slice none 0 0, .slice none 0 0]) ∧ Below w.heap.size w w' := by
  have hsf := run_store_float Tryz.prog
  obtain ⟨i0, hi0, hz0, hz1, hz2⟩ := info_parts infoVal
  go_enter Tryz.func14, Tryz.ntmps14
  go_wp2_with fail
  refine bodyPost_ret_by (results_cell_row rfl _ _ w.heap.size 27 _ (0, 0) _ rfl (heap_alloc_new w _) Tryz.underlying27 rfl (by rw [hi0]; simp [hz1])) rfl ?_
  exact ⟨rfl, (Below.refl w.heap.size w).alloc (Nat.le_refl _) _⟩
set_option maxHeartbeats 400000 in
theorem Str_any (s : ByteArray) (w : World) : Calls Tryz.prog 15 #[.string s] w fun e w' => e = .returned (.agg #[.int .i64 4, .float .f64 0, .string s, .slice none 0 0, .slice none 0 0]) ∧ Below w.heap.size w w' := by
  have hsf := run_store_float Tryz.prog
  obtain ⟨i0, hi0, hz0, hz1, hz2⟩ := info_parts infoVal
  go_enter Tryz.func15, Tryz.ntmps15
  go_wp2_with fail
  refine bodyPost_ret_by (results_cell_row rfl _ _ w.heap.size 27 _ (0, 0) _ rfl (heap_alloc_new w _) Tryz.underlying27 rfl (by rw [hi0]; simp [hz1])) rfl ?_
  exact ⟨rfl, (Below.refl w.heap.size w).alloc (Nat.le_refl _) _⟩
/-- {s: f} -/
def objV (s : ByteArray) (f : Nat) : V := .mk 6 0 ⟨#[]⟩ [numV f] [s]
theorem set5_below0 {B R : Nat} {w w' : World} (h : Below B w w') (q : B ≤ R) (x0 x1 x2 x3 x4 : Value) : Below B w (set5 w' R x0 x1 x2 x3 x4) := by
  unfold set5
  exact ((((h.setCell (p := ⟨R, 0, none⟩) q x0).setCell (p := ⟨R, 1, none⟩) q x1).setCell (p := ⟨R, 2, none⟩) q x2).setCell (p := ⟨R, 3, none⟩) q x3).setCell (p := ⟨R, 4, none⟩) q x4
theorem obj_at {W : World} {g1 g2 n : Nat} {s : ByteArray} {f : Nat} (hn : W.heap.size = n) (h2 : W.heap[g2]? = some (.cells #[.string s] 9 (0, 0))) (h1 : W.heap[g1]? = some (.cells #[.int .i64 3, .float .f64 f, .string ⟨#[]⟩, .slice none 0 0, .slice none 0 0] 27 (0, 0)))
    (hs : s.size ≤ 1000) (hf : f < 18446744073709551616) (hg : g2 < n ∧ g1 < n) : At W W.heap.size 2 (objV s f) (.slice (some ⟨g1, 0, none⟩) 1 1) (.slice (some ⟨g2, 0, none⟩) 1 1) := by
  obtain ⟨c0, c1, c2, c3, c4, _⟩ := row5 h1
  have hcap : ∀ g, Caps (.slice (some ⟨g, 0, none⟩) 1 1) := fun g A n c e => by cases e; exact ⟨Nat.le_refl _, by unfold maxLen; omega, fun e => by cases e⟩
  refine ⟨⟨by simp [objV, V.k], by simp [objV, V.k], by simp [objV, V.f], by show (⟨#[]⟩ : ByteArray).size ≤ _; decide, by simp [objV, V.l], by simp [objV, V.ks], by simp [objV, V.ks, keysLen]; omega⟩, ⟨⟨some ⟨g2, 0, none⟩, 1, rfl, fun _ => ⟨_, rfl, by show g2 < W.heap.size; omega, ?_⟩⟩, hcap _⟩, hcap _, some ⟨g1, 0, none⟩, 1, g1, 0, rfl, fun _ => ⟨rfl, by show g1 < W.heap.size; omega⟩, ?_⟩
  · intro j u hu
    have hu : ([Value.string s] : List Value)[j]? = some u := hu
    cases j with
    | zero => simp at hu; subst hu; simp [Addr.add, World.cell?, h2]
    | succ j => simp at hu
  · intro i hi
    have hi : i < 1 := hi
    obtain rfl : i = 0 := by omega
    exact ⟨nilS, nilS, ⟨c0, c1, c2, c3, c4⟩, leaf_at W _ 0 3 f ⟨#[]⟩ (by omega) hf (by decide)⟩
set_option maxRecDepth 100000 in
set_option maxHeartbeats 1000000 in
theorem object_any (s : ByteArray) (f : Nat) (hs : s.size ≤ 1000) (hf : f < 18446744073709551616) (w : World) :
    Calls Tryz.prog 13 #[.string s, .float .f64 f] w fun e w' => ∃ g1 g2, e = .returned (.agg (cellsV (objV s f) (.slice (some ⟨g1, 0, none⟩) 1 1) (.slice (some ⟨g2, 0, none⟩) 1 1))) ∧ At w' w'.heap.size 2 (objV s f) (.slice (some ⟨g1, 0, none⟩) 1 1) (.slice (some ⟨g2, 0, none⟩) 1 1) ∧ Below w.heap.size w w' := by
  have hsf := run_store_float Tryz.prog
  obtain ⟨i0, hi0, hz0, hz1, hz2⟩ := info_parts infoVal
  go_enter Tryz.func13, Tryz.ntmps13
  go_wp2_with fail
  refine (Num_any f _).mono ?_
  rintro e w1 ⟨rfl, hb1⟩
  have hr0 := (hb1.block w.heap.size (by simp; omega)).trans (row_alloc3 (heap_alloc_new w (Obj.cells #[.int .i64 0, .float .f64 0, .string ⟨#[]⟩, .slice none 0 0, .slice none 0 0] 27)) (Obj.cells #[.string s] 9))
  have hk := heap_alloc_new (w.alloc (Obj.cells #[.int .i64 0, .float .f64 0, .string ⟨#[]⟩, .slice none 0 0, .slice none 0 0] 27)) (Obj.cells #[.string s] 9)
  rw [World.size_alloc] at hk
  have hr1 := (hb1.block (w.heap.size + 1) (by simp)).trans hk
  have hz : w.heap.size + 2 ≤ w1.heap.size := by have := hb1.size; simp at this; omega
  have hb : Below w.heap.size w w1 := (((Below.refl w.heap.size w).alloc (Nat.le_refl _) _).alloc (by simp) _).trans (hb1.mono (by simp; omega))
  obtain ⟨c0, c1, c2, c3, c4, y0, y1, y2, y3, y4⟩ := row5 (row_alloc3 hr0 (Obj.cells #[.int .i64 3, .float .f64 f, .string ⟨#[]⟩, .slice none 0 0, .slice none 0 0] 27))
  have R0 := Lib.hid hr0
  have R1 := Lib.hid hr1
  have HB := Lib.hid hb
  have hne : ¬ (w.heap.size = w1.heap.size) := by omega
  clear hr0 hr1 hk hb1 hb
  go_wp2_with fail
  have hq0 := row_alloc3 R0.out (Obj.cells #[.int .i64 3, .float .f64 f, .string ⟨#[]⟩, .slice none 0 0, .slice none 0 0] 27)
  have hq1 := row_alloc3 R1.out (Obj.cells #[.int .i64 3, .float .f64 f, .string ⟨#[]⟩, .slice none 0 0, .slice none 0 0] 27)
  have hq2 := heap_alloc_new w1 (Obj.cells #[.int .i64 3, .float .f64 f, .string ⟨#[]⟩, .slice none 0 0, .slice none 0 0] 27)
  have hbb := HB.out.alloc HB.out.size (Obj.cells #[.int .i64 3, .float .f64 f, .string ⟨#[]⟩, .slice none 0 0, .slice none 0 0] 27)
  have hrow := set5_row hq0 (.int .i64 6) (.float .f64 0) (.string ⟨#[]⟩) (.slice (some ⟨w1.heap.size, 0, none⟩) 1 1) (.slice (some ⟨w.heap.size + 1, 0, none⟩) 1 1)
  refine bodyPost_ret_by (results_cell_row rfl _ _ w.heap.size 27 _ (0, 0) _ rfl hrow Tryz.underlying27 rfl (by rw [hi0]; simp [hz1])) rfl ?_
  have hsz : (set5 (w1.alloc (Obj.cells #[.int .i64 3, .float .f64 f, .string ⟨#[]⟩, .slice none 0 0, .slice none 0 0] 27)) w.heap.size (.int .i64 6) (.float .f64 0) (.string ⟨#[]⟩) (.slice (some ⟨w1.heap.size, 0, none⟩) 1 1) (.slice (some ⟨w.heap.size + 1, 0, none⟩) 1 1)).heap.size = w1.heap.size + 1 := by rw [set5_size]; simp
  refine ⟨w1.heap.size, w.heap.size + 1, rfl, ?_, set5_below0 hbb (Nat.le_refl _) ..⟩
  have hs1 := (set5_other (w := w1.alloc (Obj.cells #[.int .i64 3, .float .f64 f, .string ⟨#[]⟩, .slice none 0 0, .slice none 0 0] 27)) (R := w.heap.size) (k := w.heap.size + 1) (by omega) (.int .i64 6) (.float .f64 0) (.string ⟨#[]⟩) (.slice (some ⟨w1.heap.size, 0, none⟩) 1 1) (.slice (some ⟨w.heap.size + 1, 0, none⟩) 1 1)).trans hq1
  have hs2 := (set5_other (w := w1.alloc (Obj.cells #[.int .i64 3, .float .f64 f, .string ⟨#[]⟩, .slice none 0 0, .slice none 0 0] 27)) (R := w.heap.size) (k := w1.heap.size) (by omega) (.int .i64 6) (.float .f64 0) (.string ⟨#[]⟩) (.slice (some ⟨w1.heap.size, 0, none⟩) 1 1) (.slice (some ⟨w.heap.size + 1, 0, none⟩) 1 1)).trans hq2
  exact obj_at hsz hs1 hs2 hs hf (by omega)
end Go.Proofs.YtdlighmnlcklnaaGreatDoor
namespace Go.Proofs.YtdlighmnlcklnaaGreatDoor
open Go Go.RowKit

theorem results_two_rows {P : Program} {fn : Func} {p q : Tmp} {ty tz : TypeId} (h : fn.results = #[.cell p ty, .cell q tz]) (tmps : Array Value) (w : World) (g1 g2 : Nat) (t1 t2 : TypeId) (cs1 cs2 : Array Value) (fr1 fr2 : Nat × Nat) (d1 d2 : TypeDesc)
    (hp : tmps.getD p undef = .pointer (some ⟨g1, 0, none⟩)) (hq : tmps.getD q undef = .pointer (some ⟨g2, 0, none⟩)) (hg1 : w.heap[g1]? = some (.cells cs1 t1 fr1)) (hg2 : w.heap[g2]? = some (.cells cs2 t2 fr2))
    (hu1 : P.underlying ty = some d1) (hd1 : (match d1 with | .struct _ | .array _ _ => true | _ => false) = true) (hi1 : (P.info? ty).map (·.size) = some cs1.size)
    (hu2 : P.underlying tz = some d2) (hd2 : (match d2 with | .struct _ | .array _ _ => true | _ => false) = true) (hi2 : (P.info? tz).map (·.size) = some cs2.size) :
    (results fn tmps).run P w = .ok (.tuple #[.agg cs1, .agg cs2]) w := by
  have hp' : tmps[p]?.getD undef = .pointer (some ⟨g1, 0, none⟩) := by simpa using hp
  have hq' : tmps[q]?.getD undef = .pointer (some ⟨g2, 0, none⟩) := by simpa using hq
  simp [results, h, hp', hq', asAddr, run_loadVar_row w g1 t1 ty cs1 fr1 d1 hg1 hu1 hd1 hi1, run_loadVar_row w g2 t2 tz cs2 fr2 d2 hg2 hu2 hd2 hi2]
theorem results_row_tmp {P : Program} {fn : Func} {p q : Tmp} {ty : TypeId} (h : fn.results = #[.cell p ty, .tmp q]) (tmps : Array Value) (w : World) (g1 : Nat) (t1 : TypeId) (cs1 : Array Value) (fr1 : Nat × Nat) (d1 : TypeDesc) (x : Value)
    (hp : tmps.getD p undef = .pointer (some ⟨g1, 0, none⟩)) (hq : tmps.getD q undef = x) (hg1 : w.heap[g1]? = some (.cells cs1 t1 fr1))
    (hu1 : P.underlying ty = some d1) (hd1 : (match d1 with | .struct _ | .array _ _ => true | _ => false) = true) (hi1 : (P.info? ty).map (·.size) = some cs1.size) :
    (results fn tmps).run P w = .ok (.tuple #[.agg cs1, x]) w := by
  have hp' : tmps[p]?.getD undef = .pointer (some ⟨g1, 0, none⟩) := by simpa using hp
  have hq' : tmps[q]?.getD undef = x := by simpa using hq
  simp [results, h, hp', hq', asAddr, run_loadVar_row w g1 t1 ty cs1 fr1 d1 hg1 hu1 hd1 hi1]
theorem infoErr : (Tryz.prog.info? 31).map (·.size) = some 6 := by kernel_rfl
theorem sizeVal : (Tryz.prog.info? 27).map (·.size) = some 5 := by kernel_rfl
theorem two_new (w : World) (o1 o2 : Obj) : ((w.alloc o1).alloc o2).heap[w.heap.size]? = some o1 ∧ ((w.alloc o1).alloc o2).heap[w.heap.size + 1]? = some o2 := by
  refine ⟨row_alloc3 (heap_alloc_new w o1) o2, ?_⟩
  have := heap_alloc_new (w.alloc o1) o2
  rw [World.size_alloc] at this
  exact this
def zeroA : Array Value := #[.int .i64 0, .float .f64 0, .string ⟨#[]⟩, .slice none 0 0, .slice none 0 0]
def errA (s : ByteArray) : Array Value := #[.bool true, .int .i64 4, .float .f64 0, .string s, .slice none 0 0, .slice none 0 0]
def okA : Array Value := #[.bool false, .int .i64 0, .float .f64 0, .string ⟨#[]⟩, .slice none 0 0, .slice none 0 0]
set_option maxRecDepth 100000 in
set_option maxHeartbeats 1000000 in
theorem failed_any (s : ByteArray) (w : World) : Calls Tryz.prog 55 #[.string s] w fun e w' => e = .returned (.tuple #[.agg zeroA, .agg (errA s)]) ∧ Below w.heap.size w w' := by
  have hsf := run_store_float Tryz.prog
  go_enter Tryz.func55, Tryz.ntmps55
  go_wp2_with fail
  obtain ⟨q1, q2⟩ := two_new w (.cells zeroA 27) (.cells (errA s) 31)
  refine bodyPost_ret_by (results_two_rows rfl _ _ w.heap.size (w.heap.size + 1) 27 31 zeroA (errA s) (0, 0) (0, 0) _ _ rfl rfl q1 q2 Tryz.underlying27 rfl sizeVal Tryz.underlying31 rfl infoErr) rfl ?_
  exact ⟨rfl, ((Below.refl w.heap.size w).alloc (Nat.le_refl _) _).alloc (by simp) _⟩
def tellB (m : Nat) (v : V) : ByteArray := nameV v.k ++ ⟨#[32, 40]⟩ ++ ⟨(textV m v).toArray⟩ ++ ⟨#[41]⟩
theorem name_size (k : Int) : (nameV k).size ≤ 7 := by
  unfold nameV
  split; decide
  split; decide
  split; decide
  split; decide
  split <;> decide
set_option maxRecDepth 100000 in
set_option maxHeartbeats 2000000 in
theorem told_any (m : Nat) (v : V) (d : Nat) (lv kv : Value) (w : World) (hN : NumW w) (h : At w w.heap.size m v lv kv) (hr : rightV d v = true) (hlen : (textV m v).length ≤ 24) (h0 : 0 ≤ v.k) (h6 : v.k ≤ 6) :
    Calls Tryz.prog 117 #[.agg (cellsV v lv kv)] w fun e w' => e = .returned (.string (tellB m v)) ∧ Below w.heap.size w w' := by
  have hsf := run_store_float Tryz.prog
  have hsh := fun W (hb : Below w.heap.size w W) => Short_fit m v d lv kv W (hN.below hb) (At.more hb.size _ _ _ _ (h.below hb)) hr hlen
  obtain ⟨a1, n1, k1, a2, n2, k2, rfl, rfl⟩ := h.slices
  have hna := fun W => Name_any v a1 n1 k1 a2 n2 k2 h0 h6 W
  unfold cellsV at hsh hna ⊢
  unfold tellB
  obtain ⟨T, hT⟩ : ∃ T, textV m v = T := ⟨_, rfl⟩
  obtain ⟨N, hNm⟩ : ∃ N, nameV v.k = N := ⟨_, rfl⟩
  rw [hT] at hsh ⊢
  rw [hNm] at hna ⊢
  have hNs : N.size ≤ 7 := by rw [← hNm]; exact name_size _
  have hTs : T.length ≤ 24 := by rw [← hT]; exact hlen
  have sm1 := fun W : World => run_string_add_sum (P := Tryz.prog) W N ⟨#[32, 40]⟩ (by show N.size + 2 ≤ _; omega)
  have sm2 := fun W : World => run_string_add_sum (P := Tryz.prog) W (N ++ ⟨#[32, 40]⟩) ⟨T.toArray⟩ (by rw [ByteArray.size_append]; show N.size + 2 + T.toArray.size ≤ _; rw [List.size_toArray]; omega)
  have sm3 := fun W : World => run_string_add_sum (P := Tryz.prog) W (N ++ ⟨#[32, 40]⟩ ++ ⟨T.toArray⟩) ⟨#[41]⟩ (by rw [ByteArray.size_append, ByteArray.size_append]; show N.size + 2 + T.toArray.size + 1 ≤ _; rw [List.size_toArray]; omega)
  have HSH := Lib.hid hsh
  have HNA := Lib.hid hna
  clear hsh hna hT hNm h hN hr hlen h0 h6
  go_enter Tryz.func117, Tryz.ntmps117
  go_wp2_with fail
  have hr0 := heap_alloc_new w (Obj.cells #[.int .i64 v.k, .float .f64 v.f, .string v.s, .slice a1 n1 k1, .slice a2 n2 k2] 27)
  have hb0 := (Below.refl w.heap.size w).alloc (Nat.le_refl _) (Obj.cells #[.int .i64 v.k, .float .f64 v.f, .string v.s, .slice a1 n1 k1, .slice a2 n2 k2] 27)
  have hz0 : w.heap.size < (w.alloc (Obj.cells #[.int .i64 v.k, .float .f64 v.f, .string v.s, .slice a1 n1 k1, .slice a2 n2 k2] 27)).heap.size := by simp
  generalize w.alloc (Obj.cells #[.int .i64 v.k, .float .f64 v.f, .string v.s, .slice a1 n1 k1, .slice a2 n2 k2] 27) = W0 at hr0 hb0 hz0 ⊢
  obtain ⟨c0, c1, c2, c3, c4, _⟩ := row5' hr0
  have HR := Lib.hid hr0
  have HB := Lib.hid hb0.drew
  have HZ := Lib.hid hz0
  clear hr0 hb0 hz0
  go_region_with (first
    | (go_at_call 24; refine (HNA.out _).mono ?_; rintro e w2 ⟨rfl, hb2⟩; obtain ⟨x0, x1, x2, x3, x4, _⟩ := row5' ((hb2.block _ (by first | exact HZ.out | exact Nat.lt_of_lt_of_le HZ.out hb3.size)).trans (by first | exact HR.out | exact (hb3.block _ HZ.out).trans HR.out)))
    | (go_at_call 152; refine (HSH.out _ (by first | exact HB.out | exact HB.out.trans (hb2.mono HB.out.size))).mono ?_; rintro e w3 ⟨rfl, hb3⟩; obtain ⟨y0, y1, y2, y3, y4, _⟩ := row5' ((hb3.block _ (by first | exact HZ.out | exact Nat.lt_of_lt_of_le HZ.out hb2.size)).trans (by first | exact HR.out | exact (hb2.block _ HZ.out).trans HR.out))))
  all_goals
    go_wp2_with fail
    go_ret
    first
      | exact ⟨rfl, HB.out.trans ((hb2.mono HB.out.size).trans (hb3.mono (Nat.le_trans HB.out.size hb2.size)))⟩
      | exact ⟨rfl, HB.out.trans ((hb3.mono HB.out.size).trans (hb2.mono (Nat.le_trans HB.out.size hb3.size)))⟩
end Go.Proofs.YtdlighmnlcklnaaGreatDoor
namespace Go.Proofs.YtdlighmnlcklnaaGreatDoor
open Go Go.RowKit

/-- Four blocks of a call's own: two arguments', two results'. -/
structure R4 (n : Nat) (A B C D : Array Value) (W : World) : Prop where
  r0 : W.heap[n]? = some (.cells A 27 (0, 0))
  r1 : W.heap[n + 1]? = some (.cells B 27 (0, 0))
  r2 : W.heap[n + 2]? = some (.cells C 27 (0, 0))
  r3 : W.heap[n + 3]? = some (.cells D 31 (0, 0))
theorem R4.lt {n : Nat} {A B C D : Array Value} {W : World} (h : R4 n A B C D W) : n + 3 < W.heap.size := (Array.getElem?_eq_some_iff.1 h.r3).1
theorem R4.below {n : Nat} {A B C D : Array Value} {W W' : World} (h : R4 n A B C D W) (hb : Below W.heap.size W W') : R4 n A B C D W' := by
  have := h.lt
  exact ⟨(hb.block _ (by omega)).trans h.r0, (hb.block _ (by omega)).trans h.r1, (hb.block _ (by omega)).trans h.r2, (hb.block _ (by omega)).trans h.r3⟩
theorem R4.new (w : World) (A B C D : Array Value) : R4 w.heap.size A B C D ((((w.alloc (.cells A 27)).alloc (.cells B 27)).alloc (.cells C 27)).alloc (.cells D 31)) := by
  have e1 := heap_alloc_new (w.alloc (.cells A 27)) (.cells B 27)
  have e2 := heap_alloc_new ((w.alloc (.cells A 27)).alloc (.cells B 27)) (.cells C 27)
  have e3 := heap_alloc_new (((w.alloc (.cells A 27)).alloc (.cells B 27)).alloc (.cells C 27)) (.cells D 31)
  rw [World.size_alloc] at e1
  rw [World.size_alloc, World.size_alloc] at e2
  rw [World.size_alloc, World.size_alloc, World.size_alloc] at e3
  exact ⟨row_alloc3 (row_alloc3 (row_alloc3 (heap_alloc_new w _) _) _) _, row_alloc3 (row_alloc3 e1 _) _, row_alloc3 e2 _, e3⟩
theorem four_below (w : World) (o1 o2 o3 o4 : Obj) : Below w.heap.size w ((((w.alloc o1).alloc o2).alloc o3).alloc o4) :=
  ((((Below.refl w.heap.size w).alloc (Nat.le_refl _) o1).alloc (by simp) o2).alloc (by simp; omega) o3).alloc (by simp; omega) o4
/-- What the two results' cells hold, and that they may be written. -/
theorem R4.outs {n : Nat} {A B : Array Value} {W : World} (h : R4 n A B zeroA okA W) :
    (W.cell? ⟨n + 2, 0, none⟩ = some (.int .i64 0) ∧ W.cell? ⟨n + 2, 1, none⟩ = some (.float .f64 0) ∧ W.cell? ⟨n + 2, 2, none⟩ = some (.string ⟨#[]⟩) ∧ W.cell? ⟨n + 2, 3, none⟩ = some (.slice none 0 0) ∧ W.cell? ⟨n + 2, 4, none⟩ = some (.slice none 0 0)) ∧
    (W.cell? ⟨n + 3, 0, none⟩ = some (.bool false) ∧ W.cell? ⟨n + 3, 1, none⟩ = some (.int .i64 0) ∧ W.cell? ⟨n + 3, 2, none⟩ = some (.float .f64 0) ∧ W.cell? ⟨n + 3, 3, none⟩ = some (.string ⟨#[]⟩) ∧ W.cell? ⟨n + 3, 4, none⟩ = some (.slice none 0 0) ∧ W.cell? ⟨n + 3, 5, none⟩ = some (.slice none 0 0)) ∧
    (∀ q, W.frozen? ⟨n + 2, q, none⟩ = false) ∧ (∀ q, W.frozen? ⟨n + 3, q, none⟩ = false) := by
  refine ⟨?_, ?_, fun q => ?_, fun q => ?_⟩
  · simp [World.cell?, h.r2, zeroA]
  · simp [World.cell?, h.r3, okA]
  · simp [World.frozen?, h.r2]
  · simp [World.frozen?, h.r3]
def set6 (w : World) (R : Nat) (x0 x1 x2 x3 x4 x5 : Value) : World := (set5 w R x0 x1 x2 x3 x4).setCell ⟨R, 5, none⟩ x5
theorem set6_row {w : World} {R : Nat} {u0 u1 u2 u3 u4 u5 : Value} {t : TypeId} (h : w.heap[R]? = some (.cells #[u0, u1, u2, u3, u4, u5] t (0, 0))) (x0 x1 x2 x3 x4 x5 : Value) : (set6 w R x0 x1 x2 x3 x4 x5).heap[R]? = some (.cells #[x0, x1, x2, x3, x4, x5] t (0, 0)) :=
  row_setAt (row_setAt (row_setAt (row_setAt (row_setAt (row_setAt h 0 x0) 1 x1) 2 x2) 3 x3) 4 x4) 5 x5
theorem set6_other {w : World} {R k : Nat} (h : k ≠ R) (x0 x1 x2 x3 x4 x5 : Value) : (set6 w R x0 x1 x2 x3 x4 x5).heap[k]? = w.heap[k]? := by
  unfold set6
  rw [setCell_other_block _ h, set5_other h]
theorem set6_below {B R : Nat} {w w' : World} (h : Below B w w') (q : B ≤ R) (x0 x1 x2 x3 x4 x5 : Value) : Below B w (set6 w' R x0 x1 x2 x3 x4 x5) := (set5_below0 h q ..).setCell (p := ⟨R, 5, none⟩) q _
/-- The end of a call that answers a value and an error: both stored, both read. -/
theorem R4.ends {n : Nat} {A B : Array Value} {W w : World} (h : R4 n A B zeroA okA W) (hb : Below n w W) (x0 x1 x2 x3 x4 y0 y1 y2 y3 y4 y5 : Value) :
    (set6 (set5 W (n + 2) x0 x1 x2 x3 x4) (n + 3) y0 y1 y2 y3 y4 y5).heap[n + 2]? = some (.cells #[x0, x1, x2, x3, x4] 27 (0, 0)) ∧
    (set6 (set5 W (n + 2) x0 x1 x2 x3 x4) (n + 3) y0 y1 y2 y3 y4 y5).heap[n + 3]? = some (.cells #[y0, y1, y2, y3, y4, y5] 31 (0, 0)) ∧
    Below n w (set6 (set5 W (n + 2) x0 x1 x2 x3 x4) (n + 3) y0 y1 y2 y3 y4 y5) :=
  ⟨(set6_other (by omega) ..).trans (set5_row h.r2 ..), set6_row ((set5_other (by omega) ..).trans h.r3) .., set6_below (set5_below0 hb (by omega) ..) (by omega) ..⟩
theorem R4.ends2 {n : Nat} {A B : Array Value} {W w : World} (h : R4 n A B zeroA okA W) (hb : Below n w W) (x0 x1 x2 x3 x4 y0 y1 y2 y3 y4 y5 : Value) :
    (set5 (set6 W (n + 3) y0 y1 y2 y3 y4 y5) (n + 2) x0 x1 x2 x3 x4).heap[n + 2]? = some (.cells #[x0, x1, x2, x3, x4] 27 (0, 0)) ∧
    (set5 (set6 W (n + 3) y0 y1 y2 y3 y4 y5) (n + 2) x0 x1 x2 x3 x4).heap[n + 3]? = some (.cells #[y0, y1, y2, y3, y4, y5] 31 (0, 0)) ∧
    Below n w (set5 (set6 W (n + 3) y0 y1 y2 y3 y4 y5) (n + 2) x0 x1 x2 x3 x4) :=
  ⟨set5_row ((set6_other (by omega) ..).trans h.r2) .., (set5_other (by omega) ..).trans (set6_row h.r3 ..), set5_below0 (set6_below hb (by omega) ..) (by omega) ..⟩
set_option maxRecDepth 100000 in
set_option maxHeartbeats 8000000 in
theorem refused_any (ta tb : ByteArray) (what : ByteArray) (A B : Array Value) (k1 k2 : Int) (f1 f2 : Nat) (s1 s2 : ByteArray) (a1 a2 a3 a4 : Option Addr) (n1 n2 n3 n4 c1 c2 c3 c4 : Nat) (w : World)
    (hA : A = #[.int .i64 k1, .float .f64 f1, .string s1, .slice a1 n1 c1, .slice a2 n2 c2]) (hB : B = #[.int .i64 k2, .float .f64 f2, .string s2, .slice a3 n3 c3, .slice a4 n4 c4])
    (hta : ∀ W, Below w.heap.size w W → Calls Tryz.prog 117 #[.agg A] W fun e w' => e = .returned (.string ta) ∧ Below W.heap.size W w')
    (htb : ∀ W, Below w.heap.size w W → Calls Tryz.prog 117 #[.agg B] W fun e w' => e = .returned (.string tb) ∧ Below W.heap.size W w')
    (la : ta.size ≤ 1000) (lb : tb.size ≤ 1000) (lw : what.size ≤ 1000) :
    Calls Tryz.prog 88 #[.agg A, .agg B, .string what] w fun e w' => e = .returned (.tuple #[.agg zeroA, .agg (errA (ta ++ ⟨#[32, 97, 110, 100, 32]⟩ ++ tb ++ ⟨#[32]⟩ ++ what))]) ∧ Below w.heap.size w w' := by
  have hsf := run_store_float Tryz.prog
  have HTA := Lib.hid hta
  have HTB := Lib.hid htb
  have sm1 := fun W : World => run_string_add_sum (P := Tryz.prog) W ta ⟨#[32, 97, 110, 100, 32]⟩ (by show ta.size + 5 ≤ _; omega)
  have sm2 := fun W : World => run_string_add_sum (P := Tryz.prog) W (ta ++ ⟨#[32, 97, 110, 100, 32]⟩) tb (by rw [ByteArray.size_append]; show ta.size + 5 + tb.size ≤ _; omega)
  have sm3 := fun W : World => run_string_add_sum (P := Tryz.prog) W (ta ++ ⟨#[32, 97, 110, 100, 32]⟩ ++ tb) ⟨#[32]⟩ (by rw [ByteArray.size_append, ByteArray.size_append]; show ta.size + 5 + tb.size + 1 ≤ _; omega)
  have sm4 := fun W : World => run_string_add_sum (P := Tryz.prog) W (ta ++ ⟨#[32, 97, 110, 100, 32]⟩ ++ tb ++ ⟨#[32]⟩) what (by rw [ByteArray.size_append, ByteArray.size_append, ByteArray.size_append]; show ta.size + 5 + tb.size + 1 + what.size ≤ _; omega)
  obtain ⟨S, hS⟩ : ∃ S, ta ++ ⟨#[32, 97, 110, 100, 32]⟩ ++ tb ++ ⟨#[32]⟩ ++ what = S := ⟨_, rfl⟩
  rw [hS] at sm4 ⊢
  have HFA := Lib.hid (fun W => failed_any S W)
  subst hA
  subst hB
  clear hta htb hS
  go_enter Tryz.func88, Tryz.ntmps88
  go_wp2_with fail
  have hr := R4.new w #[.int .i64 k1, .float .f64 f1, .string s1, .slice a1 n1 c1, .slice a2 n2 c2] #[.int .i64 k2, .float .f64 f2, .string s2, .slice a3 n3 c3, .slice a4 n4 c4] zeroA okA
  have hb := four_below w (.cells #[.int .i64 k1, .float .f64 f1, .string s1, .slice a1 n1 c1, .slice a2 n2 c2] 27) (.cells #[.int .i64 k2, .float .f64 f2, .string s2, .slice a3 n3 c3, .slice a4 n4 c4] 27) (.cells zeroA 27) (.cells okA 31)
  have he : ((((w.alloc (.cells #[.int .i64 k1, .float .f64 f1, .string s1, .slice a1 n1 c1, .slice a2 n2 c2] 27)).alloc (.cells #[.int .i64 k2, .float .f64 f2, .string s2, .slice a3 n3 c3, .slice a4 n4 c4] 27)).alloc (.cells zeroA 27)).alloc (.cells okA 31)) = ((((w.alloc (.cells #[.int .i64 k1, .float .f64 f1, .string s1, .slice a1 n1 c1, .slice a2 n2 c2] 27)).alloc (.cells #[.int .i64 k2, .float .f64 f2, .string s2, .slice a3 n3 c3, .slice a4 n4 c4] 27)).alloc (.cells #[.int .i64 0, .float .f64 0, .string ⟨#[]⟩, .slice none 0 0, .slice none 0 0] 27)).alloc (.cells #[.bool false, .int .i64 0, .float .f64 0, .string ⟨#[]⟩, .slice none 0 0, .slice none 0 0] 31)) := rfl
  rw [he] at hr hb
  clear he
  generalize ((((w.alloc (.cells #[.int .i64 k1, .float .f64 f1, .string s1, .slice a1 n1 c1, .slice a2 n2 c2] 27)).alloc (.cells #[.int .i64 k2, .float .f64 f2, .string s2, .slice a3 n3 c3, .slice a4 n4 c4] 27)).alloc (.cells #[.int .i64 0, .float .f64 0, .string ⟨#[]⟩, .slice none 0 0, .slice none 0 0] 27)).alloc (.cells #[.bool false, .int .i64 0, .float .f64 0, .string ⟨#[]⟩, .slice none 0 0, .slice none 0 0] 31)) = W0 at hr hb ⊢
  obtain ⟨x0, x1, x2, x3, x4, _⟩ := row5' hr.r0
  obtain ⟨y0, y1, y2, y3, y4, _⟩ := row5' hr.r1
  have HR := Lib.hid (hr.below (Below.refl _ _).drew)
  have HB := Lib.hid hb.drew
  clear hr hb
  go_region_with (first
    | (go_at_call 117; (with_reducible refine (HTA.out _ HB.out).mono ?_); rintro e w2 ⟨rfl, hb2⟩; have R2 := Lib.hid (HR.out.below hb2); have B2 := Lib.hid (HB.out.trans (hb2.mono HB.out.size)); clear hb2; obtain ⟨z0, z1, z2, z3, z4, _⟩ := row5' R2.out.r1)
    | (go_at_call 117; (with_reducible refine (HTB.out w2 B2.out).mono ?_); rintro e w3 ⟨rfl, hb3⟩; have R3 := Lib.hid (R2.out.below hb3); have B3 := Lib.hid (B2.out.trans (hb3.mono B2.out.size)); clear hb3)
    | (go_at_call 55; (with_reducible refine (HFA.out w3).mono ?_); rintro e w4 ⟨rfl, hb4⟩; have R4F := Lib.hid (R3.out.below hb4); have B4 := Lib.hid (B3.out.trans (hb4.mono B3.out.size)); clear hb4; obtain ⟨⟨u0, u1, u2, u3, u4⟩, ⟨v0, v1, v2, v3, v4, v5⟩, g1, g2⟩ := R4F.out.outs; unfold zeroA errA))
  all_goals
    go_wp2_with fail
    first
      | (obtain ⟨q1, q2, q3⟩ := R4F.out.ends B4.out (.int .i64 0) (.float .f64 0) (.string ⟨#[]⟩) (.slice none 0 0) (.slice none 0 0) (.bool true) (.int .i64 4) (.float .f64 0) (.string S) (.slice none 0 0) (.slice none 0 0)
         refine bodyPost_ret_by (results_two_rows rfl _ _ (w.heap.size + 2) (w.heap.size + 3) 27 31 _ _ (0, 0) (0, 0) _ _ rfl rfl q1 q2 Tryz.underlying27 rfl sizeVal Tryz.underlying31 rfl infoErr) rfl ?_
         exact ⟨rfl, q3⟩)
      | (obtain ⟨q1, q2, q3⟩ := R4F.out.ends2 B4.out (.int .i64 0) (.float .f64 0) (.string ⟨#[]⟩) (.slice none 0 0) (.slice none 0 0) (.bool true) (.int .i64 4) (.float .f64 0) (.string S) (.slice none 0 0) (.slice none 0 0)
         refine bodyPost_ret_by (results_two_rows rfl _ _ (w.heap.size + 2) (w.heap.size + 3) 27 31 _ _ (0, 0) (0, 0) _ _ rfl rfl q1 q2 Tryz.underlying27 rfl sizeVal Tryz.underlying31 rfl infoErr) rfl ?_
         exact ⟨rfl, q3⟩)
end Go.Proofs.YtdlighmnlcklnaaGreatDoor

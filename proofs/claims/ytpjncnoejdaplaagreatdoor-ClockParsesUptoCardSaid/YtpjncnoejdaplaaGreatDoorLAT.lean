/- A text read as a time: the program's. -/
import Derived.Test.YtpjncnoejdaplaaGreatDoorLAS
import Derived.Deep.WholeRow
namespace Go.Proofs.YtpjncnoejdaplaaGreatDoor
open Go Go.RowKit Go.Shelf

theorem time_any (rb : Nat) (eb : Addr) (st : St) (hI : Inv st) (w : World) (hE : ErrW w eb) (h : RdAt w rb st) : Calls Tryz.prog 83 #[.pointer (some ⟨rb, 1, none⟩)] w fun e w' => TimePost eb w (timeS st) e w' := by
  by_cases ht : 0 < st.t 12
  · exact time_secs rb eb st hI ht w h
  · cases hd : dayS st with
    | none => exact time_none rb eb st hI ht hd w hE h
    | some k => exact time_some rb eb st hI ht k hd w hE h
theorem followT_len (sem : Nat → Option (St → Option St)) (hs : ∀ c f, sem c = some f → StepOK f) (n : Nat) : ∀ (l : List UInt8), l.length ≤ n → ∀ st s, followT sem l st = some s → s.left.length ≤ st.left.length := by
  induction n with
  | zero =>
    intro l hn st s h
    obtain rfl := List.length_eq_zero_iff.1 (Nat.le_zero.1 hn)
    rw [show followT sem [] st = some st by simp [followT]] at h
    obtain rfl := Option.some.inj h
    exact Nat.le_refl _
  | succ n ih =>
    intro l hn st s h
    cases l with
    | nil =>
      rw [show followT sem [] st = some st by simp [followT]] at h
      obtain rfl := Option.some.inj h
      exact Nat.le_refl _
    | cons c r =>
      rw [List.length_cons] at hn
      by_cases hc : c = 37
      · subst hc
        cases r with
        | nil => simp [followT] at h
        | cons d r =>
          rw [followT_dir] at h
          cases e : sem d.toNat with
          | none => rw [e] at h; cases h
          | some f =>
            rw [e] at h
            simp only at h
            cases e2 : f st with
            | none => rw [e2] at h; cases h
            | some x =>
              rw [e2] at h
              rw [List.length_cons] at hn
              exact Nat.le_trans (ih r (by omega) x s h) (hs _ _ e st x e2).1
      · rw [followT_lit _ _ _ _ hc] at h
        cases e2 : literalS c st with
        | none => rw [e2] at h; cases h
        | some x =>
          rw [e2] at h
          exact Nat.le_trans (ih r (by omega) x s h) (literalS_ok c st x e2).1
theorem sizeRd : (Tryz.prog.info? 129).map (·.size) = some 28 := by kernel_rfl
theorem rd_store1 (w : World) (s : ByteArray) : (Instr.storeAt 129 (.pointer (some ⟨w.heap.size, 0, none⟩)) (.agg #[.string s, .int .i64 0, .int .i64 0, .int .i64 0, .int .i64 0, .int .i64 0, .int .i64 0, .int .i64 0, .int .i64 0, .int .i64 0, .int .i64 0, .int .i64 0, .int .i64 0, .int .i64 0, .int .i64 0, .int .i64 0, .int .i64 0, .int .i64 0, .int .i64 0, .int .i64 0, .int .i64 0, .int .i64 0, .int .i64 0, .int .i64 0, .int .i64 0, .int .i64 0, .int .i64 0, .int .i64 0])).run Tryz.prog (w.alloc (.cells #[.string ⟨#[]⟩, .int .i64 0, .int .i64 0, .int .i64 0, .int .i64 0, .int .i64 0, .int .i64 0, .int .i64 0, .int .i64 0, .int .i64 0, .int .i64 0, .int .i64 0, .int .i64 0, .int .i64 0, .int .i64 0, .int .i64 0, .int .i64 0, .int .i64 0, .int .i64 0, .int .i64 0, .int .i64 0, .int .i64 0, .int .i64 0, .int .i64 0, .int .i64 0, .int .i64 0, .int .i64 0, .int .i64 0] 129)) = .ok () (w.alloc (.cells #[.string s, .int .i64 0, .int .i64 0, .int .i64 0, .int .i64 0, .int .i64 0, .int .i64 0, .int .i64 0, .int .i64 0, .int .i64 0, .int .i64 0, .int .i64 0, .int .i64 0, .int .i64 0, .int .i64 0, .int .i64 0, .int .i64 0, .int .i64 0, .int .i64 0, .int .i64 0, .int .i64 0, .int .i64 0, .int .i64 0, .int .i64 0, .int .i64 0, .int .i64 0, .int .i64 0, .int .i64 0] 129)) := by
  refine run_storeAt_new w _ _ _ ?_ rfl (by simp [Value.oneCell'])
  exact sizeRd
theorem rd_store2 (w : World) (s : ByteArray) : (storeVar 129 ⟨w.heap.size, 0, none⟩ (.agg #[.string s, .int .i64 0, .int .i64 0, .int .i64 0, .int .i64 0, .int .i64 0, .int .i64 0, .int .i64 0, .int .i64 0, .int .i64 0, .int .i64 0, .int .i64 0, .int .i64 0, .int .i64 0, .int .i64 0, .int .i64 0, .int .i64 0, .int .i64 0, .int .i64 0, .int .i64 0, .int .i64 0, .int .i64 0, .int .i64 0, .int .i64 0, .int .i64 0, .int .i64 0, .int .i64 0, .int .i64 0])).run Tryz.prog (w.alloc (.cells #[.string ⟨#[]⟩, .int .i64 0, .int .i64 0, .int .i64 0, .int .i64 0, .int .i64 0, .int .i64 0, .int .i64 0, .int .i64 0, .int .i64 0, .int .i64 0, .int .i64 0, .int .i64 0, .int .i64 0, .int .i64 0, .int .i64 0, .int .i64 0, .int .i64 0, .int .i64 0, .int .i64 0, .int .i64 0, .int .i64 0, .int .i64 0, .int .i64 0, .int .i64 0, .int .i64 0, .int .i64 0, .int .i64 0] 129)) = .ok () (w.alloc (.cells #[.string s, .int .i64 0, .int .i64 0, .int .i64 0, .int .i64 0, .int .i64 0, .int .i64 0, .int .i64 0, .int .i64 0, .int .i64 0, .int .i64 0, .int .i64 0, .int .i64 0, .int .i64 0, .int .i64 0, .int .i64 0, .int .i64 0, .int .i64 0, .int .i64 0, .int .i64 0, .int .i64 0, .int .i64 0, .int .i64 0, .int .i64 0, .int .i64 0, .int .i64 0, .int .i64 0, .int .i64 0] 129)) := by
  refine run_storeVar_new w _ _ _ ?_ rfl (by simp [Value.oneCell'])
  exact sizeRd
theorem rd_store3 (w : World) (s : ByteArray) : (storeCells ⟨w.heap.size, 0, none⟩ #[.string s, .int .i64 0, .int .i64 0, .int .i64 0, .int .i64 0, .int .i64 0, .int .i64 0, .int .i64 0, .int .i64 0, .int .i64 0, .int .i64 0, .int .i64 0, .int .i64 0, .int .i64 0, .int .i64 0, .int .i64 0, .int .i64 0, .int .i64 0, .int .i64 0, .int .i64 0, .int .i64 0, .int .i64 0, .int .i64 0, .int .i64 0, .int .i64 0, .int .i64 0, .int .i64 0, .int .i64 0].toList 0).run Tryz.prog (w.alloc (.cells #[.string ⟨#[]⟩, .int .i64 0, .int .i64 0, .int .i64 0, .int .i64 0, .int .i64 0, .int .i64 0, .int .i64 0, .int .i64 0, .int .i64 0, .int .i64 0, .int .i64 0, .int .i64 0, .int .i64 0, .int .i64 0, .int .i64 0, .int .i64 0, .int .i64 0, .int .i64 0, .int .i64 0, .int .i64 0, .int .i64 0, .int .i64 0, .int .i64 0, .int .i64 0, .int .i64 0, .int .i64 0, .int .i64 0] 129)) = .ok () (w.alloc (.cells #[.string s, .int .i64 0, .int .i64 0, .int .i64 0, .int .i64 0, .int .i64 0, .int .i64 0, .int .i64 0, .int .i64 0, .int .i64 0, .int .i64 0, .int .i64 0, .int .i64 0, .int .i64 0, .int .i64 0, .int .i64 0, .int .i64 0, .int .i64 0, .int .i64 0, .int .i64 0, .int .i64 0, .int .i64 0, .int .i64 0, .int .i64 0, .int .i64 0, .int .i64 0, .int .i64 0, .int .i64 0] 129)) := by
  refine run_storeCells_new w _ _ _ ?_ rfl (by simp [Value.oneCell'])
  exact sizeRd
theorem rd_build (w : World) (s : ByteArray) : (Instr.build 129 #[(0, .string s)]).run Tryz.prog w = .ok (.agg #[.string s, .int .i64 0, .int .i64 0, .int .i64 0, .int .i64 0, .int .i64 0, .int .i64 0, .int .i64 0, .int .i64 0, .int .i64 0, .int .i64 0, .int .i64 0, .int .i64 0, .int .i64 0, .int .i64 0, .int .i64 0, .int .i64 0, .int .i64 0, .int .i64 0, .int .i64 0, .int .i64 0, .int .i64 0, .int .i64 0, .int .i64 0, .int .i64 0, .int .i64 0, .int .i64 0, .int .i64 0]) w :=
  run_build w _ _ _ (by kernel_rfl)
theorem rd_built (s : ByteArray) : Tryz.prog.built 129 [(0, .string s)] = some #[.string s, .int .i64 0, .int .i64 0, .int .i64 0, .int .i64 0, .int .i64 0, .int .i64 0, .int .i64 0, .int .i64 0, .int .i64 0, .int .i64 0, .int .i64 0, .int .i64 0, .int .i64 0, .int .i64 0, .int .i64 0, .int .i64 0, .int .i64 0, .int .i64 0, .int .i64 0, .int .i64 0, .int .i64 0, .int .i64 0, .int .i64 0, .int .i64 0, .int .i64 0, .int .i64 0, .int .i64 0] := by kernel_rfl
theorem rd_wpb {ops : Array Oper} {rest : List Oper} {o : Oper} {a : Act} {w : World} {Q : Exit → Act → World → Prop} (hg : o.guard = none) (parts : Array (Nat × Operand)) (ho : o.op = .build 129 parts) (s : ByteArray)
    (hp : (parts.map fun (i, x) => (i, a.eval x)).toList = [(0, .string s)]) (h : wpList Tryz.prog ops Q rest (a.put o.dst (.agg #[.string s, .int .i64 0, .int .i64 0, .int .i64 0, .int .i64 0, .int .i64 0, .int .i64 0, .int .i64 0, .int .i64 0, .int .i64 0, .int .i64 0, .int .i64 0, .int .i64 0, .int .i64 0, .int .i64 0, .int .i64 0, .int .i64 0, .int .i64 0, .int .i64 0, .int .i64 0, .int .i64 0, .int .i64 0, .int .i64 0, .int .i64 0, .int .i64 0, .int .i64 0, .int .i64 0, .int .i64 0])) w) : wpList Tryz.prog ops Q (o :: rest) a w :=
  wpList_build hg _ parts ho (by rw [hp, rd_built]; rfl) (by rw [hp, rd_built]; exact h)
theorem rd_wps {ops : Array Oper} {rest : List Oper} {o : Oper} {a : Act} {W : World} {Q : Exit → Act → World → Prop} (hg : o.guard = none) (x y : Operand) (ho : o.op = .store 129 x y) (s : ByteArray) (g : Nat) (hgW : W.heap.size = g)
    (hx : a.eval x = .pointer (some ⟨g, 0, none⟩)) (hy : a.eval y = .agg #[.string s, .int .i64 0, .int .i64 0, .int .i64 0, .int .i64 0, .int .i64 0, .int .i64 0, .int .i64 0, .int .i64 0, .int .i64 0, .int .i64 0, .int .i64 0, .int .i64 0, .int .i64 0, .int .i64 0, .int .i64 0, .int .i64 0, .int .i64 0, .int .i64 0, .int .i64 0, .int .i64 0, .int .i64 0, .int .i64 0, .int .i64 0, .int .i64 0, .int .i64 0, .int .i64 0, .int .i64 0]) (h : wpList Tryz.prog ops Q rest (a.put o.dst undef) (W.alloc (.cells #[.string s, .int .i64 0, .int .i64 0, .int .i64 0, .int .i64 0, .int .i64 0, .int .i64 0, .int .i64 0, .int .i64 0, .int .i64 0, .int .i64 0, .int .i64 0, .int .i64 0, .int .i64 0, .int .i64 0, .int .i64 0, .int .i64 0, .int .i64 0, .int .i64 0, .int .i64 0, .int .i64 0, .int .i64 0, .int .i64 0, .int .i64 0, .int .i64 0, .int .i64 0, .int .i64 0, .int .i64 0] 129))) : wpList Tryz.prog ops Q (o :: rest) a (W.alloc (.cells #[.string ⟨#[]⟩, .int .i64 0, .int .i64 0, .int .i64 0, .int .i64 0, .int .i64 0, .int .i64 0, .int .i64 0, .int .i64 0, .int .i64 0, .int .i64 0, .int .i64 0, .int .i64 0, .int .i64 0, .int .i64 0, .int .i64 0, .int .i64 0, .int .i64 0, .int .i64 0, .int .i64 0, .int .i64 0, .int .i64 0, .int .i64 0, .int .i64 0, .int .i64 0, .int .i64 0, .int .i64 0, .int .i64 0] 129)) := by
  subst hgW
  refine wpList_store_row hg _ x y ho W.heap.size _ hx hy _ _ (heap_alloc_last W _) ?_ rfl (by simp [Value.oneCell']) ?_
  · exact sizeRd
  · rw [World.setRow_alloc_new]
    exact h
theorem rd_first (w : World) (s : ByteArray) : RdAt (w.alloc (.cells #[.string s, .int .i64 0, .int .i64 0, .int .i64 0, .int .i64 0, .int .i64 0, .int .i64 0, .int .i64 0, .int .i64 0, .int .i64 0, .int .i64 0, .int .i64 0, .int .i64 0, .int .i64 0, .int .i64 0, .int .i64 0, .int .i64 0, .int .i64 0, .int .i64 0, .int .i64 0, .int .i64 0, .int .i64 0, .int .i64 0, .int .i64 0, .int .i64 0, .int .i64 0, .int .i64 0, .int .i64 0] 129)) w.heap.size (st0 s.data.toList) := by
  unfold RdAt rdCells
  rw [heap_alloc_new]
  rfl
/-- The result's cells, still zero. -/
def ResZ (w X : World) : Prop := X.heap[w.heap.size]? = some (.cells #[.int .i64 0, .int .i64 0, .int .i64 0, .int .i64 0, .int .i64 0, .float .f64 0, .int .i64 0, .int .i64 0] 24 (0, 0)) ∧ Below w.heap.size w X
theorem ResZ.below {w X X' : World} (h : ResZ w X) (hb : Below X.heap.size X X') : ResZ w X' := ⟨(hb.block _ (Array.getElem?_eq_some_iff.1 h.1).1).trans h.1, h.2.trans (hb.mono h.2.size)⟩
theorem ResZ.grown {w X X' : World} {rb : Nat} (h : ResZ w X) (hr : w.heap.size < rb) (hg : X.grownBy X' (some rb)) : ResZ w X' :=
  ⟨(hg.block _ (Array.getElem?_eq_some_iff.1 h.1).1 (fun e => by have := Option.some.inj e; omega)).trans h.1, h.2.trans (below_of_grown hg (by omega) h.2.size)⟩
set_option maxRecDepth 100000 in
set_option maxHeartbeats 4000000 in
theorem timeIn_any (s f : ByteArray) (hs : s.size ≤ 70368744177664) (hf : f.size ≤ 1048576) (eb : Addr) (w : World) (hE : ErrW w eb) (h6 : 6 ≤ w.heap.size) : Calls Tryz.prog 30 #[.string s, .string f] w fun e w' => TimePost eb w (parseS s.data.toList f.data.toList) e w' := by
  have hsf := run_store_float Tryz.prog
  have HS : Hid (StB (st0 s.data.toList)) := Lib.hid ⟨by show s.data.toList.length ≤ _; simpa using hs, Int.le_refl _, by show (0 : Int) ≤ _; omega⟩
  have HFS := Lib.hid hf
  have HE := Lib.hid hE
  have H6 := Lib.hid h6
  clear hE h6 hs hf
  go_enter Tryz.func30, Tryz.ntmps30
  go_upto_region 1 with fail
  go_cut [6] from 8 to 9 (fun v wx => v = .pointer (some ⟨w.heap.size + 1, 0, none⟩) ∧ Hid (ResZ w wx) ∧ Hid (RdAt wx (w.heap.size + 1) (st0 s.data.toList)) ∧ Hid (w.heap.size + 1 < wx.heap.size))
  case first =>
    have hz0 : ResZ w (w.alloc (.cells #[.int .i64 0, .int .i64 0, .int .i64 0, .int .i64 0, .int .i64 0, .float .f64 0, .int .i64 0, .int .i64 0] 24)) := ⟨heap_alloc_new w _, (Below.refl w.heap.size w).alloc (Nat.le_refl _) _⟩
    have hz1 := Lib.hid (hz0.below ((Below.refl _ _).alloc (Nat.le_refl _) (.cells #[.string s, .int .i64 0, .int .i64 0, .int .i64 0, .int .i64 0, .int .i64 0, .int .i64 0, .int .i64 0, .int .i64 0, .int .i64 0, .int .i64 0, .int .i64 0, .int .i64 0, .int .i64 0, .int .i64 0, .int .i64 0, .int .i64 0, .int .i64 0, .int .i64 0, .int .i64 0, .int .i64 0, .int .i64 0, .int .i64 0, .int .i64 0, .int .i64 0, .int .i64 0, .int .i64 0, .int .i64 0] 129)))
    have hr1 := rd_first (w.alloc (.cells #[.int .i64 0, .int .i64 0, .int .i64 0, .int .i64 0, .int .i64 0, .float .f64 0, .int .i64 0, .int .i64 0] 24)) s
    have hn1 : Hid (w.heap.size + 1 < ((w.alloc (.cells #[.int .i64 0, .int .i64 0, .int .i64 0, .int .i64 0, .int .i64 0, .float .f64 0, .int .i64 0, .int .i64 0] 24)).alloc (.cells #[.string s, .int .i64 0, .int .i64 0, .int .i64 0, .int .i64 0, .int .i64 0, .int .i64 0, .int .i64 0, .int .i64 0, .int .i64 0, .int .i64 0, .int .i64 0, .int .i64 0, .int .i64 0, .int .i64 0, .int .i64 0, .int .i64 0, .int .i64 0, .int .i64 0, .int .i64 0, .int .i64 0, .int .i64 0, .int .i64 0, .int .i64 0, .int .i64 0, .int .i64 0, .int .i64 0, .int .i64 0] 129)).heap.size) := Lib.hid (by simp)
    rw [World.size_alloc] at hr1
    have hr2 := Lib.hid hr1
    clear hz0 hr1
    go_wp2_with (first | (refine rd_wpb rfl _ rfl s rfl ?_) | (refine rd_wps rfl _ _ rfl s (w.heap.size + 1) (by simp) rfl rfl ?_))
    go_meet
    exact ⟨rfl, hz1, hr2, hn1⟩
  case rest =>
  obtain ⟨rfl, HZ, HR, HN0⟩ := hcut
  obtain ⟨rb, hrb⟩ : ∃ rb, w.heap.size + 1 = rb := ⟨_, rfl⟩
  have hr1 := HR.out
  have hn1 := HN0.out
  rw [hrb] at hr1 hn1 ⊢
  clear HR HN0
  have HR := Lib.hid hr1
  have HN := Lib.hid hn1
  have HRB := Lib.hid hrb
  clear hr1 hn1 hrb
  go_wp2_with fail
  refine (readers_any _).mono ?_
  rintro e w2 ⟨⟨mb, hmb, rfl, hsp⟩, hb⟩
  have HSP := Lib.hid hsp
  have HMB := Lib.hid hmb
  have HZ2 := Lib.hid (HZ.out.below hb)
  have HR2 := Lib.hid (HR.out.below hb)
  clear hsp hmb hb HZ HR
  go_wp2_with fail
  refine (reading_any f HFS.out _ mb 60 rb HN.out (by have := H6.out; have := HRB.out; omega) (by have := HMB.out; have := HN.out; omega) eb (st0 s.data.toList) HS.out (by show (0 : Int) ≤ _; omega) _ (HE.out.below HZ2.out.2) HR2.out HSP.out).mono ?_
  cases hfo : followT stepA f.data.toList (st0 s.data.toList) with
  | none =>
    have HT : Hid (parseS s.data.toList f.data.toList = none) := Lib.hid (by unfold parseS; rw [hfo])
    clear hfo
    rintro e w3 ⟨⟨rfl, st, hr⟩, hg⟩
    have HZ3 := Lib.hid (HZ2.out.grown (by have := HRB.out; omega) hg)
    clear hr hg HZ2 HR2 HSP
    unfold errV
    obtain ⟨p0, p1, p2, p3, p4, p5, p6, p7⟩ := row8 HZ3.out.1
    obtain ⟨v0, v1, v2, v3, v4, v5, v6, v7⟩ := ice8 HZ3.out.1
    go_wp2_with fail
    refine bodyPost_ret_by (results_row_tmp rfl _ _ w.heap.size 24 _ (0, 0) _ (errV eb) rfl rfl (set8_row HZ3.out.1 ..) Tryz.underlying24 rfl sizeTime) rfl ?_
    rw [HT.out]
    exact ⟨rfl, set8_below HZ3.out.2 (Nat.le_refl _) ..⟩
  | some st =>
    have HI : Hid (Inv (skipS blankB st)) := Lib.hid ((followT_inv stepA stepA_inv _ _ (Nat.le_refl _) _ st (inv_st0 _) hfo).left _)
    have HL : Hid (st.left.length ≤ 70368744177664) := Lib.hid (Nat.le_trans (followT_len stepA stepA_1 _ _ (Nat.le_refl _) _ st hfo) HS.out.len)
    have HT : Hid (parseS s.data.toList f.data.toList = if (skipS blankB st).left = [] then timeS (skipS blankB st) else none) := Lib.hid (by unfold parseS; rw [hfo])
    clear hfo
    rintro e w3 ⟨⟨rfl, hr⟩, hg⟩
    have HZ3 := Lib.hid (HZ2.out.grown (by have := HRB.out; omega) hg)
    have HR3 := Lib.hid hr
    clear hr hg HZ2 HR2 HSP
    go_wp2_with fail
    refine (skip_any 82 blankB blank_any (enters_of Tryz.func82 (by kernel_rfl) rfl) rb st HL.out _ HR3.out).mono ?_
    rintro e w4 ⟨rfl, hr, hg⟩
    have HZ4 := Lib.hid (HZ3.out.grown (by have := HRB.out; omega) hg)
    obtain ⟨st2, hst2⟩ : ∃ st2, skipS blankB st = st2 := ⟨_, rfl⟩
    rw [hst2] at hr HI HT
    have HR4 := Lib.hid hr
    have hc := hr.cell0
    clear hr hg HZ3 HR3 hst2 HL
    obtain ⟨S, hS⟩ : ∃ S : ByteArray, (⟨st2.left.toArray⟩ : ByteArray) = S := ⟨_, rfl⟩
    have HLS : Hid (S.data.toList = st2.left) := Lib.hid (by rw [← hS])
    rw [hS] at hc
    clear hS
    by_cases hnil : st2.left = []
    · have hem : S.toList.isEmpty = true := by rw [ByteArray.toList_eq, HLS.out, hnil]; rfl
      have HF : Hid (parseS s.data.toList f.data.toList = timeS st2) := Lib.hid (by rw [HT.out, if_pos hnil])
      clear hnil
      go_wp2_with fail
      refine (time_any rb eb st2 HI.out _ (HE.out.below HZ4.out.2) HR4.out).mono ?_
      cases hts : timeS st2 with
      | none =>
        rintro e w5 ⟨rfl, hb⟩
        have HF2 := Lib.hid (HF.out.trans hts)
        have HZ5 := Lib.hid (HZ4.out.below hb)
        clear hb hts HZ4 HR4 hc hem
        unfold errV timeV
        obtain ⟨p0, p1, p2, p3, p4, p5, p6, p7⟩ := row8 HZ5.out.1
        obtain ⟨v0, v1, v2, v3, v4, v5, v6, v7⟩ := ice8 HZ5.out.1
        go_wp2_with fail
        refine bodyPost_ret_by (results_row_tmp rfl _ _ w.heap.size 24 _ (0, 0) _ (errV eb) rfl rfl (set8_row HZ5.out.1 ..) Tryz.underlying24 rfl sizeTime) rfl ?_
        rw [HF2.out]
        exact ⟨rfl, set8_below HZ5.out.2 (Nat.le_refl _) ..⟩
      | some a =>
        rintro e w5 ⟨⟨hk, y, m, d, hD, hN, rfl⟩, hb⟩
        have HF2 := Lib.hid (HF.out.trans hts)
        have HZ5 := Lib.hid (HZ4.out.below hb)
        have HA := Lib.hid (And.intro hk (And.intro hD hN))
        clear hb hts HZ4 HR4 hc hem hk hD hN
        obtain ⟨x3, e3⟩ : ∃ x, a % 86400 / 3600 = x := ⟨_, rfl⟩
        obtain ⟨x4, e4⟩ : ∃ x, a % 86400 / 60 % 60 = x := ⟨_, rfl⟩
        obtain ⟨x5, e5⟩ : ∃ x, fI (a % 86400 % 60) = x := ⟨_, rfl⟩
        obtain ⟨x6, e6⟩ : ∃ x, (numI y m d + 4) % 7 = x := ⟨_, rfl⟩
        obtain ⟨x7, e7⟩ : ∃ x, numI y m d - beginI y 0 = x := ⟨_, rfl⟩
        have hv : tmI y m d a = timeV y m d x3 x4 x5 x6 x7 := by unfold tmI; rw [e3, e4, e5, e6, e7]
        have HV := Lib.hid hv
        rw [hv]
        clear e3 e4 e5 e6 e7 hv
        unfold timeV
        obtain ⟨p0, p1, p2, p3, p4, p5, p6, p7⟩ := row8 HZ5.out.1
        obtain ⟨v0, v1, v2, v3, v4, v5, v6, v7⟩ := ice8 HZ5.out.1
        go_wp2_with fail
        refine bodyPost_ret_by (results_row_tmp rfl _ _ w.heap.size 24 _ (0, 0) _ .nilIface rfl rfl (set8_row HZ5.out.1 ..) Tryz.underlying24 rfl sizeTime) rfl ?_
        rw [HF2.out]
        exact ⟨⟨HA.out.1, y, m, d, HA.out.2.1, HA.out.2.2, by rw [HV.out]; rfl⟩, set8_below HZ5.out.2 (Nat.le_refl _) ..⟩
    · have hem : S.toList.isEmpty = false := by
        rw [ByteArray.toList_eq, HLS.out]
        cases e : st2.left with
        | nil => exact absurd e hnil
        | cons c r => rfl
      have HF : Hid (parseS s.data.toList f.data.toList = none) := Lib.hid (by rw [HT.out, if_neg hnil])
      clear hnil
      obtain ⟨u0, u1, u2, u3, u4, u5, u6, u7⟩ := row8 HZ4.out.1
      obtain ⟨v0, v1, v2, v3, v4, v5, v6, v7⟩ := ice8 HZ4.out.1
      have d5 := errW_in HE.out HZ4.out.2
      have d6 := errW_ne HE.out
      have d7 := errW_ne2 HE.out
      have d8 := errW_ne3 HE.out
      obtain ⟨X, hX⟩ : ∃ X, X = set8 w4 w.heap.size (.int .i64 0) (.int .i64 0) (.int .i64 0) (.int .i64 0) (.int .i64 0) (.float .f64 0) (.int .i64 0) (.int .i64 0) := ⟨_, rfl⟩
      have HX := Lib.hid (set8_row HZ4.out.1 (.int .i64 0) (.int .i64 0) (.int .i64 0) (.int .i64 0) (.int .i64 0) (.float .f64 0) (.int .i64 0) (.int .i64 0))
      have BX := Lib.hid (set8_below HZ4.out.2 (Nat.le_refl _) (.int .i64 0) (.int .i64 0) (.int .i64 0) (.int .i64 0) (.int .i64 0) (.float .f64 0) (.int .i64 0) (.int .i64 0))
      rw [← hX] at HX BX
      unfold set8 at hX
      have HXE := Lib.hid hX
      clear hX
      go_wp2_with fail
      go_region
      all_goals
        go_wp2_with fail
        rw [← HXE.out]
        clear HXE u0 u1 u2 u3 u4 u5 u6 u7 v0 v1 v2 v3 v4 v5 v6 v7
        refine bodyPost_ret_by (results_row_tmp rfl _ _ w.heap.size 24 _ (0, 0) _ (errV eb) rfl rfl (HX.out) Tryz.underlying24 rfl sizeTime) rfl ?_
        rw [HF.out]
        exact ⟨rfl, BX.out.drew⟩
end Go.Proofs.YtpjncnoejdaplaaGreatDoor
namespace Go.Proofs.YtpjncnoejdaplaaGreatDoor
open Go Go.RowKit Go.Shelf

/-- What Parse answers. -/
def ParsePost (w : World) (o : Option Int) (e : Ending) (w' : World) : Prop := (match o with
    | none => e = .returned (.tuple #[.agg (timeV 0 0 0 0 0 0 0 0), .int .i64 110])
    | some a => knownS a ∧ ∃ y m d, OkD y m d ∧ numI y m d = a / 86400 ∧ e = .returned (.tuple #[.agg (tmI y m d a), .int .i64 0])) ∧ Below w.heap.size w w'
theorem ResZ.one {w X : World} (h : ResZ w X) (o : Obj) : ResZ w (X.alloc o) := h.below ((Below.refl _ X).alloc (Nat.le_refl _) o)
set_option maxRecDepth 100000 in
set_option maxHeartbeats 4000000 in
theorem Parse_any (s f : ByteArray) (hs : s.size ≤ 70368744177664) (hf : f.size ≤ 1048576) (eb : Addr) (w : World) (hE : ErrW w eb) (h6 : 6 ≤ w.heap.size) : Calls Tryz.prog 12 #[.string s, .string f] w fun e w' => ParsePost w (parseS s.data.toList f.data.toList) e w' := by
  have hsf := run_store_float Tryz.prog
  have HTI := Lib.hid (fun w hE h6 => timeIn_any s f hs hf eb w hE h6)
  have HE := Lib.hid hE
  have H6 := Lib.hid h6
  clear hE h6 hs hf
  go_enter Tryz.func12, Tryz.ntmps12
  go_upto_region 1 with fail
  have hz0 : ResZ w (w.alloc (.cells #[.int .i64 0, .int .i64 0, .int .i64 0, .int .i64 0, .int .i64 0, .float .f64 0, .int .i64 0, .int .i64 0] 24)) := ⟨heap_alloc_new w _, (Below.refl w.heap.size w).alloc (Nat.le_refl _) _⟩
  generalize w.alloc (.cells #[.int .i64 0, .int .i64 0, .int .i64 0, .int .i64 0, .int .i64 0, .float .f64 0, .int .i64 0, .int .i64 0] 24) = X0 at hz0 ⊢
  have HZ0 := Lib.hid hz0
  clear hz0
  go_wp2_with fail
  refine (HTI.out _ (HE.out.below HZ0.out.2) (Nat.le_trans H6.out HZ0.out.2.size)).mono ?_
  cases ho : parseS s.data.toList f.data.toList with
  | none =>
    have HO := Lib.hid ho
    rintro e w1 ⟨rfl, hb⟩
    have HZ1 := Lib.hid (HZ0.out.below hb)
    clear hb ho HZ0 HTI
    unfold errV timeV
    go_upto_region 2 with fail
    have hz2 := HZ1.out.one (.cells #[.int .i64 0, .int .i64 0, .int .i64 0, .int .i64 0, .int .i64 0, .float .f64 0, .int .i64 0, .int .i64 0] 24)
    generalize w1.alloc (.cells #[.int .i64 0, .int .i64 0, .int .i64 0, .int .i64 0, .int .i64 0, .float .f64 0, .int .i64 0, .int .i64 0] 24) = X2 at hz2 ⊢
    have HZ2 := Lib.hid hz2
    clear hz2 HZ1
    have d5 := errW_in HE.out HZ2.out.2
    go_wp2_with fail
    refine (is_same eb _).mono ?_
    rintro e w3 ⟨rfl, rfl⟩
    obtain ⟨p0, p1, p2, p3, p4, p5, p6, p7⟩ := row8 HZ2.out.1
    obtain ⟨v0, v1, v2, v3, v4, v5, v6, v7⟩ := ice8 HZ2.out.1
    go_wp2_with fail
    refine bodyPost_ret_by (results_row_tmp rfl _ _ w.heap.size 24 _ (0, 0) _ (.int .i64 110) rfl rfl (set8_row HZ2.out.1 ..) Tryz.underlying24 rfl sizeTime) rfl ?_
    rw [HO.out]
    exact ⟨rfl, set8_below HZ2.out.2 (Nat.le_refl _) ..⟩
  | some a =>
    have HO := Lib.hid ho
    rintro e w1 ⟨⟨hk, y, m, d, hD, hN, rfl⟩, hb⟩
    have HZ1 := Lib.hid (HZ0.out.below hb)
    have HA := Lib.hid (And.intro hk (And.intro hD hN))
    clear hb ho hk hD hN HZ0 HTI
    obtain ⟨x3, e3⟩ : ∃ x, a % 86400 / 3600 = x := ⟨_, rfl⟩
    obtain ⟨x4, e4⟩ : ∃ x, a % 86400 / 60 % 60 = x := ⟨_, rfl⟩
    obtain ⟨x5, e5⟩ : ∃ x, fI (a % 86400 % 60) = x := ⟨_, rfl⟩
    obtain ⟨x6, e6⟩ : ∃ x, (numI y m d + 4) % 7 = x := ⟨_, rfl⟩
    obtain ⟨x7, e7⟩ : ∃ x, numI y m d - beginI y 0 = x := ⟨_, rfl⟩
    have hv : tmI y m d a = timeV y m d x3 x4 x5 x6 x7 := by unfold tmI; rw [e3, e4, e5, e6, e7]
    have HV := Lib.hid hv
    rw [hv]
    clear e3 e4 e5 e6 e7 hv
    unfold timeV
    go_upto_region 2 with fail
    have hz2 := HZ1.out.one (.cells #[.int .i64 y, .int .i64 m, .int .i64 d, .int .i64 x3, .int .i64 x4, .float .f64 x5, .int .i64 x6, .int .i64 x7] 24)
    have hr2 := heap_alloc_new w1 (.cells #[.int .i64 y, .int .i64 m, .int .i64 d, .int .i64 x3, .int .i64 x4, .float .f64 x5, .int .i64 x6, .int .i64 x7] 24)
    obtain ⟨q, hq⟩ : ∃ q, w1.heap.size = q := ⟨_, rfl⟩
    rw [hq] at hr2 ⊢
    generalize w1.alloc (.cells #[.int .i64 y, .int .i64 m, .int .i64 d, .int .i64 x3, .int .i64 x4, .float .f64 x5, .int .i64 x6, .int .i64 x7] 24) = X2 at hz2 hr2 ⊢
    have HZ2 := Lib.hid hz2
    have HR2 := Lib.hid hr2
    clear hz2 HZ1 hr2 hq
    have d5 := errW_in HE.out HZ2.out.2
    go_wp2_with fail
    refine (is_nil eb _).mono ?_
    rintro e w3 ⟨rfl, rfl⟩
    obtain ⟨u0, u1, u2, u3, u4, u5, u6, u7⟩ := row8 HR2.out
    obtain ⟨p0, p1, p2, p3, p4, p5, p6, p7⟩ := row8 HZ2.out.1
    obtain ⟨v0, v1, v2, v3, v4, v5, v6, v7⟩ := ice8 HZ2.out.1
    go_wp2_with fail
    refine bodyPost_ret_by (results_row_tmp rfl _ _ w.heap.size 24 _ (0, 0) _ (.int .i64 0) rfl rfl (set8_row HZ2.out.1 ..) Tryz.underlying24 rfl sizeTime) rfl ?_
    rw [HO.out]
    exact ⟨⟨HA.out.1, y, m, d, HA.out.2.1, HA.out.2.2, by rw [HV.out]; rfl⟩, set8_below HZ2.out.2 (Nat.le_refl _) ..⟩
end Go.Proofs.YtpjncnoejdaplaaGreatDoor

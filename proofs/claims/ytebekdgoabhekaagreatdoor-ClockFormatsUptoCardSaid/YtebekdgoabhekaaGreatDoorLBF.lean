/- Rows of bytes of the call's own: what is put behind them, their text. -/
import Derived.Test.YtebekdgoabhekaaGreatDoorLBE
import Derived.Maps.AppendAt
import Derived.Laws.OwnMore
import Derived.Lib.AppendStr
import Derived.Laws.BytesArg
import Derived.Laws.BytesString
import Derived.LoopTactic
import Derived.Test.YtebekdgoabhekaaGreatDoorLBA
import Derived.Deep.RegionLaw
import Derived.BigQuiet
namespace Go.Proofs.YtebekdgoabhekaaGreatDoor
open Go Go.RowKit Go.Shelf

theorem infoB8 : (Tryz.prog.info? 5).map (fun i => (i.zero, i.size, i.bytes)) = some (some (.int .u8 0), 1, 1) := by kernel_rfl
theorem kcell_new (w : World) (u : Value) (e : TypeId) : ∀ j x, ([u] : List Value)[j]? = some x → (w.alloc (.cells #[u] e)).cell? ((⟨w.heap.size, 0, none⟩ : Addr).add j) = some x := by
  intro j x hx
  match j with
  | 0 =>
    obtain rfl := Option.some.inj hx
    show (w.alloc (.cells #[u] e)).cell? ⟨w.heap.size, 0, none⟩ = some u
    unfold World.cell?
    rw [heap_alloc_new]
    rfl
  | j + 1 => simp at hx
theorem app_oneK {w : World} {ops : Array Oper} {rest : List Oper} {o : Oper} {a : Act} {Q : Exit → Act → World → Prop} {c : Nat} (hgd : o.guard = none) (s x : Operand)
    (ho : o.op = .call { callee := .builtin .append, args := #[s, x], argTypes := #[104, 104] })
    (base : Nat) (v : Value) (n : Nat) (xs : List Value) (hs : a.eval s = v) (hown : w.ownsRow base 5 1 v n xs)
    (hx : a.eval x = .slice (some ⟨w.heap.size, 0, none⟩) 1 1) (h63 : n + 1 ≤ 100000000000) (hbase : base ≤ w.heap.size)
    (h : ∀ v' w', w'.ownsRow base 5 1 v' (n + 1) (xs ++ [.int .u8 (c : Int)]) → (w.alloc (.cells #[.int .u8 (c : Int)] 5)).grownBy w' v.ownBlock → wpList Tryz.prog ops Q rest (a.put o.dst v') w') :
    wpList Tryz.prog ops Q (o :: rest) a (w.alloc (.cells #[.int .u8 (c : Int)] 5)) := by
  obtain ⟨i0, hi0, hz0, hz1, hz2⟩ := vparts infoB8
  refine wpList_append_own _ hgd s x _ ho base 5 i0 _ 1 1 Tryz.underlying104 hi0 hz0 hz1 hz2 rfl (by omega) v n xs hs (hown.alloc _) ⟨w.heap.size, 0, none⟩ 1 1 [.int .u8 (c : Int)] hx rfl (kcell_new w _ _) (by simp [Value.oneCell']) (by unfold maxLen; omega) (by omega) (by simp; omega) ?_
  intro v' w' h2 h3 _
  exact h v' w' h2 h3
theorem app_strK {w : World} {ops : Array Oper} {rest : List Oper} {o : Oper} {a : Act} {Q : Exit → Act → World → Prop} (hgd : o.guard = none) (sl x : Operand)
    (ho : o.op = .call { callee := .builtin .append, args := #[sl, x], argTypes := #[104, 9] })
    (base : Nat) (v : Value) (l : List UInt8) (hs : a.eval sl = v) (hown : w.ownsRow base 5 1 v l.length (Lib.byteCells l)) (s : ByteArray) (hx : a.eval x = .string s)
    (h63 : l.length + s.size ≤ 100000000000) (hbase : base ≤ w.heap.size)
    (h : ∀ v' w', w'.ownsRow base 5 1 v' (l ++ s.data.toList).length (Lib.byteCells (l ++ s.data.toList)) → w.grownBy w' v.ownBlock → wpList Tryz.prog ops Q rest (a.put o.dst v') w') : wpList Tryz.prog ops Q (o :: rest) a w := by
  obtain ⟨i0, hi0, hz0, hz1, hz2⟩ := vparts infoB8
  refine Lib.wpList_append_own_string _ hgd sl x 104 9 ho base 5 i0 Tryz.underlying104 Tryz.underlying9 hi0 hz0 hz1 hz2 v _ _ hs hown s hx (by unfold maxLen; omega) (by omega) hbase ?_
  intro v' w' h2 h3 _
  refine h v' w' ?_ h3
  have e1 : Lib.strCells s = Lib.byteCells s.data.toList := by simp [Lib.strCells, Lib.byteCells]
  have e2 : (l ++ s.data.toList).length = l.length + s.size := by rw [List.length_append]; simp
  rw [e2, byteCells_app, ← e1]
  exact h2
theorem own_text {w : World} {base : Nat} {v : Value} {l : List UInt8} (h : w.ownsRow base 5 1 v l.length (Lib.byteCells l)) : (convert 104 9 v).run Tryz.prog w = .ok (.string ⟨l.toArray⟩) w := by
  rcases h.2 with ⟨rfl, h0⟩ | ⟨g, cap, cur, rfl, _, hg, _⟩
  · obtain rfl := List.eq_nil_of_length_eq_zero h0
    exact run_convert_bytes_nil w 104 5 Tryz.underlying104 Tryz.underlying5 _ _ 9 Tryz.underlying9
  · have hcell := h.cells (g := g) rfl
    have hl := run_loadCells_list (P := Tryz.prog) w ⟨g, 0, none⟩ (Lib.byteCells l) hcell
    rw [byteCells_len] at hl
    have e1 : Lib.byteCells l = (l.map fun b => (b.toNat : Int)).map (Value.int .u8) := by unfold Lib.byteCells; rw [List.map_map]; rfl
    rw [e1] at hl
    rw [run_convert_bytes_string w 104 9 5 _ _ _ Tryz.underlying104 Tryz.underlying5 Tryz.underlying9, run_bytesToString w _ _ _ _ hl, foldl_push_bytes, List.map_map]
    have e2 : (l.map ((fun n : Int => UInt8.ofNat n.toNat) ∘ fun b => (b.toNat : Int))) = l := by
      conv => rhs; rw [← List.map_id l]
      apply List.map_congr_left
      intro x _
      simp
    rw [e2]
    simp [ByteArray.empty, ByteArray.emptyWithCapacity]
    rfl
end Go.Proofs.YtebekdgoabhekaaGreatDoor
namespace Go.Proofs.YtebekdgoabhekaaGreatDoor
open Go Go.RowKit Go.Shelf

theorem fmtT_congr (s1 s2 : Nat → Option (List UInt8)) : ∀ l : List UInt8, (∀ c ∈ l, s1 c.toNat = s2 c.toNat) → fmtT s1 l = fmtT s2 l
  | [], _ => by simp [fmtT]
  | [c], _ => by simp [fmtT]
  | c :: d :: r, h => by
    have h1 := fmtT_congr s1 s2 r (fun x hx => h x (by simp [hx]))
    have h2 := fmtT_congr s1 s2 (d :: r) (fun x hx => h x (by simp at hx ⊢; exact .inr hx))
    unfold fmtT
    rw [h d (by simp), h1, h2]
theorem fmtT_pass (sem : Nat → Option (List UInt8)) (h37 : sem 37 ≠ none) (l : List UInt8) (k : Nat) (h : k + 1 < l.length) (h1 : l[k] = 37) (ht : sem (l[k + 1]).toNat = none) : fmtT sem (l.drop k) = 37 :: l[k + 1] :: fmtT sem (l.drop (k + 2)) := by
  rw [fmtT_byte sem l k (by omega) (.inr (.inr ⟨h, ht⟩)), h1]
  have hne : l[k + 1] ≠ 37 := by
    intro e
    rw [e] at ht
    exact h37 ht
  rw [fmtT_byte sem l (k + 1) h (.inl hne)]
/-- The time's box, the row of bytes. -/
structure WtI (w W : World) (tm : Array Value) (v : Value) (l : List UInt8) : Prop where
  row : HW w W [(w.heap.size, tm, 24)]
  own : W.ownsRow (w.heap.size + 1) 5 1 v l.length (Lib.byteCells l)
theorem WtI.below {w W W' : World} {tm : Array Value} {v : Value} {l : List UInt8} (h : WtI w W tm v l) (hb : Below W.heap.size W W') : WtI w W' tm v l := ⟨h.row.below hb, own_belowK h.own hb⟩
theorem WtI.grow {w W W' : World} {tm : Array Value} {v v' : Value} {l m : List UInt8} (h : WtI w W tm v l) (hg : W.grownBy W' v.ownBlock) (ho : W'.ownsRow (w.heap.size + 1) 5 1 v' m.length (Lib.byteCells m)) : WtI w W' tm v' m := by
  have hs : w.heap.size < W.heap.size := h.row.lt _ (.head _)
  refine ⟨⟨fun x hx => ?_, ?_⟩, ho⟩
  · rw [List.mem_singleton] at hx
    subst hx
    rw [hg.block _ hs (fun e => by have := (h.own.lt _ e.symm).1; omega)]
    exact h.row.rows _ (.head _)
  · exact h.row.bel.grown hg h.row.bel.size (fun k hk => by have := (h.own.lt k hk).1; omega)
theorem WtI.grow1 {w W W' : World} {tm : Array Value} {v v' : Value} {l : List UInt8} {c : UInt8} (h : WtI w W tm v l) (ho : W'.ownsRow (w.heap.size + 1) 5 1 v' (l.length + 1) (Lib.byteCells l ++ [.int .u8 (c.toNat : Int)])) (hg : (W.alloc (.cells #[.int .u8 (c.toNat : Int)] 5)).grownBy W' v.ownBlock) : WtI w W' tm v' (l ++ [c]) := by
  refine (h.below ((Below.refl _ W).alloc (Nat.le_refl _) _)).grow hg ?_
  rw [List.length_append, List.length_singleton, byteCells_app, byteCells_one]
  exact ho
def semOK (sem : Nat → Option (List UInt8)) : Prop := ∀ c t, sem c = some t → t.length ≤ 10000
theorem ex2_size (f : ByteArray) (k : Nat) : (f.extract k (k + 2)).size ≤ 2 := by rw [ByteArray.size_extract]; omega
theorem ex2_is (f : ByteArray) (k : Nat) (h : k + 1 < f.size) {c d : UInt8} (hc : f[k] = c) (hd : f[k + 1] = d) : (f.extract k (k + 2)).data.toList = [c, d] := by
  have hc' : f.data.toList[k]'(lt_list (by omega)) = c := hc
  have hd' : f.data.toList[k + 1]'(lt_list h) = d := hd
  have e : (f.extract k (k + 2)).data.toList = (f.data.toList.drop k).take 2 := by
    simp [List.take_drop]
  rw [e, List.drop_eq_getElem_cons (lt_list (show k < f.size by omega)), List.drop_eq_getElem_cons (lt_list h), hc', hd']
  rfl
/-- What Longer answers. -/
def LongC (g : ByteArray) (c : Nat) : Prop := ∀ w, Calls Tryz.prog 78 #[.int .u8 (c : Int)] w fun e w' => e = .returned (.string g) ∧ w = w'
theorem long_none (c : Nat) (h : formOf c = none) : LongC ⟨#[]⟩ c := by
  intro w
  have := rLonger_any c w
  unfold longT at this
  rw [h] at this
  exact this
theorem long_some (c : Nat) (g : ByteArray) (h : formOf c = some g) : LongC g c := by
  intro w
  have := rLonger_any c w
  unfold longT at this
  rw [h] at this
  exact this
theorem form_ne (c : Nat) (g : ByteArray) (h : formOf c = some g) : g.toList.isEmpty = false := by
  unfold formOf at h
  repeat' split at h
  all_goals first | (obtain rfl := Option.some.inj h; decide +kernel) | cases h
theorem form_cases {c : Nat} {g : ByteArray} (h : formOf c = some g) : c = 68 ∨ c = 120 ∨ c = 70 ∨ c = 82 ∨ c = 84 ∨ c = 88 ∨ c = 114 ∨ c = 99 := by
  refine Classical.byContradiction fun hn => ?_
  have e : formOf c = none := by
    unfold formOf
    rw [if_neg (by omega), if_neg (by omega), if_neg (by omega), if_neg (by omega), if_neg (by omega), if_neg (by omega)]
  rw [e] at h
  cases h
theorem form_plain (c : Nat) (g : ByteArray) (h : formOf c = some g) (M : Mom) : semP M c = none := by
  rcases form_cases h with rfl | rfl | rfl | rfl | rfl | rfl | rfl | rfl <;> rfl
set_option maxRecDepth 100000 in
set_option maxHeartbeats 8000000 in
theorem rWritten_of (y m d a h i : Int) (s : Nat) (wd yd : Int) (M : Mom) (hM : MomOK M) (f : ByteArray) (hf : f.size ≤ 1048576)
    (hP : ∀ (c : Nat) w, Calls Tryz.prog 77 #[.agg (timeV y m d h i s wd yd), .int .i64 a, .int .u8 (c : Int)] w fun e w' => PieceP M c w e w')
    (hR : ∀ c ∈ f.data.toList, ∀ g, formOf c.toNat = some g → ∀ w, Calls Tryz.prog 27 #[.agg (timeV y m d h i s wd yd), .int .i64 a, .string g] w fun e w' => e = .returned (.string ⟨(fmtT (semP M) g.data.toList).toArray⟩) ∧ Below w.heap.size w w') (w : World) :
    Calls Tryz.prog 27 #[.agg (timeV y m d h i s wd yd), .int .i64 a, .string f] w fun e w' => e = .returned (.string ⟨(timeT M f).toArray⟩) ∧ Below w.heap.size w w' := by
  have hsf := run_store_float Tryz.prog
  have HP := Lib.hid hP
  have HR := Lib.hid hR
  obtain ⟨sem, hsem⟩ : ∃ sem, semA M = sem := ⟨_, rfl⟩
  have hlen : (fmtT sem f.data.toList).length ≤ 10000 * 1048576 := by
    rw [← hsem]
    refine Nat.le_trans (fmtT_len (semA M) (semA_len M hM) f.data.toList) (Nat.mul_le_mul_left _ ?_)
    simpa using hf
  have h37 : sem 37 ≠ none := by rw [← hsem]; simp [semA, formOf, semP, plainW]
  have HLEN := Lib.hid hlen
  have H37 := Lib.hid h37
  have HSEM := Lib.hid hsem
  have HMK := Lib.hid hM
  have hT : timeT M f = fmtT sem f.data.toList := by unfold timeT; rw [hsem]
  rw [hT]
  unfold timeV at HP HR ⊢
  clear hP hR hlen h37 hsem hT hM
  go_enter Tryz.func27, Tryz.ntmps27
  go_wp2_with fail
  have hst : WtI w (w.alloc (.cells #[.int .i64 y, .int .i64 m, .int .i64 d, .int .i64 h, .int .i64 i, .float .f64 s, .int .i64 wd, .int .i64 yd] 24)) #[.int .i64 y, .int .i64 m, .int .i64 d, .int .i64 h, .int .i64 i, .float .f64 s, .int .i64 wd, .int .i64 yd] (.slice none 0 0) [] := ⟨(HW.start w).one _ _, World.ownsRow_nil _ _ _ _⟩
  generalize w.alloc (.cells #[.int .i64 y, .int .i64 m, .int .i64 d, .int .i64 h, .int .i64 i, .float .f64 s, .int .i64 wd, .int .i64 yd] 24) = X0 at hst ⊢
  have HST := Lib.hid hst
  clear hst
  go_loopw [7, 8] (fun v I W => ∃ (k : Nat) (l : List UInt8), I = .int .i64 k ∧ k ≤ f.size ∧ Hid (l ++ fmtT sem (f.data.toList.drop k) = fmtT sem f.data.toList) ∧ Hid (WtI w W #[.int .i64 y, .int .i64 m, .int .i64 d, .int .i64 h, .int .i64 i, .float .f64 s, .int .i64 wd, .int .i64 yd] v l)) (fun _ I _ => f.size - (intOf I).toNat)
  case atStart => exact ⟨0, [], rfl, Nat.zero_le _, Lib.hid (by simp), HST⟩
  case round =>
    obtain ⟨k, l, rfl, hk, HE, HI⟩ := hrel
    have HSZ : Hid (f.data.toList.length = f.size) := Lib.hid (by simp)
    have hll : l.length ≤ 10485760000 := by
      have h1 := congrArg List.length HE.out
      have h2 := HLEN.out
      rw [List.length_append] at h1
      omega
    have hbl := HI.out.row.bel.size
    by_cases hlt : k < f.size
    · obtain ⟨c, hc⟩ : ∃ c, f[k] = c := ⟨_, rfl⟩
      have hc' : f.data.toList[k]'(lt_list hlt) = c := hc
      by_cases h1 : c = 37
      · subst h1
        rcases Nat.lt_or_ge (k + 1) f.size with h2 | h2
        · obtain ⟨e0, he0⟩ : ∃ d, f[k + 1] = d := ⟨_, rfl⟩
          have HC2 := Lib.hid (ex2_is f k h2 hc he0)
          have hd' : f.data.toList[k + 1]'(lt_list h2) = e0 := he0
          have HMEM : Hid (e0 ∈ f.data.toList) := Lib.hid (by rw [← hd']; exact List.getElem_mem _)
          have h3 : ((k : Int) + 1 == (f.size : Int)) = false := by rw [beq_eq_false_iff_ne]; omega
          obtain ⟨t0, t1, t2, t3, t4, t5, t6, t7⟩ := row8p (HI.out.row.rows _ (.head _))
          have HPC := Lib.hid (HP.out e0.toNat wr)
          cases hfo : formOf e0.toNat with
          | none =>
            have HLG := Lib.hid (long_none e0.toNat hfo)
            have hA : sem e0.toNat = semP M e0.toNat := by rw [← HSEM.out]; unfold semA; rw [hfo]
            cases hse : semP M e0.toNat with
            | none =>
              rw [hse] at hA
              have HF := Lib.hid (fmtT_pass sem H37.out f.data.toList k (lt_list h2) hc' (by rw [hd']; exact hA))
              rw [hd'] at HF
              have HSE := Lib.hid hse
              clear hfo hA hse hc'
              go_wp2_with fail
              refine HPC.out.mono ?_
              rintro e w2 ⟨h5, hb⟩
              rw [HSE.out] at h5
              obtain rfl := h5
              have HI2 := Lib.hid (HI.out.below hb)
              clear hb HI t0 t1 t2 t3 t4 t5 t6 t7
              go_wp2_with fail
              refine (HLG.out _).mono ?_
              rintro e w3 ⟨rfl, rfl⟩
              have hsl := run_slice_string (P := Tryz.prog) (w := w2) 9 f .i64 .i64 (k : Int) ((k : Int) + 2) Tryz.underlying9 (by omega) (by omega) (by omega)
              rw [show ((k : Int) + 2).toNat = k + 2 by omega, Int.toNat_natCast] at hsl
              go_wp2_with (at_builtin; refine app_strK rfl _ _ rfl (w.heap.size + 1) _ l rfl (by exact HI2.out.own) (f.extract k (k + 2)) (by rfl) (by have := ex2_size f k; omega) (by have := HI2.out.row.lt _ (.head _); omega) ?_)
              intro v' w4 hown hgrow
              have HI4 := Lib.hid (HI2.out.grow (m := l ++ (f.extract k (k + 2)).data.toList) hgrow (by simpa using hown))
              clear hown hgrow HI2
              go_wp2_with fail
              go_roundw
              case rel => exact ⟨k + 2, l ++ (f.extract k (k + 2)).data.toList, by go_num, by omega, Lib.hid (by rw [HC2.out]; have h9 := HF.out; rw [h9] at HE; rw [List.append_assoc]; exact HE.out), HI4⟩
              case measure => simp [intOf]; omega
            | some t =>
              rw [hse] at hA
              have HF := Lib.hid (fmtT_some sem f.data.toList k (lt_list h2) hc' t (by rw [hd']; exact hA))
              have HTL : t.length ≤ 10000 := semA_len M HMK.out e0.toNat t (by rw [HSEM.out]; exact hA)
              have HSE := Lib.hid hse
              clear hfo hA hse hc'
              go_wp2_with fail
              refine HPC.out.mono ?_
              rintro e w2 ⟨h5, hb⟩
              rw [HSE.out] at h5
              obtain rfl := h5
              have HI2 := Lib.hid (HI.out.below hb)
              clear hb HI t0 t1 t2 t3 t4 t5 t6 t7
              go_wp2_with fail
              refine (HLG.out _).mono ?_
              rintro e w3 ⟨rfl, rfl⟩
              go_wp2_with (at_builtin; refine app_strK rfl _ _ rfl (w.heap.size + 1) _ l rfl (by exact HI2.out.own) (⟨t.toArray⟩) (by rfl) (by show l.length + t.toArray.size ≤ _; rw [List.size_toArray]; omega) (by have := HI2.out.row.lt _ (.head _); omega) ?_)
              intro v' w4 hown hgrow
              have HI4 := Lib.hid (HI2.out.grow (m := l ++ (ByteArray.mk t.toArray).data.toList) hgrow (by simpa using hown))
              clear hown hgrow HI2
              go_wp2_with fail
              go_roundw
              case rel => exact ⟨k + 2, l ++ (ByteArray.mk t.toArray).data.toList, by go_num, by omega, Lib.hid (by rw [show (ByteArray.mk t.toArray).data.toList = t from by simp]; rw [HF.out] at HE; rw [List.append_assoc]; exact HE.out), HI4⟩
              case measure => simp [intOf]; omega
          | some g =>
            have HLG := Lib.hid (long_some e0.toNat g hfo)
            have hA : sem e0.toNat = some (fmtT (semP M) g.data.toList) := by rw [← HSEM.out]; unfold semA; rw [hfo]
            obtain ⟨t, ht⟩ : ∃ t, fmtT (semP M) g.data.toList = t := ⟨_, rfl⟩
            rw [ht] at hA
            have HF := Lib.hid (fmtT_some sem f.data.toList k (lt_list h2) hc' t (by rw [hd']; exact hA))
            have HTL : t.length ≤ 10000 := semA_len M HMK.out e0.toNat t (by rw [HSEM.out]; exact hA)
            have HRG := Lib.hid (HR.out e0 HMEM.out g hfo)
            rw [ht] at HRG
            have hge := form_ne e0.toNat g hfo
            have HSE : Hid (semP M e0.toNat = none) := Lib.hid (form_plain e0.toNat g hfo M)
            clear hfo hA hc' ht
            go_wp2_with fail
            refine HPC.out.mono ?_
            rintro e w2 ⟨h5, hb⟩
            rw [HSE.out] at h5
            obtain rfl := h5
            have HI2 := Lib.hid (HI.out.below hb)
            clear hb HI t0 t1 t2 t3 t4 t5 t6 t7
            go_wp2_with fail
            refine (HLG.out _).mono ?_
            rintro e w3 ⟨rfl, rfl⟩
            obtain ⟨t0, t1, t2, t3, t4, t5, t6, t7⟩ := row8p (HI2.out.row.rows _ (.head _))
            go_wp2_with fail
            go_region_law ((first | (go_simp; go_at_call 27; refine (HRG.out _).mono ?_; rintro e w5 ⟨rfl, hb0⟩; have HI5 := Lib.hid (HI2.out.below (((Below.refl w2.heap.size w2).drew).trans hb0)); clear hb0) | (go_simp; go_at_call 78; refine (HLG.out _).mono ?_; rintro e w4 ⟨rfl, rfl⟩)))
            all_goals
              clear t0 t1 t2 t3 t4 t5 t6 t7 HI2
              go_wp2_with (at_builtin; refine app_strK rfl _ _ rfl (w.heap.size + 1) _ l rfl (by exact HI5.out.own) (⟨t.toArray⟩) (by rfl) (by show l.length + t.toArray.size ≤ _; rw [List.size_toArray]; omega) (by have := HI5.out.row.lt _ (.head _); omega) ?_)
              intro v' w6 hown hgrow
              have HI4 := Lib.hid (HI5.out.grow (m := l ++ (ByteArray.mk t.toArray).data.toList) hgrow (by simpa using hown))
              clear hown hgrow HI5
              go_wp2_with fail
              go_roundw
              case rel => exact ⟨k + 2, l ++ (⟨t.toArray⟩ : ByteArray).data.toList, by go_num, by omega, Lib.hid (by rw [show (ByteArray.mk t.toArray).data.toList = t from by simp]; rw [HF.out] at HE; rw [List.append_assoc]; exact HE.out), HI4⟩
              case measure => simp [intOf]; omega
        · have h3 : ((k : Int) + 1 == (f.size : Int)) = true := by rw [beq_iff_eq]; omega
          have HF := Lib.hid (fmtT_byte sem f.data.toList k (lt_list hlt) (.inr (.inl (by rw [HSZ.out]; omega))))
          rw [hc'] at HF
          clear hc'
          go_wp2_with (at_builtin; refine app_oneK (c := 37) rfl _ _ rfl (w.heap.size + 1) _ _ _ rfl (by exact HI.out.own) (by rfl) (by omega) (by have := HI.out.row.lt _ (.head _); omega) ?_)
          intro v' w2 hown hgrow
          have HI2 := Lib.hid (HI.out.grow1 (c := 37) hown hgrow)
          clear hown hgrow
          go_wp2_with fail
          go_roundw
          case rel => exact ⟨k + 1, l ++ [37], by go_num, by omega, Lib.hid (by rw [List.append_assoc, List.singleton_append, ← HF.out]; exact HE.out), HI2⟩
          case measure => simp [intOf]; omega
      · have h3 : ((c.toNat : Int) == 37) = false := by
          rw [beq_eq_false_iff_ne]
          intro e
          exact h1 (UInt8.toNat_inj.1 (by have : (37 : UInt8).toNat = 37 := rfl
                                          omega))
        have HF := Lib.hid (fmtT_byte sem f.data.toList k (lt_list hlt) (.inl (by rw [hc']; exact h1)))
        rw [hc'] at HF
        clear hc' h1
        go_wp2_with (at_builtin; refine app_oneK (c := c.toNat) rfl _ _ rfl (w.heap.size + 1) _ _ _ rfl (by exact HI.out.own) (by rfl) (by omega) (by have := HI.out.row.lt _ (.head _); omega) ?_)
        intro v' w2 hown hgrow
        have HI2 := Lib.hid (HI.out.grow1 (c := c) hown hgrow)
        clear hown hgrow
        go_wp2_with fail
        go_roundw
        case rel => exact ⟨k + 1, l ++ [c], by go_num, by omega, Lib.hid (by rw [List.append_assoc, List.singleton_append, ← HF.out]; exact HE.out), HI2⟩
        case measure => simp [intOf]; omega
    · have hkk : k = f.size := by omega
      subst hkk
      have HD := Lib.hid (show l = fmtT sem f.data.toList from by
        have := HE.out
        rw [List.drop_of_length_le (by simp)] at this
        simpa [fmtT] using this)
      have hcv := own_text HI.out.own
      clear hlt hk
      go_wp2_with fail
      go_ret
      exact ⟨ret_str (by rw [HD.out]), HI.out.row.bel⟩
/-- The document's written, of any format. -/
theorem rWritten_any (y m d a : Int) (s : Nat) (wd yd : Int) (Q : PcQ y m d a s) (f : ByteArray) (hf : f.size ≤ 1048576) (w : World) :
    Calls Tryz.prog 27 #[.agg (timeV y m d (a % 86400 / 3600) (a % 86400 / 60 % 60) s wd yd), .int .i64 a, .string f] w fun e w' => e = .returned (.string ⟨(timeT (mkMom y m d a) f).toArray⟩) ∧ Below w.heap.size w w' := by
  have hM := mkMom_ok y m d a Q.ok Q.num.symm
  refine rWritten_of y m d a _ _ s wd yd (mkMom y m d a) hM f hf (fun c w => rPiece_any Q wd yd c w) (fun c _ g hg w => ?_) w
  obtain ⟨k1, k2, _⟩ := form_flat c.toNat g hg
  have e : fmtT (semP (mkMom y m d a)) g.data.toList = timeT (mkMom y m d a) g := by
    unfold timeT
    refine fmtT_congr _ _ _ fun x hx => ?_
    have hx' : formOf x.toNat = none := k1 x hx
    unfold semA
    rw [hx']
  rw [e]
  refine rWritten_of y m d a _ _ s wd yd (mkMom y m d a) hM g (by omega) (fun c w => rPiece_any Q wd yd c w) (fun x hx g' hg' w => ?_) w
  have hx' : formOf x.toNat = none := k1 x hx
  rw [hx'] at hg'
  cases hg'
end Go.Proofs.YtebekdgoabhekaaGreatDoor
namespace Go.Proofs.YtebekdgoabhekaaGreatDoor
open Go Go.RowKit Go.Shelf

/-- Join, of both: the same number and error; a number of its own is known to Split. -/
theorem both_Join2 (y mo d h mi : Int) (s : Nat) (wd yd : Int) : ∃ a e : Int, (e = 0 → knownS a ∧ szB s < 9218868437227405312) ∧ (∀ w, Calls Tryz.prog 53 #[.agg (timeV y mo d h mi s wd yd)] w fun x w' => x = .returned (.tuple #[.int .i64 a, .int .i64 e]) ∧ Below w.heap.size w w') ∧
    (∀ w, Calls Tryz.prog 36 #[.agg (timeV y mo d h mi s wd yd)] w fun x w' => x = .returned (.tuple #[.int .i64 a, .int .i64 e]) ∧ Below w.heap.size w w') := by
  by_cases hF : Fits y mo d h mi s
  · by_cases hk : knownB (y + mo / 12) = true
    · by_cases hd : secI (y + mo / 12) (mo % 12) d h mi s / 86400 < -4371587 ∨ 2932896 < secI (y + mo / 12) (mo % 12) d h mi s / 86400
      · exact ⟨_, _, by omega, Join_out y mo d h mi s wd yd hF hk hd, refJoin_out y mo d h mi s wd yd hF hk hd⟩
      · exact ⟨_, _, fun _ => ⟨⟨by omega, by omega⟩, (fitS_fin s hF.2.2.2.2.2).1⟩, Join_of y mo d h mi s wd yd hF hk (by omega) (by omega), refJoin_of y mo d h mi s wd yd hF hk (by omega) (by omega)⟩
    · have hk' : knownB (y + mo / 12) = false := by simpa using hk
      exact ⟨_, _, by omega, Join_year y mo d h mi s wd yd hF hk', refJoin_year y mo d h mi s wd yd hF hk'⟩
  · exact ⟨_, _, by omega, Join_unfit y mo d h mi s wd yd hF, refJoin_unfit y mo d h mi s wd yd hF⟩
theorem floor_eq (s : Nat) (r : Int) (hf : szB s < 9218868437227405312) (h1 : 0 ≤ r) (h2 : r ≤ 59) (h : Ieee.double.order (floorB s) (fI r) = some .eq) : flI s = r := by
  rw [floor_cmp s r hf (by omega) (by omega)] at h
  exact Int.compare_eq_eq.1 (Option.some.inj h)
/-- The ways in which a time is none, though its seconds are known: its parts are others than those of the seconds. -/
def Others (y mo d h mi : Int) (s : Nat) (y' m' d' : Int) (a : Int) : Prop := y' ≠ y ∨ m' ≠ mo ∨ d' ≠ d ∨ a % 86400 / 3600 ≠ h ∨ a % 86400 / 60 % 60 ≠ mi ∨ Ieee.double.order (floorB s) (fI (a % 86400 % 60)) ≠ some .eq
theorem floor_ord (s : Nat) (r : Int) (hf : szB s < 9218868437227405312) (h1 : 0 ≤ r) (h2 : r ≤ 59) : ∃ o, Ieee.double.order (floorB s) (fI r) = some o ∧ Ieee.double.order (fI r) (floorB s) = some o.swap := by
  obtain ⟨a1, a2⟩ := fI_is r (by omega) (by omega)
  obtain ⟨b1, b2, _, _⟩ := floor_is s hf
  refine ⟨compare (valB (floorB s)) (valB (fI r)), val_order _ _ b1 a1, ?_⟩
  rw [val_order _ _ a1 b1]
  congr 1
  exact (Int.compare_swap _ _).symm
end Go.Proofs.YtebekdgoabhekaaGreatDoor
namespace Go.Proofs.YtebekdgoabhekaaGreatDoor
open Go Go.RowKit Go.Shelf

set_option maxRecDepth 100000 in
set_option maxHeartbeats 8000000 in
theorem rWhole_bad (y m d h i : Int) (s : Nat) (wd yd a c : Int) (hc : c ≠ 0)
    (hJ : ∀ w, Calls Tryz.prog 36 #[.agg (timeV y m d h i s wd yd)] w fun e w' => e = .returned (.tuple #[.int .i64 a, .int .i64 c]) ∧ Below w.heap.size w w') (w : World) :
    Calls Tryz.prog 26 #[.agg (timeV y m d h i s wd yd)] w fun e w' => e = .returned (.tuple #[.int .i64 0, .bool false]) ∧ Below w.heap.size w w' := by
  have hsf := run_store_float Tryz.prog
  have HJ := Lib.hid hJ
  clear hJ
  unfold timeV at HJ ⊢
  have h1 : (c == 0) = false := by rw [beq_eq_false_iff_ne]; exact hc
  go_enter Tryz.func26, Tryz.ntmps26
  go_wp2_with fail
  have hh := (HW.start w).one #[.int .i64 y, .int .i64 m, .int .i64 d, .int .i64 h, .int .i64 i, .float .f64 s, .int .i64 wd, .int .i64 yd] 24
  generalize w.alloc (.cells #[.int .i64 y, .int .i64 m, .int .i64 d, .int .i64 h, .int .i64 i, .float .f64 s, .int .i64 wd, .int .i64 yd] 24) = X0 at hh ⊢
  refine (HJ.out _).mono ?_
  rintro e w1 ⟨rfl, hb⟩
  have HB := Lib.hid (hh.below hb).bel
  clear hh hb
  go_wp2_with fail
  exact bodyPost_ret (v := .tuple #[.int .i64 0, .bool false]) (by simp [results, Tryz.results26, go_sem]) rfl ⟨rfl, HB.out⟩
set_option maxRecDepth 100000 in
set_option maxHeartbeats 8000000 in
theorem rWhole_cmp (y m d h i : Int) (s : Nat) (wd yd a y' m' d' h' i' : Int) (r : Nat) (wd' yd' : Int) (hs : szB s < 9218868437227405312)
    (hJ : ∀ w, Calls Tryz.prog 36 #[.agg (timeV y m d h i s wd yd)] w fun e w' => e = .returned (.tuple #[.int .i64 a, .int .i64 0]) ∧ Below w.heap.size w w')
    (hS : ∀ w, Calls Tryz.prog 19 #[.float .f64 (fI a)] w fun e w' => e = .returned (.tuple #[.agg (timeV y' m' d' h' i' r wd' yd'), .int .i64 0]) ∧ Below w.heap.size w w')
    (b : Bool) (hO : (b = true ∧ y' = y ∧ m' = m ∧ d' = d ∧ h' = h ∧ i' = i ∧ (FloatKind.f64.format.order r (floorB s) != some .eq) = false) ∨ (b = false ∧ (y' ≠ y ∨ (y' = y ∧ m' ≠ m) ∨ (y' = y ∧ m' = m ∧ d' ≠ d) ∨ (y' = y ∧ m' = m ∧ d' = d ∧ h' ≠ h) ∨ (y' = y ∧ m' = m ∧ d' = d ∧ h' = h ∧ i' ≠ i) ∨ (y' = y ∧ m' = m ∧ d' = d ∧ h' = h ∧ i' = i ∧ (FloatKind.f64.format.order r (floorB s) != some .eq) = true)))) (w : World) :
    Calls Tryz.prog 26 #[.agg (timeV y m d h i s wd yd)] w fun e w' => e = .returned (.tuple #[.int .i64 (if b = true then a else 0), .bool b]) ∧ Below w.heap.size w w' := by
  have hsf := run_store_float Tryz.prog
  have hci := conv_int
  have HJ := Lib.hid hJ
  have HS := Lib.hid hS
  have HO := Lib.hid hO
  have HFl : Hid (∀ w, Calls Tryz.prog 38 #[.float .f64 s] w fun e w' => e = .returned (.float .f64 (floorB s)) ∧ w' = w) := Lib.hid (fun w => (Floor_num s (by omega) w).mono fun _ _ ⟨a, b⟩ => ⟨a, b.symm⟩)
  clear hJ hS hO hs
  unfold timeV at HJ HS ⊢
  go_enter Tryz.func26, Tryz.ntmps26
  go_wp2_with fail
  have hh := (HW.start w).one #[.int .i64 y, .int .i64 m, .int .i64 d, .int .i64 h, .int .i64 i, .float .f64 s, .int .i64 wd, .int .i64 yd] 24
  generalize w.alloc (.cells #[.int .i64 y, .int .i64 m, .int .i64 d, .int .i64 h, .int .i64 i, .float .f64 s, .int .i64 wd, .int .i64 yd] 24) = X0 at hh ⊢
  refine (HJ.out _).mono ?_
  rintro e w1 ⟨rfl, hb⟩
  have H := Lib.hid (hh.below hb)
  clear hh hb HJ
  go_wp2_with fail
  refine (HS.out _).mono ?_
  rintro e w2 ⟨rfl, hb⟩
  have hh := (H.out.below hb).one #[.int .i64 y', .int .i64 m', .int .i64 d', .int .i64 h', .int .i64 i', .float .f64 r, .int .i64 wd', .int .i64 yd'] 24
  clear hb H HS
  go_upto_region 5 with fail
  obtain ⟨g2, hg2⟩ : ∃ g, w2.heap.size = g := ⟨_, rfl⟩
  rw [hg2] at hh ⊢
  generalize w2.alloc (.cells #[.int .i64 y', .int .i64 m', .int .i64 d', .int .i64 h', .int .i64 i', .float .f64 r, .int .i64 wd', .int .i64 yd'] 24) = X2 at hh ⊢
  obtain ⟨t0, t1, t2, t3, t4, t5, t6, t7⟩ := row8p (hh.rows _ (.head _))
  obtain ⟨u0, u1, u2, u3, u4, u5, u6, u7⟩ := row8p (hh.rows _ (.tail _ (.head _)))
  have HB := Lib.hid hh.bel
  clear hh hg2
  rcases HO.out with ⟨rfl, rfl, rfl, rfl, rfl, rfl, h1⟩ | ⟨rfl, hn⟩
  · go_quiet ((go_at_call 38; exact Calls.quiet_of_same (HFl.out _)))
    all_goals
      go_wp2_with fail
      exact bodyPost_ret (v := .tuple #[.int .i64 a, .bool true]) (by simp [results, Tryz.results26, go_sem]) rfl ⟨rfl, by first | exact HB.out | exact below_drewN HB.out _ | exact HB.out.drew⟩
  · rcases hn with h0 | ⟨e1, h0⟩ | ⟨e1, e2, h0⟩ | ⟨e1, e2, e3, h0⟩ | ⟨e1, e2, e3, e4, h0⟩ | ⟨e1, e2, e3, e4, e5, h0⟩
    · have h1 : (y' == y) = false := by rw [beq_eq_false_iff_ne]; exact h0
      go_quiet (fail)
      all_goals
        go_wp2_with fail
        exact bodyPost_ret (v := .tuple #[.int .i64 0, .bool false]) (by simp [results, Tryz.results26, go_sem]) rfl ⟨rfl, by first | exact HB.out | exact below_drewN HB.out _ | exact HB.out.drew⟩
    · subst e1
      have h1 : (m' == m) = false := by rw [beq_eq_false_iff_ne]; exact h0
      go_quiet (fail)
      all_goals
        go_wp2_with fail
        exact bodyPost_ret (v := .tuple #[.int .i64 0, .bool false]) (by simp [results, Tryz.results26, go_sem]) rfl ⟨rfl, by first | exact HB.out | exact below_drewN HB.out _ | exact HB.out.drew⟩
    · subst e1 e2
      have h1 : (d' == d) = false := by rw [beq_eq_false_iff_ne]; exact h0
      go_quiet (fail)
      all_goals
        go_wp2_with fail
        exact bodyPost_ret (v := .tuple #[.int .i64 0, .bool false]) (by simp [results, Tryz.results26, go_sem]) rfl ⟨rfl, by first | exact HB.out | exact below_drewN HB.out _ | exact HB.out.drew⟩
    · subst e1 e2 e3
      have h1 : (h' == h) = false := by rw [beq_eq_false_iff_ne]; exact h0
      go_quiet (fail)
      all_goals
        go_wp2_with fail
        exact bodyPost_ret (v := .tuple #[.int .i64 0, .bool false]) (by simp [results, Tryz.results26, go_sem]) rfl ⟨rfl, by first | exact HB.out | exact below_drewN HB.out _ | exact HB.out.drew⟩
    · subst e1 e2 e3 e4
      have h1 : (i' == i) = false := by rw [beq_eq_false_iff_ne]; exact h0
      go_quiet (fail)
      all_goals
        go_wp2_with fail
        exact bodyPost_ret (v := .tuple #[.int .i64 0, .bool false]) (by simp [results, Tryz.results26, go_sem]) rfl ⟨rfl, by first | exact HB.out | exact below_drewN HB.out _ | exact HB.out.drew⟩
    · subst e1 e2 e3 e4 e5
      go_quiet ((go_at_call 38; exact Calls.quiet_of_same (HFl.out _)))
      all_goals
        go_wp2_with fail
        exact bodyPost_ret (v := .tuple #[.int .i64 0, .bool false]) (by simp [results, Tryz.results26, go_sem]) rfl ⟨rfl, by first | exact HB.out | exact below_drewN HB.out _ | exact HB.out.drew⟩
end Go.Proofs.YtebekdgoabhekaaGreatDoor

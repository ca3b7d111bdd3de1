/- A number that is filled up: the closure of padded. -/
import Derived.Test.YtpjncnoejdaplaaGreatDoorLAE
import Derived.Lib.AppendIntMem
import Derived.Deep.Cut
import Derived.Deep.CutRange
import Derived.Deep.DeepCutAuto
namespace Go.Proofs.YtpjncnoejdaplaaGreatDoor
open Go Go.RowKit Go.Shelf

theorem itoa_any (n : Int) (t : List UInt8) (ht : Lib.decDigits n.natAbs = t) (h0 : 0 ≤ n) (h1 : n ≤ 1000000000000) (eb : Addr) (w : World) (hG : GlobW w eb) :
    Calls Tryz.prog 160 #[.int .i64 n] w fun e w' => e = .returned (.string ⟨t.toArray⟩) ∧ Below w.heap.size w w' := by
  refine (Tryz.strconv_Itoa n (by omega) (by omega) w hG.tab).mono ?_
  rintro e w' ⟨rfl, k, os, rfl⟩
  refine ⟨?_, Lib.below_grow _ w (Nat.le_refl _) k os⟩
  have e : Lib.itoa n = Lib.decDigits n.natAbs := by
    unfold Lib.itoa
    rw [if_neg (by omega)]
    congr 1
    omega
  rw [e, ht]
theorem nDigits_le : ∀ (k n : Nat), n < 10 ^ (k + 1) → Lib.nDigits n ≤ k + 1
  | 0, n, h => by rw [Lib.nDigits_small (by simpa using h)]; omega
  | k + 1, n, h => by
    by_cases h1 : n < 10
    · rw [Lib.nDigits_small h1]; omega
    · rw [Lib.nDigits_big h1]
      have := nDigits_le k (n / 10) (by rw [Nat.pow_succ] at h; omega)
      omega
theorem digits_short (n : Nat) (h : n ≤ 1000000000000) : (Lib.decDigits n).length ≤ 13 := by
  rw [Lib.decDigits_length]
  exact nDigits_le 12 n (by have h4 : (10 : Nat) ^ (12 + 1) = 10000000000000 := by decide
                            omega)
theorem ba_app (a b c : List UInt8) (x y : ByteArray) (hx : x = ⟨(a ++ b).toArray⟩) (hy : y = ⟨c.toArray⟩) : x ++ y = ⟨(a ++ (b ++ c)).toArray⟩ := by
  subst hx hy
  apply ByteArray.ext
  simp
/-- What is filled up. -/
def fillC (d : Nat) (n : Int) : Nat := d - (Lib.decDigits n.natAbs).length
set_option maxRecDepth 100000 in
theorem write_pad (m : Mom) (hm : MomOK m) (d : Nat) (hd : d ≤ 100) (f : ByteArray) (hf : f.size ≤ 100) (n : NF) (mb b1 b2 b3 : Nat) (eb : Addr) (w : World) (hG : GlobW w eb)
    (h1 : BoxAt w mb b1 (.func (.func n.fn) #[] #[]) 153) (h2 : BoxAt w mb b2 (.string f) 9) (h3 : BoxAt w mb b3 (.int .i64 d) 3) :
    Calls Tryz.prog 159 #[.agg (momV m), .pointer (some ⟨b1, 0, none⟩), .pointer (some ⟨b2, 0, none⟩), .pointer (some ⟨b3, 0, none⟩)] w fun e w' => e = .returned (.string ⟨(WP.txt m (.pad d f n)).toArray⟩) ∧ Below w.heap.size w w' := by
  have hc1 := box_cell' h1
  have hN := num_any n m hm
  have HN := Lib.hid hN
  have hen := num_enter n
  obtain ⟨q1, q2⟩ := NF.bound m hm n
  obtain ⟨z, hz⟩ : ∃ z, n.val m = z := ⟨_, rfl⟩
  rw [hz] at q1 q2 HN
  have HZ := Lib.hid hz
  have HG := Lib.hid hG
  have H2 := Lib.hid (box_cell h2)
  have H3 := Lib.hid (box_cell h3)
  have L2 := Lib.hid (Array.getElem?_eq_some_iff.1 h2.2).1
  have L3 := Lib.hid (Array.getElem?_eq_some_iff.1 h3.2).1
  obtain ⟨t, ht⟩ : ∃ t, Lib.decDigits z.natAbs = t := ⟨_, rfl⟩
  have hl := digits_short z.natAbs (by omega)
  rw [ht] at hl
  have HT := Lib.hid ht
  have HA := Lib.hid ((Below.refl w.heap.size w).alloc (Nat.le_refl _) (Obj.cells (momV m) 57))
  clear hN hz hG h1 h2 h3 hm ht
  unfold momV at HN HA ⊢
  rcases Int.lt_or_le z 0 with hs | hs
  all_goals
    go_enter Tryz.func159, Tryz.ntmps159
    go_wp2_with fail
    refine (HN.out _).mono ?_
    rintro e w1 ⟨rfl, hb⟩
    have HB := Lib.hid (HA.out.trans (hb.mono (by simp)))
    clear hb hc1
    have d2 : w1.cell? ⟨b2, 0, none⟩ = some (.string f) := (HB.out.cell (p := ⟨b2, 0, none⟩) L2.out).trans H2.out
    have d3 : w1.cell? ⟨b3, 0, none⟩ = some (.int .i64 d) := (HB.out.cell (p := ⟨b3, 0, none⟩) L3.out).trans H3.out
    go_wp2_with fail
    refine (itoa_any _ t (by first | exact HT.out | (rw [Int.natAbs_neg]; exact HT.out)) (by omega) (by omega) eb _ (HG.out.below HB.out)).mono ?_
    rintro e w2 ⟨rfl, hb⟩
    have HB2 := Lib.hid (HB.out.trans (hb.mono HB.out.size))
    clear hb d2 d3
    have d2 : w2.cell? ⟨b2, 0, none⟩ = some (.string f) := (HB2.out.cell (p := ⟨b2, 0, none⟩) L2.out).trans H2.out
    have d3 : w2.cell? ⟨b3, 0, none⟩ = some (.int .i64 d) := (HB2.out.cell (p := ⟨b3, 0, none⟩) L3.out).trans H3.out
    go_wp2_with fail
    obtain ⟨q, hq⟩ : ∃ q, Lib.repeatL f.data.toList (d - t.length) = q := ⟨_, rfl⟩
    have hql : q.length ≤ 10000 := by
      rw [← hq, Lib.repeatL_length]
      exact Nat.mul_le_mul (Nat.le_trans (Nat.sub_le _ _) hd) (by simpa using hf)
    have HQ := Lib.hid hq
    clear hq
    rw [show max (0 : Int) (↑d - ↑t.length) = ((d - t.length : Nat) : Int) from by omega]
    refine (Tryz.strings_Repeat f (d - t.length) _ (by omega) (Nat.le_trans (Nat.mul_le_mul hf (Nat.le_trans (Nat.sub_le _ _) hd)) (by omega))).mono ?_
    rw [HQ.out]
    rintro e w3 ⟨rfl, hb⟩
    have HB3 := Lib.hid (HB2.out.trans (hb.mono HB2.out.size))
    clear hb d2 d3
    go_wp2_with fail
    go_ret
    refine ⟨ret_str ?_, HB3.out⟩
    rw [WP.txt, padT, HZ.out, HT.out, HQ.out]
    first | rw [if_pos hs] | rw [if_neg (by omega)]
    apply ByteArray.ext
    simp
end Go.Proofs.YtpjncnoejdaplaaGreatDoor
namespace Go.Proofs.YtpjncnoejdaplaaGreatDoor
open Go Go.RowKit Go.Shelf

/-- A function value, called with one argument. -/
def CallsV (v x : Value) (w : World) (post : Ending → World → Prop) : Prop :=
  ∃ f c, v = .func (.func f) #[] c ∧ (∀ args w, (callFunc f args).run Tryz.prog w = .ok (.enter f args) w) ∧ Calls Tryz.prog f (#[x] ++ c) w post
/-- The pads that are used. -/
def padOK : WP → Prop
  | .pad d f _ => d ≤ 100 ∧ f.size ≤ 100
  | _ => True
theorem write_any (m : Mom) (hm : MomOK m) (p : WP) (hp : padOK p) (mb : Nat) (v : Value) (eb : Addr) (w : World) (hG : GlobW w eb) (h : WrAt w mb v (.plain p)) :
    CallsV v (.agg (momV m)) w fun e w' => e = .returned (.string ⟨(p.txt m).toArray⟩) ∧ Below w.heap.size w w' := by
  match p, hp, h with
  | .dayS, _, ⟨b, e, h⟩ => exact ⟨_, _, e, enters_of Tryz.func63 (by kernel_rfl) rfl, write_dayS m hm mb b w h⟩
  | .dayL, _, ⟨b, e, h⟩ => exact ⟨_, _, e, enters_of Tryz.func65 (by kernel_rfl) rfl, write_dayL m hm mb b w h⟩
  | .monS, _, ⟨b, .inl e, h⟩ => exact ⟨_, _, e, enters_of Tryz.func66 (by kernel_rfl) rfl, write_monS m hm mb b w h⟩
  | .monS, _, ⟨b, .inr e, h⟩ => exact ⟨_, _, e, enters_of Tryz.func67 (by kernel_rfl) rfl, write_monS2 m hm mb b w h⟩
  | .monL, _, ⟨b, e, h⟩ => exact ⟨_, _, e, enters_of Tryz.func68 (by kernel_rfl) rfl, write_monL m hm mb b w h⟩
  | .halfU, _, h => exact ⟨_, _, h, enters_of Tryz.func69 (by kernel_rfl) rfl, write_halfU m w⟩
  | .halfL, _, h => exact ⟨_, _, h, enters_of Tryz.func71 (by kernel_rfl) rfl, write_halfL m w⟩
  | .text t, _, ⟨b, e, h⟩ => exact ⟨_, _, e, enters_of Tryz.func105 (by kernel_rfl) rfl, write_text m t mb b w h⟩
  | .pad d f n, ⟨hd, hf⟩, ⟨b1, b2, b3, e, h1, h2, h3⟩ => exact ⟨_, _, e, enters_of Tryz.func159 (by kernel_rfl) rfl, write_pad m hm d hd f hf n mb b1 b2 b3 eb w hG h1 h2 h3⟩
theorem zeroWr (w : World) : (zeroValue 108).run Tryz.prog w = .ok .nilFunc w := by kernel_rfl
/-- A map, and what its functions write. -/
def SemAt (w : World) (mb n : Nat) (m : Mom) (P : Nat → Prop) (sem : Nat → Option (List UInt8)) : Prop := ∃ f, MapF w mb n f ∧ ∀ c, P c → match sem c with
  | none => isFn (f c) = false
  | some t => isFn (f c) = true ∧ t.length ≤ 10000 ∧ ∀ w', Below w.heap.size w w' → CallsV (f c) (.agg (momV m)) w' fun e w'' => e = .returned (.string ⟨t.toArray⟩) ∧ Below w'.heap.size w' w''
theorem fmtT_len (sem : Nat → Option (List UInt8)) (hs : ∀ c t, sem c = some t → t.length ≤ 10000) : ∀ l : List UInt8, (fmtT sem l).length ≤ 10000 * l.length
  | [] => by simp [fmtT]
  | [c] => by simp [fmtT]
  | c :: d :: r => by
    have h1 := fmtT_len sem hs r
    have h2 := fmtT_len sem hs (d :: r)
    unfold fmtT
    split
    · split
      · next t e =>
        have := hs _ _ e
        simp only [List.length_append, List.length_cons] at *
        omega
      · simp only [List.length_cons] at *
        omega
    · simp only [List.length_cons] at *
      omega
theorem row13 {w : World} {b : Nat} {u0 u1 u2 u3 u4 u5 u6 u7 u8 u9 u10 u11 u12 : Value} {t : TypeId} (h : w.heap[b]? = some (.cells #[u0, u1, u2, u3, u4, u5, u6, u7, u8, u9, u10, u11, u12] t (0, 0))) :
    w.cell? ⟨b, 0, none⟩ = some u0 ∧ w.cell? ⟨b, 1, none⟩ = some u1 ∧ w.cell? ⟨b, 2, none⟩ = some u2 ∧ w.cell? ⟨b, 3, none⟩ = some u3 ∧ w.cell? ⟨b, 4, none⟩ = some u4 ∧ w.cell? ⟨b, 5, none⟩ = some u5 ∧ w.cell? ⟨b, 6, none⟩ = some u6 ∧ w.cell? ⟨b, 7, none⟩ = some u7 ∧ w.cell? ⟨b, 8, none⟩ = some u8 ∧ w.cell? ⟨b, 9, none⟩ = some u9 ∧ w.cell? ⟨b, 10, none⟩ = some u10 ∧ w.cell? ⟨b, 11, none⟩ = some u11 ∧ w.cell? ⟨b, 12, none⟩ = some u12 := by
  refine ⟨?_, ?_, ?_, ?_, ?_, ?_, ?_, ?_, ?_, ?_, ?_, ?_, ?_⟩ <;> simp [World.cell?, h]
theorem fmtT_some (sem : Nat → Option (List UInt8)) (l : List UInt8) (k : Nat) (h : k + 1 < l.length) (h1 : l[k] = 37) (t : List UInt8) (ht : sem (l[k + 1]).toNat = some t) : fmtT sem (l.drop k) = t ++ fmtT sem (l.drop (k + 2)) := by
  rw [List.drop_eq_getElem_cons (show k < l.length by omega), List.drop_eq_getElem_cons h, h1]
  conv => lhs; unfold fmtT
  rw [if_pos rfl, ht]
theorem fmtT_byte (sem : Nat → Option (List UInt8)) (l : List UInt8) (k : Nat) (h : k < l.length) (h1 : l[k] ≠ 37 ∨ k + 1 = l.length ∨ ∃ h : k + 1 < l.length, sem (l[k + 1]).toNat = none) : fmtT sem (l.drop k) = l[k] :: fmtT sem (l.drop (k + 1)) := by
  rw [List.drop_eq_getElem_cons h]
  rcases Nat.lt_or_ge (k + 1) l.length with h2 | h2
  · rw [List.drop_eq_getElem_cons h2]
    conv => lhs; unfold fmtT
    split
    · next e =>
      rcases h1 with h1 | h1 | ⟨_, h1⟩
      · exact absurd e h1
      · omega
      · rw [h1]
    · rfl
  · rw [List.drop_eq_nil_of_le h2]
    simp [fmtT]
theorem SemAt.below {w w' : World} {mb n : Nat} {m : Mom} {P : Nat → Prop} {sem : Nat → Option (List UInt8)} (h : SemAt w mb n m P sem) (hb : Below w.heap.size w w') : SemAt w' mb n m P sem := by
  obtain ⟨f, h1, h2⟩ := h
  refine ⟨f, h1.block (hb.block mb h1.lt), fun c hc => ?_⟩
  have h3 := h2 c hc
  cases e : sem c with
  | none => rw [e] at h3; exact h3
  | some t => rw [e] at h3; exact ⟨h3.1, h3.2.1, fun w'' hb' => h3.2.2 w'' (hb.trans (hb'.mono hb.size))⟩
theorem own_belowK {W w2 : World} {base : Nat} {e : TypeId} {size : Nat} {v : Value} {n : Nat} {xs : List Value} (h : W.ownsRow base e size v n xs) (h2 : Below W.heap.size W w2) : w2.ownsRow base e size v n xs :=
  h.kept (row := none) ⟨h2.os, h2.tape, h2.output, h2.size, fun k hk _ => h2.block k hk⟩ (by cases v.ownBlock <;> simp)
theorem builderAt_below {W w2 : World} {t e : TypeId} {B b : Nat} {p : Value} {xs : List Value} (h : Lib.BuilderAt t e B b p xs W) (h2 : Below W.heap.size W w2) : Lib.BuilderAt t e B b p xs w2 := by
  obtain ⟨h1, v, hb, hown, hne⟩ := h
  exact ⟨h1, v, (h2.block b (Array.getElem?_eq_some_iff.1 hb).1).trans hb, own_belowK hown h2, hne⟩
theorem isBuilder_below {W w2 : World} {t e : TypeId} {B b : Nat} {xs : List Value} (h : Lib.IsBuilder t e B b xs W) (h2 : Below W.heap.size W w2) : Lib.IsBuilder t e B b xs w2 :=
  h.elim (fun h => .inl (builderAt_below h h2)) (fun h => .inr (builderAt_below h h2))
theorem isBuilder_new (w : World) (B : Nat) (hB : B = w.heap.size) : Lib.IsBuilder 106 5 B B (Lib.byteCells []) (w.alloc (.cells #[.pointer none, .slice none 0 0] 106)) := by
  subst hB
  refine .inl ⟨Nat.le_refl _, .slice none 0 0, ?_, ?_, ?_⟩
  · show (w.heap.push _)[w.heap.size]? = _
    simp
  · exact World.ownsRow_nil _ _ _ _
  · simp [Value.ownBlock]
/-- What the loop knows of its world. -/
structure WrLoop (w W : World) (m : Mom) (l : List UInt8) : Prop where
  row : W.heap[w.heap.size]? = some (.cells (momV m) 57 (0, 0))
  bel : Below w.heap.size w W
  blt : Lib.IsBuilder 106 5 (w.heap.size + 1) (w.heap.size + 1) (Lib.byteCells l) W
  size : w.heap.size + 1 < W.heap.size
theorem WrLoop.grow {w W W' : World} {m : Mom} {l : List UInt8} (h : WrLoop w W m l) (hb : Below W.heap.size W W') : WrLoop w W' m l :=
  ⟨(hb.block _ (by have := h.size; omega)).trans h.row, h.bel.trans (hb.mono h.bel.size), isBuilder_below h.blt hb, Nat.lt_of_lt_of_le h.size hb.size⟩
theorem WrLoop.start (w : World) (m : Mom) : WrLoop w ((w.alloc (.cells (momV m) 57)).alloc (.cells #[.pointer none, .slice none 0 0] 106)) m [] := by
  refine ⟨?_, ((Below.refl _ _).alloc (Nat.le_refl _) _).alloc (by simp) _, isBuilder_new _ _ (by simp), by simp⟩
  show ((w.heap.push _).push _)[w.heap.size]? = _
  simp [Array.getElem?_push]
theorem lt_list {f : ByteArray} {k : Nat} (h : k < f.size) : k < f.data.toList.length := by simpa using h
theorem byteCells_one (c : UInt8) : Lib.byteCells [c] = [.int .u8 c.toNat] := rfl
theorem byteCells_app (l m : List UInt8) : Lib.byteCells (l ++ m) = Lib.byteCells l ++ Lib.byteCells m := by unfold Lib.byteCells; rw [List.map_append]
theorem byteCells_len (l : List UInt8) : (Lib.byteCells l).length = l.length := by unfold Lib.byteCells; rw [List.length_map]
theorem strCells_mk (t : List UInt8) : Lib.strCells ⟨t.toArray⟩ = Lib.byteCells t := by simp [Lib.strCells, Lib.byteCells]
theorem WrLoop.byte {w W W' : World} {m : Mom} {l : List UInt8} {c : UInt8} (h : WrLoop w W m l) (h1 : Lib.BuilderAt 106 5 (w.heap.size + 1) (w.heap.size + 1) (.pointer (some ⟨w.heap.size + 1, 0, none⟩)) (Lib.byteCells l ++ [.int .u8 c.toNat]) W') (hb : Below (w.heap.size + 1) W W') : WrLoop w W' m (l ++ [c]) :=
  ⟨(hb.block _ (by omega)).trans h.row, h.bel.trans (hb.mono (by omega)), .inr (by rw [byteCells_app]; exact h1), Nat.lt_of_lt_of_le h.size hb.size⟩
theorem WrLoop.text {w W W' : World} {m : Mom} {l t : List UInt8} (h : WrLoop w W m l) (h1 : Lib.BuilderAt 106 5 (w.heap.size + 1) (w.heap.size + 1) (.pointer (some ⟨w.heap.size + 1, 0, none⟩)) (Lib.byteCells l ++ Lib.strCells ⟨t.toArray⟩) W') (hb : Below (w.heap.size + 1) W W') : WrLoop w W' m (l ++ t) :=
  ⟨(hb.block _ (by omega)).trans h.row, h.bel.trans (hb.mono (by omega)), .inr (by rw [byteCells_app, ← strCells_mk]; exact h1), Nat.lt_of_lt_of_le h.size hb.size⟩
set_option maxRecDepth 100000 in
set_option maxHeartbeats 4000000 in
/-- A format written, where each directive's text is known. -/
theorem written_any (m : Mom) (f : ByteArray) (hf : f.size ≤ 1048576) (P : Nat → Prop) (hP : ∀ c ∈ f.data.toList, P c.toNat) (sem : Nat → Option (List UInt8)) (mb n : Nat) (w : World) (hS : SemAt w mb n m P sem) :
    Calls Tryz.prog 24 #[.agg (momV m), .string f, .map (some mb)] w fun e w' => e = .returned (.string ⟨(fmtT sem f.data.toList).toArray⟩) ∧ Below w.heap.size w w' := by
  have HS := Lib.hid hS
  have HP := Lib.hid hP
  clear hS hP
  unfold momV
  go_enter Tryz.func24, Tryz.ntmps24
  go_wp2_with fail
  go_loopw [8] (fun i wr => ∃ (k : Nat) (l : List UInt8), k ≤ f.size ∧ i = .int .i64 k ∧ l.length ≤ 10000 * k ∧ Hid (l ++ fmtT sem (f.data.toList.drop k) = fmtT sem f.data.toList) ∧ Hid (WrLoop w wr m l)) (fun i _ => f.size - (intOf i).toNat)
  case atStart =>
    exact ⟨0, [], by omega, rfl, by simp, Lib.hid (by simp), Lib.hid (WrLoop.start w m)⟩
  case round =>
    obtain ⟨k, l, hk, rfl, hl, HE, HL⟩ := hrel
    have HSZ : Hid (f.data.toList.length = f.size) := Lib.hid (by simp)
    by_cases hlt : k < f.size
    · obtain ⟨c, hc⟩ : ∃ c, f[k] = c := ⟨_, rfl⟩
      have hc' : f.data.toList[k]'(lt_list hlt) = c := hc
      by_cases hx : c = 37 ∧ ∃ h : k + 1 < f.size, ∃ t, sem (f.data.toList[k + 1]'(lt_list h)).toNat = some t
      · obtain ⟨rfl, h2, t, ht⟩ := hx
        obtain ⟨d, hd⟩ : ∃ d, f[k + 1] = d := ⟨_, rfl⟩
        have HF := Lib.hid (fmtT_some sem f.data.toList k (lt_list h2) hc' t ht)
        have hd' : f.data.toList[k + 1]'(lt_list h2) = d := hd
        rw [hd'] at ht
        obtain ⟨F, hM, hA⟩ := HS.out.below HL.out.bel
        have hA1 := hA d.toNat (HP.out _ (by rw [← hd']; exact List.getElem_mem _))
        rw [ht] at hA1
        obtain ⟨hfn, htl, hcall⟩ := hA1
        obtain ⟨fid, caps, hv, hen, hcl⟩ := hcall _ (Below.refl _ _)
        have hlk := (hM.look Tryz.underlying64 (zeroWr _) (c := d.toNat) (by have := d.toNat_lt; omega)).1
        rw [hfn, hv] at hlk
        have HC := Lib.hid hcl
        obtain ⟨u0, u1, u2, u3, u4, u5, u6, u7, u8, u9, u10, u11, u12⟩ := row13 (by exact HL.out.row)
        clear hM hA hfn hcall hv hcl hc' hd' ht
        go_wp2_with fail
        refine HC.out.mono ?_
        rintro e w2 ⟨rfl, hb⟩
        have HL2 := Lib.hid (HL.out.grow hb)
        clear hb u0 u1 u2 u3 u4 u5 u6 u7 u8 u9 u10 u11 u12 hlk hen
        go_wp2_with fail
        refine (Builder_WriteString (w.heap.size + 1) (w.heap.size + 1) (Lib.byteCells l) ⟨t.toArray⟩ w2 HL2.out.blt (by rw [byteCells_len]; show l.length + t.toArray.size ≤ _; rw [List.size_toArray]; omega) (by have := HL2.out.size; omega)).mono ?_
        rintro e w3 ⟨rfl, hblt, hb⟩
        have HL3 := Lib.hid (HL2.out.text hblt hb)
        clear hb hblt
        go_wp2_with fail
        go_roundw
        case rel => exact ⟨k + 2, l ++ t, by omega, by go_num, by rw [List.length_append]; omega, Lib.hid (by rw [List.append_assoc, ← HF.out]; exact HE.out), HL3⟩
        case measure => simp [intOf]; omega
      · have hno : f.data.toList[k]'(lt_list hlt) ≠ 37 ∨ k + 1 = f.data.toList.length ∨ ∃ h : k + 1 < f.data.toList.length, sem (f.data.toList[k + 1]).toNat = none := by
          by_cases h1 : c = 37
          · rcases Nat.lt_or_ge (k + 1) f.size with h2 | h2
            · refine .inr (.inr ⟨lt_list h2, ?_⟩)
              cases e : sem (f.data.toList[k + 1]'(lt_list h2)).toNat with
              | none => rfl
              | some t => exact absurd ⟨h1, h2, t, e⟩ hx
            · exact .inr (.inl (by rw [HSZ.out]; omega))
          · exact .inl (by rw [hc']; exact h1)
        have HF := Lib.hid (fmtT_byte sem f.data.toList k (lt_list hlt) hno)
        rw [hc'] at HF
        have HN := Lib.hid hno
        clear hx hno
        by_cases h1 : c = 37
        · subst h1
          rcases Nat.lt_or_ge (k + 1) f.size with h2 | h2
          · obtain ⟨d, hd⟩ : ∃ d, f[k + 1] = d := ⟨_, rfl⟩
            have hd' : f.data.toList[k + 1]'(lt_list h2) = d := hd
            have ht : sem d.toNat = none := by
              rcases HN.out with h | h | ⟨h, h3⟩
              · exact absurd hc' h
              · simp at h
                omega
              · rw [hd'] at h3
                exact h3
            obtain ⟨F, hM, hA⟩ := HS.out.below HL.out.bel
            have hA1 := hA d.toNat (HP.out _ (by rw [← hd']; exact List.getElem_mem _))
            rw [ht] at hA1
            have hlk := (hM.look Tryz.underlying64 (zeroWr _) (c := d.toNat) (by have := d.toNat_lt; omega)).1
            rw [show isFn (F d.toNat) = false from hA1] at hlk
            clear hM hA hA1 hc' hd' ht
            go_wp2_with fail
            refine (Builder_WriteByte (w.heap.size + 1) (w.heap.size + 1) (Lib.byteCells l) (37 : UInt8).toNat wr HL.out.blt (by rw [byteCells_len]; omega) (by have := HL.out.size; omega)).mono ?_
            rintro e w3 ⟨rfl, hblt, hb⟩
            have HL3 := Lib.hid (HL.out.byte (c := 37) hblt hb)
            clear hb hblt
            go_wp2_with fail
            go_roundw
            case rel => exact ⟨k + 1, l ++ [37], by omega, by go_num, by rw [List.length_append, List.length_singleton]; omega, Lib.hid (by rw [List.append_assoc, List.singleton_append, ← HF.out]; exact HE.out), HL3⟩
            case measure => simp [intOf]; omega
          · have h3 : decide (k + 1 < f.size) = false := decide_eq_false (by omega)
            have h4 : decide ((k : Int) + 1 < (f.size : Int)) = false := decide_eq_false (by omega)
            clear hc'
            go_wp2_with fail
            refine (Builder_WriteByte (w.heap.size + 1) (w.heap.size + 1) (Lib.byteCells l) (37 : UInt8).toNat wr HL.out.blt (by rw [byteCells_len]; omega) (by have := HL.out.size; omega)).mono ?_
            rintro e w3 ⟨rfl, hblt, hb⟩
            have HL3 := Lib.hid (HL.out.byte (c := 37) hblt hb)
            clear hb hblt
            go_wp2_with fail
            go_roundw
            case rel => exact ⟨k + 1, l ++ [37], by omega, by go_num, by rw [List.length_append, List.length_singleton]; omega, Lib.hid (by rw [List.append_assoc, List.singleton_append, ← HF.out]; exact HE.out), HL3⟩
            case measure => simp [intOf]; omega
        · have h3 : ((c.toNat : Int) == 37) = false := by
            rw [beq_eq_false_iff_ne]
            intro e
            exact h1 (UInt8.toNat_inj.1 (by have : (37 : UInt8).toNat = 37 := rfl
                                            omega))
          clear hc' h1
          go_wp2_with fail
          refine (Builder_WriteByte (w.heap.size + 1) (w.heap.size + 1) (Lib.byteCells l) c.toNat wr HL.out.blt (by rw [byteCells_len]; omega) (by have := HL.out.size; omega)).mono ?_
          rintro e w3 ⟨rfl, hblt, hb⟩
          have HL3 := Lib.hid (HL.out.byte (c := c) hblt hb)
          clear hb hblt
          go_wp2_with fail
          go_roundw
          case rel => exact ⟨k + 1, l ++ [c], by omega, by go_num, by rw [List.length_append, List.length_singleton]; omega, Lib.hid (by rw [List.append_assoc, List.singleton_append, ← HF.out]; exact HE.out), HL3⟩
          case measure => simp [intOf]; omega
    · have hkk : k = f.size := by omega
      subst hkk
      have HD := Lib.hid (show l = fmtT sem f.data.toList from by
        have := HE.out
        rw [List.drop_of_length_le (by simp)] at this
        simpa [fmtT] using this)
      clear hlt hk
      go_wp2_with fail
      refine (Tryz.Builder_String_any (w.heap.size + 1) (w.heap.size + 1) l wr HL.out.blt (by have := HL.out.size; omega)).mono ?_
      rintro e w3 ⟨rfl, hb⟩
      have HB := Lib.hid hb
      clear hb
      go_wp2_with fail
      go_ret
      exact ⟨ret_str (by rw [HD.out]), HL.out.bel.trans (HB.out.mono (by omega))⟩
end Go.Proofs.YtpjncnoejdaplaaGreatDoor
namespace Go.Proofs.YtpjncnoejdaplaaGreatDoor
open Go Go.RowKit Go.Shelf

/-- Three blocks, one behind the other. -/
theorem three_new (w : World) (o1 o2 o3 : Obj) : (((w.alloc o1).alloc o2).alloc o3).heap[w.heap.size]? = some o1 ∧ (((w.alloc o1).alloc o2).alloc o3).heap[w.heap.size + 1]? = some o2 ∧ (((w.alloc o1).alloc o2).alloc o3).heap[w.heap.size + 1 + 1]? = some o3 ∧ (((w.alloc o1).alloc o2).alloc o3).heap.size = w.heap.size + 1 + 1 + 1 ∧ Below w.heap.size w (((w.alloc o1).alloc o2).alloc o3) := by
  have h1 := row_alloc3 (row_alloc3 (heap_alloc_new w o1) o2) o3
  have h2 := row_alloc3 (heap_alloc_new (w.alloc o1) o2) o3
  have h3 := heap_alloc_new ((w.alloc o1).alloc o2) o3
  rw [World.size_alloc] at h2 h3
  rw [World.size_alloc] at h3
  exact ⟨h1, h2, h3, by simp, (((Below.refl w.heap.size w).alloc (Nat.le_refl _) _).alloc (by simp) _).alloc (by simp; omega) _⟩
theorem hmf (fn : Fn) (first cap : Array Value) (w : World) : (Instr.makeFunc fn first cap).run Tryz.prog w = .ok (.func fn first cap) w := by
  first | rfl | simp [Instr.makeFunc]
set_option maxRecDepth 100000 in
theorem weekdays_any (w : World) : Calls Tryz.prog 61 #[] w fun e w' => e = .returned (.slice (some ⟨w.heap.size, 0, none⟩) 7 7) ∧ w' = w.alloc (.cells (dayNames.map Value.string).toArray 9) := by
  go_enter Tryz.func61, Tryz.ntmps61
  go_wp2_with fail
  go_ret
  exact ⟨rfl, rfl⟩
set_option maxRecDepth 100000 in
theorem months_any (w : World) : Calls Tryz.prog 62 #[] w fun e w' => e = .returned (.slice (some ⟨w.heap.size, 0, none⟩) 12 12) ∧ w' = w.alloc (.cells (monthNames.map Value.string).toArray 9) := by
  go_enter Tryz.func62, Tryz.ntmps62
  go_wp2_with fail
  go_ret
  exact ⟨rfl, rfl⟩
theorem always_any (t : ByteArray) (mb : Nat) (w : World) (hm : mb < w.heap.size) : Calls Tryz.prog 72 #[.string t] w fun e w' => (∃ v, e = .returned v ∧ isFn v = true ∧ WrAt w' mb v (.plain (.text t))) ∧ Below w.heap.size w w' := by
  have HM := Lib.hid hm
  have h := hmf
  clear hm
  go_enter Tryz.func72, Tryz.ntmps72
  go_wp2_with fail
  go_ret
  exact ⟨⟨_, rfl, rfl, w.heap.size, rfl, by have := HM.out; omega, heap_alloc_new w _⟩, (Below.refl _ _).alloc (Nat.le_refl _) _⟩
theorem padded_any (d : Nat) (f : ByteArray) (n : NF) (mb : Nat) (w : World) (hm : mb < w.heap.size) : Calls Tryz.prog 109 #[.int .i64 d, .string f, .func (.func n.fn) #[] #[]] w fun e w' => (∃ v, e = .returned v ∧ isFn v = true ∧ WrAt w' mb v (.plain (.pad d f n))) ∧ Below w.heap.size w w' := by
  have HM := Lib.hid hm
  have h := hmf
  clear hm
  go_enter Tryz.func109, Tryz.ntmps109
  go_wp2_with fail
  go_ret
  have h1 := HM.out
  obtain ⟨r1, r2, r3, _, rb⟩ := three_new w (.cells #[.int .i64 d] 3) (.cells #[.string f] 9) (.cells #[.func (.func n.fn) #[] #[]] 153)
  exact ⟨⟨_, rfl, rfl, _, _, _, rfl, ⟨by omega, r3⟩, ⟨by omega, r2⟩, ⟨by omega, r1⟩⟩, rb⟩
end Go.Proofs.YtpjncnoejdaplaaGreatDoor

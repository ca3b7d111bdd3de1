/- The document's run: bytes on their way. -/
import Derived.Test.YtmicpdibnkmekaaGreatDoorRBuild
import Derived.Test.YtmicpdibnkmekaaGreatDoorQBase
import Derived.Lib.ConvBytes
import Derived.Lib.SlBytesConst
import Derived.Test.YtmicpdibnkmekaaGreatDoorRPrint
import Derived.Lib.Repeat
namespace Go.Proofs.YtmicpdibnkmekaaGreatDoor
open Go Go.RowKit

def runC (y : Sty) (v : Value) (bad : Bool) : Array Value := #[.int .i64 y.ind, .bool y.tab, .bool y.srt, .bool y.asc, .bool y.col, v, .bool bad]
/-- The run in block b: its row v, the bytes l in it. -/
structure RnV (w : World) (b : Nat) (y : Sty) (st : Option (List UInt8)) (v : Value) (l : List UInt8) : Prop where
  len : l.length ≤ 16777216
  row : w.heap[b]? = some (.cells (runC y v st.isNone) 76 (0, 0))
  own : w.ownsRow (b + 1) 5 1 v l.length (Lib.byteCells l)
  is : ∀ m, st = some m → m = l
def RnAt (w : World) (b : Nat) (y : Sty) (st : Option (List UInt8)) : Prop := ∃ v l, RnV w b y st v l
/-- A row of bytes that lies between H and the heap's end. -/
def Byt (w : World) (H : Nat) (v : Value) (t : List UInt8) : Prop := ArrP w (fun g => H ≤ g ∧ g < w.heap.size) v (Lib.byteCells t) ∧ ∀ n c, v = .slice none n c → c = 0
/-- What a put leaves: all blocks but the run and its row. -/
def Puts (b : Nat) (v : Value) (w w' : World) : Prop := WStep b w w' ∧ ∀ k, k < w.heap.size → k ≠ b → v.ownBlock ≠ some k → w'.heap[k]? = w.heap[k]?
theorem one_byteR (l : List UInt8) : ∀ u ∈ Lib.byteCells l, u.oneCell' = true := by
  intro u hu
  obtain ⟨_, _, rfl⟩ := List.mem_map.1 hu
  rfl
theorem blen (t : List UInt8) : (Lib.byteCells t).length = t.length := by simp [Lib.byteCells]
theorem row7R {w : World} {b : Nat} {y : Sty} {v : Value} {bad : Bool} {t : TypeId} (hb : w.heap[b]? = some (.cells (runC y v bad) t (0, 0))) :
    w.cell? ⟨b, 0, none⟩ = some (.int .i64 y.ind) ∧ w.cell? ⟨b, 1, none⟩ = some (.bool y.tab) ∧ w.cell? ⟨b, 2, none⟩ = some (.bool y.srt) ∧ w.cell? ⟨b, 3, none⟩ = some (.bool y.asc) ∧ w.cell? ⟨b, 4, none⟩ = some (.bool y.col) ∧
    w.cell? ⟨b, 5, none⟩ = some v ∧ w.cell? ⟨b, 6, none⟩ = some (.bool bad) ∧ w.frozen? ⟨b, 5, none⟩ = false ∧ w.frozen? ⟨b, 6, none⟩ = false ∧ b < w.heap.size := by
  refine ⟨?_, ?_, ?_, ?_, ?_, ?_, ?_, ?_, ?_, (Array.getElem?_eq_some_iff.1 hb).1⟩ <;> simp [World.cell?, World.frozen?, hb, runC]
theorem heap_set_ne {w : World} {b i k : Nat} {x : Value} (hn : k ≠ b) : (w.setCell ⟨b, i, none⟩ x).heap[k]? = w.heap[k]? := by
  have hn' : b ≠ k := fun e => hn e.symm
  simp [World.setCell, Array.getElem?_modify, hn']
theorem ArrP.setAway {w : World} {p : Nat → Prop} {v : Value} {xs : List Value} (h : ArrP w p v xs) {b i : Nat} (hb : ¬ p b) (x : Value) : ArrP (w.setCell ⟨b, i, none⟩ x) p v xs :=
  h.keep fun a ha => by
    have hn : a.block ≠ b := fun e => hb (e ▸ ha)
    unfold World.cell?
    rw [heap_set_ne hn]
theorem runR_set6 {w : World} {b : Nat} {y : Sty} {v : Value} {bad : Bool} {t : TypeId} (hb : w.heap[b]? = some (.cells (runC y v bad) t (0, 0))) (x : Bool) : (w.setCell ⟨b, 6, none⟩ (.bool x)).heap[b]? = some (.cells (runC y v x) t (0, 0)) := by
  simp [World.setCell, Array.getElem?_modify, hb, runC]
theorem runR_set5 {w : World} {b : Nat} {y : Sty} {v v' : Value} {bad : Bool} {t : TypeId} (hb : w.heap[b]? = some (.cells (runC y v bad) t (0, 0))) : (w.setCell ⟨b, 5, none⟩ v').heap[b]? = some (.cells (runC y v' bad) t (0, 0)) := by
  simp [World.setCell, Array.getElem?_modify, hb, runC]
theorem Puts.set {b : Nat} {v : Value} {w w' : World} (h : Puts b v w w') (i : Nat) (x : Value) : Puts b v w (w'.setCell ⟨b, i, none⟩ x) :=
  ⟨h.1.trans (wstep_set _), fun k hk hn hv => (heap_set_ne hn).trans (h.2 k hk hn hv)⟩
theorem Puts.refl (b : Nat) (v : Value) (w : World) : Puts b v w w := ⟨WStep.refl _ _, fun _ _ _ _ => rfl⟩
set_option maxRecDepth 100000 in
set_option maxHeartbeats 2000000 in
theorem put_R (b : Nat) (y : Sty) (st : Option (List UInt8)) (v : Value) (l t : List UInt8) (ht : t.length ≤ 1073741824) (tv : Value) (w : World) (h : RnV w b y st v l) (ha : Byt w (b + 1) tv t) :
    Calls Tryz.prog 138 #[.pointer (some ⟨b, 0, none⟩), tv] w fun e w' => e = .returned (.tuple #[]) ∧ RnAt w' b y (putS st t) ∧ Puts b v w w' := by
  obtain ⟨hlen, hrow, hown, his⟩ := h
  obtain ⟨c0, c1, c2, c3, c4, c5, c6, f5, f6, hlt⟩ := row7R hrow
  obtain ⟨A, cp, rfl⟩ := own_sliceV hown
  have hal := ha.1
  obtain ⟨A', c', rfl, hc⟩ := ha.1
  rw [blen] at *
  cases st with
  | none =>
    have hr6 := runR_set6 hrow true
    have HR := Lib.hid hr6
    have HO := Lib.hid (own_set_other hown (b := b) (i := 6) (by omega) (.bool true))
    clear hr6 hrow hown his ha hal hc
    go_enter Tryz.func138, Tryz.ntmps138
    go_wp2_with fail
    go_end0
    exact ⟨rfl, ⟨_, _, ⟨hlen, HR.out, HO.out, fun m e => by cases e⟩⟩, (Puts.refl _ _ _).set _ _⟩
  | some m =>
    obtain rfl := his m rfl
    by_cases hbig : m.length + t.length ≤ 16777216
    · have hr6 := runR_set6 hrow false
      have ho6 := own_set_other hown (b := b) (i := 6) (by omega) (.bool false)
      have hp6 := hal.setAway (b := b) (i := 6) (by omega) (.bool false)
      have ha6 : Arr (w.setCell ⟨b, 6, none⟩ (.bool false)) w.heap.size (.slice A' t.length c') (Lib.byteCells t) := by
        obtain ⟨A2, c2, e, h2⟩ := hp6
        exact ⟨A2, c2, e, fun h0 => by obtain ⟨ad, e1, ⟨_, e2⟩, e3⟩ := h2 h0; exact ⟨ad, e1, e2, e3⟩⟩
      have HNIL := Lib.hid ha.2
      have HR := Lib.hid hr6
      have HO := Lib.hid ho6
      have HA := Lib.hid ha6
      have hz : (w.setCell ⟨b, 6, none⟩ (.bool false)).heap.size = w.heap.size := by simp
      clear hr6 ho6 hp6 ha6 hrow hown his ha hal hc
      have dB : decide ((16777216 : Int) < (m.length : Int) + (t.length : Int)) = false := by simp; omega
      rw [putS_fit hbig]
      have HBIG := Lib.hid hbig
      clear hbig
      go_enter Tryz.func138, Tryz.ntmps138
      go_wp2_with (at_builtin; refine app_arr rfl _ _ _ rfl (b + 1) 5 _ 1 Tryz.underlying56 infoU8 rfl _ _ _ rfl (by exact HO.out) w.heap.size _ (Lib.byteCells t) (by exact HA.out) (by exact HNIL.out) rfl (one_byteR t) ?c1 ?c2 ?c3 ?_)
      case c1 => have := HBIG.out; rw [blen]; unfold maxLen; omega
      case c2 => have := HBIG.out; rw [blen]; omega
      case c3 => rw [hz]; omega
      intro v' w2 hown2 hg hob
      rw [blen] at hown2
      obtain ⟨A2, cp2, rfl⟩ := own_sliceV hown2
      have hb2 := grown_rowG0 HR.out HO.out hg
      obtain ⟨d0, d1, d2, d3, d4, d5, d6, g5, g6, hlt2⟩ := row7R hb2
      have HB2 := Lib.hid hb2
      have HO2 := Lib.hid hown2
      have HG := Lib.hid hg
      clear hb2 hown2 hg hob d0 d1 d2 d3 d4
      go_wp2_with fail
      go_end0
      refine ⟨rfl, ⟨_, _, ⟨?_, runR_set5 HB2.out, ?_, fun m' e => by cases e; rfl⟩⟩, ?_⟩
      · have := HBIG.out; rw [List.length_append]; omega
      · rw [List.length_append, Lib.byteCells_append]
        exact own_set_other HO2.out (by omega) _
      · refine ⟨WStep.trans (y := w.setCell ⟨b, 6, none⟩ (.bool false)) (wstep_set _) ?_, fun k hk hn hv => ?_⟩
        · exact ⟨((Below.refl b _).grown HG.out (by rw [hz]; omega) (fun k hk => by have := (HO.out.lt k hk).1; omega)).setCell (p := ⟨b, 5, none⟩) (Nat.le_refl _) _, ((Lib.OthersKept.refl _ (some b) _).grown HG.out (own_kind HO.out)).setCell ⟨b, 5, none⟩ rfl _⟩
        · rw [heap_set_ne hn, HG.out.block k (by rw [hz]; omega) hv.symm, heap_set_ne hn]
    · have hr6 := runR_set6 hrow true
      have HR := Lib.hid hr6
      have HO := Lib.hid (own_set_other hown (b := b) (i := 6) (by omega) (.bool true))
      clear hr6 hrow hown his ha hal hc
      have dB : decide ((16777216 : Int) < (m.length : Int) + (t.length : Int)) = true := by simp; omega
      rw [putS_not hbig]
      clear hbig
      go_enter Tryz.func138, Tryz.ntmps138
      go_wp2_with fail
      go_end0
      exact ⟨rfl, ⟨_, _, ⟨hlen, HR.out, HO.out, fun m' e => by cases e⟩⟩, (Puts.refl _ _ _).set _ _⟩
end Go.Proofs.YtmicpdibnkmekaaGreatDoor
namespace Go.Proofs.YtmicpdibnkmekaaGreatDoor
open Go Go.RowKit

theorem Byt.keep {w w' : World} {H : Nat} {v : Value} {t : List UInt8} (h : Byt w H v t) (hk : ∀ k, H ≤ k → k < w.heap.size → w'.heap[k]? = w.heap[k]?) (hz : w.heap.size ≤ w'.heap.size) : Byt w' H v t := by
  obtain ⟨⟨A, c, rfl, h2⟩, hn⟩ := h
  refine ⟨⟨A, c, rfl, fun h0 => ?_⟩, hn⟩
  obtain ⟨ad, e, ⟨p1, p2⟩, h3⟩ := h2 h0
  refine ⟨ad, e, ⟨p1, by omega⟩, fun j u hu => Eq.trans ?_ (h3 j u hu)⟩
  unfold World.cell?
  rw [add_block, hk _ p1 p2]
theorem Byt.below {w w' : World} {H : Nat} {v : Value} {t : List UInt8} (h : Byt w H v t) (hb : Below w.heap.size w w') : Byt w' H v t := h.keep (fun k _ hk => hb.block k hk) hb.size
theorem Byt.more {w : World} {H H' : Nat} {v : Value} {t : List UInt8} (h : Byt w H v t) (hH : H' ≤ H) : Byt w H' v t := by
  obtain ⟨⟨A, c, rfl, h2⟩, hn⟩ := h
  exact ⟨⟨A, c, rfl, fun h0 => by obtain ⟨ad, e, ⟨p1, p2⟩, h3⟩ := h2 h0; exact ⟨ad, e, ⟨by omega, p2⟩, h3⟩⟩, hn⟩
theorem Byt.of_own {w : World} {H n : Nat} {v : Value} {t : List UInt8} (h : w.ownsRow H 5 1 v n (Lib.byteCells t)) : Byt w H v t := by
  have hl : (Lib.byteCells t).length = n := by have := h.1; omega
  rcases h.2 with ⟨rfl, h0⟩ | ⟨g, cap, cur, rfl, hg, hh, _⟩
  · exact ⟨⟨none, 0, by rw [hl, h0], fun hn => by omega⟩, fun _ _ e => by cases e; rfl⟩
  · refine ⟨⟨some ⟨g, 0, none⟩, cap, by rw [hl], fun _ => ⟨_, rfl, ⟨hg, (h.lt g rfl).2⟩, h.cells (g := g) rfl⟩⟩, fun _ _ e => by cases e⟩
theorem addr_new (g j : Nat) : (⟨g, 0, none⟩ : Addr).add j = ⟨g, j, none⟩ := by
  unfold Addr.add
  by_cases h : j = 0
  · subst h; rfl
  · simp [h]
theorem byt_alloc (w : World) (H : Nat) (hH : H ≤ w.heap.size) (t : List UInt8) (c : Nat) (o : Obj) (cs : Array Value) (fz : Nat × Nat) (ho : o = .cells cs 5 fz) (hc : ∀ (j : Nat) (u : Value), (Lib.byteCells t)[j]? = some u → cs.toList[j]? = some u) : Byt (w.alloc o) H (.slice (some ⟨w.heap.size, 0, none⟩) t.length c) t := by
  refine ⟨⟨some ⟨w.heap.size, 0, none⟩, c, by rw [blen], fun _ => ⟨_, rfl, ⟨hH, by simp⟩, fun j u hu => ?_⟩⟩, fun _ _ e => by cases e⟩
  have h1 := hc j u hu
  subst ho
  have h2 : (w.alloc (.cells cs 5 fz)).heap[w.heap.size]? = some (.cells cs 5 fz) := by show (w.heap.push _)[w.heap.size]? = _; simp
  rw [addr_new]
  unfold World.cell?
  simp only []
  rw [h2]
  rw [Array.getElem?_toList] at h1
  simpa using h1
theorem below_conv (w : World) (s : ByteArray) : Below w.heap.size w (Lib.bytesWorld w 5 s) :=
  Lib.below_freeze ((Below.refl w.heap.size w).drew.alloc (Nat.le_refl _) _) (p := ⟨w.heap.size, _, none⟩) (Nat.le_refl _) _
theorem byt_conv (w : World) (s : ByteArray) (H : Nat) (hH : H ≤ w.heap.size) (c : Nat) : Byt (Lib.bytesWorld w 5 s) H (.slice (some ⟨w.heap.size, 0, none⟩) s.size c) s.data.toList := by
  have hsz : s.data.toList.length = s.size := by simp
  refine ⟨⟨some ⟨w.heap.size, 0, none⟩, c, by rw [blen, hsz], fun _ => ⟨_, rfl, ⟨hH, by rw [Lib.bytesWorld_size]; exact Nat.lt_succ_self _⟩, fun j u hu => ?_⟩⟩, fun _ _ e => by cases e⟩
  have hj : j < s.size := by have := (List.getElem?_eq_some_iff.1 hu).1; rw [blen, hsz] at this; exact this
  have h1 := Lib.bytesWorld_cell w 5 s j hj
  rw [addr_new, h1]
  have h2 : (Lib.byteCells s.data.toList)[j]? = some (.int .u8 ((s.data.toList.getD j 0).toNat : Int)) := by
    simp [Lib.byteCells, List.getD, hj]
  rw [h2] at hu
  exact hu
theorem RnV.below {w w' : World} {b : Nat} {y : Sty} {st : Option (List UInt8)} {v : Value} {l : List UInt8} (h : RnV w b y st v l) (hb : Below w.heap.size w w') : RnV w' b y st v l :=
  ⟨h.len, (hb.block b (Array.getElem?_eq_some_iff.1 h.row).1).trans h.row, own_belowV h.own hb, h.is⟩
theorem RnV.lt {w : World} {b : Nat} {y : Sty} {st : Option (List UInt8)} {v : Value} {l : List UInt8} (h : RnV w b y st v l) : b < w.heap.size := (Array.getElem?_eq_some_iff.1 h.row).1
theorem RnV.room {w : World} {b : Nat} {y : Sty} {st : Option (List UInt8)} {v : Value} {l : List UInt8} (h : RnV w b y st v l) : ∀ g, v.ownBlock = some g → g < w.heap.size := fun g hg => (h.own.lt g hg).2
theorem RnAt.below {w w' : World} {b : Nat} {y : Sty} {st : Option (List UInt8)} (h : RnAt w b y st) (hb : Below w.heap.size w w') : RnAt w' b y st := by
  obtain ⟨v, l, h⟩ := h
  exact ⟨v, l, h.below hb⟩
theorem RnAt.lt {w : World} {b : Nat} {y : Sty} {st : Option (List UInt8)} (h : RnAt w b y st) : b < w.heap.size := by
  obtain ⟨v, l, h⟩ := h
  exact h.lt
theorem RnAt.len {w : World} {b : Nat} {y : Sty} {st : Option (List UInt8)} (h : RnAt w b y st) : ∀ l, st = some l → l.length ≤ 16777216 := by
  rintro m rfl
  obtain ⟨v, l, h⟩ := h
  rw [h.is m rfl]
  exact h.len
theorem RnAt.cells {w : World} {b : Nat} {y : Sty} {st : Option (List UInt8)} (h : RnAt w b y st) :
    w.cell? ⟨b, 0, none⟩ = some (.int .i64 y.ind) ∧ w.cell? ⟨b, 1, none⟩ = some (.bool y.tab) ∧ w.cell? ⟨b, 2, none⟩ = some (.bool y.srt) ∧ w.cell? ⟨b, 3, none⟩ = some (.bool y.asc) ∧ w.cell? ⟨b, 4, none⟩ = some (.bool y.col) ∧ w.cell? ⟨b, 6, none⟩ = some (.bool st.isNone) := by
  obtain ⟨v, l, h⟩ := h
  obtain ⟨c0, c1, c2, c3, c4, c5, c6, _⟩ := row7R h.row
  exact ⟨c0, c1, c2, c3, c4, c6⟩
set_option maxRecDepth 100000 in
set_option maxHeartbeats 4000000 in
theorem token_R (b : Nat) (y : Sty) (st : Option (List UInt8)) (v : Value) (l : List UInt8) (H : Nat) (hH : ∀ g, v.ownBlock = some g → g < H) (hbH : b < H) (t : List UInt8) (ht : t.length ≤ 1073741824) (tv : Value) (colour : ByteArray) (hc : colour.size ≤ 1000) (w : World) (h : RnV w b y st v l) (hy : Byt w H tv t) :
    Calls Tryz.prog 83 #[.pointer (some ⟨b, 0, none⟩), tv, .string colour] w fun e w' => e = .returned (.tuple #[]) ∧ RnAt w' b y (putS st (tokT y.col colour.data.toList t)) ∧ WStep b w w' := by
  obtain ⟨c0, c1, c2, c3, c4, c5, c6, f5, f6, hlt⟩ := row7R h.row
  cases hcol : y.col with
  | false =>
    rw [hcol] at c4
    have hp := put_R b y st v l t ht tv w h (hy.more hbH)
    have HP := Lib.hid hp
    clear hp h hy c0 c1 c2 c3 c5 c6 f5 f6
    go_enter Tryz.func83, Tryz.ntmps83
    go_wp2_with fail
    refine HP.out.mono ?_
    rintro e w1 ⟨rfl, hw1, hs1⟩
    obtain ⟨d0, d1, d2, d3, d4, d6⟩ := hw1.cells
    rw [hcol] at d4
    have HW1 := Lib.hid hw1
    have HS1 := Lib.hid hs1
    clear hw1 hs1 d0 d1 d2 d3 d6
    go_wp2_with fail
    go_end0
    exact ⟨rfl, HW1.out, HS1.out.1⟩
  | true =>
    rw [hcol] at c4
    obtain ⟨S, hS⟩ : ∃ S : ByteArray, (⟨#[27, 91]⟩ : ByteArray) ++ colour ++ (⟨#[109]⟩ : ByteArray) = S := ⟨_, rfl⟩
    have hSz : S.size = colour.size + 3 := by rw [← hS, ByteArray.size_append, ByteArray.size_append]; show 2 + colour.size + 1 = _; omega
    have hSd : S.data.toList = [27, 91] ++ colour.data.toList ++ [109] := by rw [← hS, data_append, data_append]
    have hcv := Lib.run_convert_string_bytes (P := Tryz.prog) w 9 56 5 S Tryz.underlying9 Tryz.underlying56 Tryz.underlying5
    have hb1 := below_conv w S
    have hp1 := put_R b y st v l S.data.toList (by simp; omega) _ _ (h.below hb1) (byt_conv w S (b + 1) hlt (grownCap w S.size 0 5))
    have hy1 := hy.below hb1
    have hl1 : b < (Lib.bytesWorld w 5 S).heap.size := by rw [Lib.bytesWorld_size]; omega
    have hs0 : WStep b w (Lib.bytesWorld w 5 S) := WStep.of_below hb1 (Nat.le_of_lt hlt)
    have HP1 := Lib.hid hp1
    have HY1 := Lib.hid hy1
    have HS0 := Lib.hid hs0
    have HSD := Lib.hid hSd
    clear hp1 hy1 hs0 h hy hb1 hSd hSz c0 c1 c2 c3 c5 c6 f5 f6
    go_enter Tryz.func83, Tryz.ntmps83
    rw [← hcol] at c4
    go_wp2_with fail
    refine HP1.out.mono ?_
    rintro e w2 ⟨rfl, ⟨v2, l2, hw2⟩, hs2⟩
    have hy2 : Byt w2 (b + 1) tv t := (HY1.out.keep (fun k hk1 hk2 => hs2.2 k hk2 (by omega) (fun e => by have := hH k e; omega)) hs2.1.1.size).more hbH
    have hp2 := put_R b y (putS st S.data.toList) v2 l2 t ht tv w2 hw2 hy2
    have HP2 := Lib.hid hp2
    have HS2 := Lib.hid (HS0.out.trans hs2.1)
    clear hp2 hy2 hw2 hs2
    go_wp2_with fail
    refine HP2.out.mono ?_
    rintro e w3 ⟨rfl, ⟨v3, l3, hw3⟩, hs3⟩
    obtain ⟨d0, d1, d2, d3, d4, d5, d6, _⟩ := row7R hw3.row
    rw [hcol] at d4
    have hcc := Lib.run_convert_bytes_const (P := Tryz.prog) w3 56 5 #[.int .u8 27, .int .u8 91, .int .u8 48, .int .u8 109] 4 4 Tryz.underlying56 Tryz.underlying5
    have hb4 : Below w3.heap.size w3 (w3.alloc (.cells #[.int .u8 27, .int .u8 91, .int .u8 48, .int .u8 109] 5 (4, 5))) := (Below.refl _ w3).alloc (Nat.le_refl _) _
    have hy4 : Byt (w3.alloc (.cells #[.int .u8 27, .int .u8 91, .int .u8 48, .int .u8 109] 5 (4, 5))) (b + 1) (.slice (some ⟨w3.heap.size, 0, none⟩) 4 4) [27, 91, 48, 109] :=
      byt_alloc w3 (b + 1) hw3.lt [27, 91, 48, 109] 4 _ _ _ rfl (fun j u hu => hu)
    have hp4 := put_R b y (putS (putS st S.data.toList) t) v3 l3 [27, 91, 48, 109] (by decide) _ _ (hw3.below hb4) hy4
    have he : putS (putS (putS st S.data.toList) t) [27, 91, 48, 109] = putS st (tokT true colour.data.toList t) := by
      rw [putS_append, putS_append, HSD.out]
      unfold tokT
      rw [if_pos rfl]
      simp only [List.append_assoc]
    rw [he] at hp4
    have HP4 := Lib.hid hp4
    have HS4 := Lib.hid ((HS2.out.trans hs3.1).trans (WStep.of_below hb4 (Nat.le_of_lt hw3.lt)))
    clear hp4 hw3 hs3 hb4 hy4 he d0 d1 d2 d3 d5 d6
    go_wp2_with fail
    refine HP4.out.mono ?_
    rintro e w5 ⟨rfl, hw5, hs5⟩
    have HW5 := Lib.hid hw5
    have HS5 := Lib.hid (HS4.out.trans hs5.1)
    clear hw5 hs5
    go_wp2_with fail
    go_end0
    exact ⟨rfl, HW5.out, HS5.out⟩
set_option maxRecDepth 100000 in
set_option maxHeartbeats 2000000 in
theorem sign_R (b : Nat) (y : Sty) (st : Option (List UInt8)) (c : UInt8) (w : World) (h : RnAt w b y st) :
    Calls Tryz.prog 135 #[.pointer (some ⟨b, 0, none⟩), .int .u8 c.toNat] w fun e w' => e = .returned (.tuple #[]) ∧ RnAt w' b y (putS st (sgnT y.col [c])) ∧ WStep b w w' := by
  obtain ⟨v, l, h⟩ := h
  have hb1 : Below w.heap.size w (w.alloc (.cells #[.int .u8 c.toNat] 5)) := (Below.refl _ w).alloc (Nat.le_refl _) _
  have hy1 : Byt (w.alloc (.cells #[.int .u8 c.toNat] 5)) w.heap.size (.slice (some ⟨w.heap.size, 0, none⟩) 1 1) [c] := byt_alloc w w.heap.size (Nat.le_refl _) [c] 1 _ _ _ rfl (fun j u hu => hu)
  have ht := token_R b y st v l w.heap.size h.room h.lt [c] (by simp) _ ⟨#[49, 59, 51, 57]⟩ (by decide) _ (h.below hb1) hy1
  have hs := WStep.of_below hb1 (Nat.le_of_lt h.lt)
  have HT := Lib.hid ht
  have HS := Lib.hid hs
  have hlt := h.lt
  clear ht hs hb1 hy1 h
  go_enter Tryz.func135, Tryz.ntmps135
  go_wp2_with fail
  refine HT.out.mono ?_
  rintro e w2 ⟨rfl, hw2, hs2⟩
  have HW2 := Lib.hid hw2
  have HS2 := Lib.hid (HS.out.trans hs2)
  clear hw2 hs2
  go_wp2_with fail
  go_end0
  exact ⟨rfl, HW2.out, HS2.out⟩
end Go.Proofs.YtmicpdibnkmekaaGreatDoor
namespace Go.Proofs.YtmicpdibnkmekaaGreatDoor
open Go Go.RowKit

theorem putS_rest {st : Option (List UInt8)} {P A B : List UInt8} (h : putS st (P ++ A) = none) : putS st (P ++ (A ++ B)) = none := by
  have := putS_more h B
  rwa [List.append_assoc] at this
theorem rep_le {st : Option (List UInt8)} {P S : List UInt8} {i n : Nat} (hi : i ≤ n) (h : putS st (P ++ Lib.repeatL S i) = none) : putS st (P ++ Lib.repeatL S n) = none := by
  obtain ⟨k, rfl⟩ : ∃ k, n = i + k := ⟨n - i, by omega⟩
  rw [Lib.repeatL_add]
  exact putS_rest h
theorem step_data (y : Sty) : (stepT y).data.toList = if y.tab then [9] else Lib.repeatL [32] y.ind.toNat := by
  unfold stepT
  split
  · rfl
  · simp
theorem byt_one (w : World) (H : Nat) (hH : H ≤ w.heap.size) (c : UInt8) : Byt (w.alloc (.cells #[.int .u8 c.toNat] 5)) H (.slice (some ⟨w.heap.size, 0, none⟩) 1 1) [c] :=
  byt_alloc w H hH [c] 1 _ _ _ rfl (fun _j _u hu => hu)
set_option maxRecDepth 100000 in
set_option maxHeartbeats 2000000 in
/-- A put of one byte that was just made. -/
theorem put_one (b : Nat) (y : Sty) (st : Option (List UInt8)) (c : UInt8) (w : World) (h : RnAt w b y st) :
    Calls Tryz.prog 138 #[.pointer (some ⟨b, 0, none⟩), .slice (some ⟨w.heap.size, 0, none⟩) 1 1] (w.alloc (.cells #[.int .u8 c.toNat] 5)) fun e w' => e = .returned (.tuple #[]) ∧ RnAt w' b y (putS st [c]) ∧ WStep b w w' := by
  obtain ⟨v, l, h⟩ := h
  have hb1 : Below w.heap.size w (w.alloc (.cells #[.int .u8 c.toNat] 5)) := (Below.refl _ w).alloc (Nat.le_refl _) _
  refine (put_R b y st v l [c] (by simp) _ _ (h.below hb1) (byt_one w (b + 1) h.lt c)).mono ?_
  rintro e w' ⟨rfl, h1, h2⟩
  exact ⟨rfl, h1, (WStep.of_below hb1 (Nat.le_of_lt h.lt)).trans h2.1⟩
set_option maxRecDepth 100000 in
set_option maxHeartbeats 8000000 in
theorem margin_R (b : Nat) (y : Sty) (h0 : 0 ≤ y.ind) (h7 : y.ind ≤ 7) (st : Option (List UInt8)) (lev : Nat) (hlev : lev ≤ 1000001) (w : World) (h : RnAt w b y st) :
    Calls Tryz.prog 136 #[.pointer (some ⟨b, 0, none⟩), .int .i64 lev] w fun e w' => e = .returned (.tuple #[]) ∧ RnAt w' b y (putS st (linT (stepT y) lev)) ∧ WStep b w w' := by
  obtain ⟨c0, c1, c2, c3, c4, c6⟩ := h.cells
  by_cases hz : y.ind = 0 ∧ y.tab = false
  · have e0 : linT (stepT y) lev = [] := by
      unfold linT
      rw [step_data, hz.2, hz.1]
      rfl
    rw [e0, putS_nil h.len]
    rw [hz.1] at c0
    rw [hz.2] at c1
    have H := Lib.hid h
    clear h hz e0 c2 c3 c4 c6
    go_enter Tryz.func136, Tryz.ntmps136
    go_wp2_with fail
    refine bodyPost_ret (results_none rfl _ _ _) rfl ?_
    exact ⟨rfl, H.out, WStep.refl _ _⟩
  · obtain ⟨S, hS⟩ : ∃ S, (stepT y).data.toList = S := ⟨_, rfl⟩
    have hSd := step_data y
    rw [hS] at hSd
    have hne : S ≠ [] := by
      rw [hSd]
      split
      · simp
      · intro e
        have := congrArg List.length e
        rw [Lib.repeatL_length] at this
        simp at this
        exact hz ⟨by omega, by simpa using ‹¬ y.tab = true›⟩
    have e0 : linT (stepT y) lev = [10] ++ Lib.repeatL S lev := by
      unfold linT
      rw [hS, if_neg (by simpa using hne)]
      rfl
    rw [e0]
    have hp := put_one b y st 10 w h
    have HP := Lib.hid hp
    have hp1 := fun st' c W hW => put_one b y st' c W hW
    have HP1 := Lib.hid hp1
    have hd : (decide (y.ind = 0) && !y.tab) = false := by
      cases ht : y.tab with
      | true => simp
      | false =>
        simp
        intro e
        exact hz ⟨e, ht⟩
    have HD := Lib.hid hd
    have HSD := Lib.hid hSd
    clear h e0 hp hp1 hne hS hd hSd c2 c3 c4 c6
    obtain ⟨k, hk⟩ : ∃ k : Nat, y.ind = k := ⟨y.ind.toNat, by omega⟩
    rw [hk] at c0 h0 h7 hz
    have hkn : y.ind.toNat = k := by omega
    rw [hkn] at HSD
    have HK := Lib.hid hk
    have hkz : y.tab = false → 1 ≤ k := fun ht => by
      rcases Nat.eq_zero_or_pos k with e | e
      · exact absurd ⟨by omega, ht⟩ hz
      · exact e
    clear hz hkn hk
    cases ht : y.tab with
    | true =>
      rw [ht] at c1
      have HSD9 : Hid (S = [9]) := Lib.hid (by rw [HSD.out, ht]; rfl)
      clear HSD hkz
      have hgo : ∀ (dk : Bool), ((k : Int) == 0) = dk → Calls Tryz.prog 136 #[.pointer (some ⟨b, 0, none⟩), .int .i64 lev] w fun e w' => e = .returned (.tuple #[]) ∧ RnAt w' b y (putS st ([10] ++ Lib.repeatL S lev)) ∧ WStep b w w' := by
        intro dk hdk
        cases dk <;>
        (go_enter Tryz.func136, Tryz.ntmps136
         go_wp2_with fail
         refine HP.out.mono ?_
         rintro e w1 ⟨rfl, hw1, hs1⟩
         have HW1 := Lib.hid hw1
         have HS1 := Lib.hid hs1
         clear hw1 hs1
         go_wp2_with fail
         go_loopw [4] (fun i W => ∃ j : Nat, i = .int .i64 j ∧ j ≤ lev ∧ RnAt W b y (putS st ([10] ++ Lib.repeatL S j)) ∧ WStep b w W) (fun i _ => lev - (intOf i).toNat)
         case atStart => exact ⟨0, rfl, Nat.zero_le _, HW1.out, HS1.out⟩
         case round =>
           obtain ⟨j, rfl, hj, hw, hs⟩ := hrel
           obtain ⟨q0, q1, q2, q3, q4, q6⟩ := hw.cells
           rw [ht] at q1
           rw [HK.out] at q0
           obtain ⟨T, hT⟩ : ∃ T, putS st ([10] ++ Lib.repeatL S j) = T := ⟨_, rfl⟩
           have hpo := HP1.out (putS st ([10] ++ Lib.repeatL S j)) 9 wr hw
           have e1 : putS (putS st ([10] ++ Lib.repeatL S j)) [9] = putS st ([10] ++ Lib.repeatL S (j + 1)) := by
             rw [putS_append, Lib.repeatL_add, Lib.repeatL_one, HSD9.out, List.append_assoc]
           rw [e1] at hpo
           have HPO := Lib.hid hpo
           have HWR := Lib.hid hw
           have HSR := Lib.hid hs
           have HT := Lib.hid hT
           rw [hT] at q6
           clear hpo hw hs e1 hT q2 q3 q4 HP HP1
           by_cases hlt : j < lev
           · have dj : decide ((j : Int) < (lev : Int)) = true := by simp; omega
             cases T with
             | none =>
               have hfin : RnAt wr b y (putS st ([10] ++ Lib.repeatL S lev)) := by
                 rw [rep_le (Nat.le_of_lt hlt) HT.out, ← HT.out]; exact HWR.out
               have HFIN := Lib.hid hfin
               clear hfin
               go_wp2_with fail
               go_end0
               exact ⟨rfl, HFIN.out, HSR.out⟩
             | some m =>
               go_wp2_with fail
               refine HPO.out.mono ?_
               rintro e w2 ⟨rfl, hw2, hs2⟩
               have HW2 := Lib.hid hw2
               have HS2 := Lib.hid (HSR.out.trans hs2)
               clear hw2 hs2
               go_wp2_with fail
               go_roundw
               case rel => exact ⟨j + 1, by go_num, by omega, HW2.out, HS2.out⟩
               case measure => simp [intOf]; omega
           · obtain rfl : j = lev := by omega
             have dj : decide ((j : Int) < (j : Int)) = false := by simp
             go_wp2_with fail
             go_end0
             exact ⟨rfl, HWR.out, HSR.out⟩)
      exact hgo _ rfl
    | false =>
      rw [ht] at c1
      have hk1 := hkz ht
      have HSD9 : Hid (S = Lib.repeatL [32] k) := Lib.hid (by rw [HSD.out, ht]; rfl)
      have dk : ((k : Int) == 0) = false := by simp; omega
      clear HSD hkz
      go_enter Tryz.func136, Tryz.ntmps136
      go_wp2_with fail
      refine HP.out.mono ?_
      rintro e w1 ⟨rfl, hw1, hs1⟩
      have HW1 := Lib.hid hw1
      have HS1 := Lib.hid hs1
      clear hw1 hs1
      go_wp2_with fail
      go_loopw [4, 5] (fun i k5 W => ∃ (q : Value) (j : Nat), q = k5 ∧ i = .int .i64 j ∧ j ≤ lev ∧ RnAt W b y (putS st ([10] ++ Lib.repeatL S j)) ∧ WStep b w W) (fun i _ _ => lev - (intOf i).toNat)
      case atStart => exact ⟨_, 0, rfl, rfl, Nat.zero_le _, HW1.out, HS1.out⟩
      case round =>
        obtain ⟨q, j, rfl, rfl, hj, hw, hs⟩ := hrel
        obtain ⟨q0, q1, q2, q3, q4, q6⟩ := hw.cells
        rw [ht] at q1
        rw [HK.out] at q0
        obtain ⟨T, hT⟩ : ∃ T, putS st ([10] ++ Lib.repeatL S j) = T := ⟨_, rfl⟩
        have HWR := Lib.hid hw
        have HSR := Lib.hid hs
        have HT := Lib.hid hT
        rw [hT] at q6
        clear hw hs hT q2 q3 q4 HP
        by_cases hlt : j < lev
        · have dj : decide ((j : Int) < (lev : Int)) = true := by simp; omega
          cases T with
          | none =>
            have hfin : RnAt wr b y (putS st ([10] ++ Lib.repeatL S lev)) := by
              rw [rep_le (Nat.le_of_lt hlt) HT.out, ← HT.out]; exact HWR.out
            have HFIN := Lib.hid hfin
            clear hfin
            go_wp2_with fail
            go_end0
            exact ⟨rfl, HFIN.out, HSR.out⟩
          | some m =>
            go_wp2_with fail
            go_loopw [5] (fun i5 W => ∃ x : Nat, i5 = .int .i64 x ∧ x ≤ k ∧ RnAt W b y (putS st (([10] ++ Lib.repeatL S j) ++ Lib.repeatL [32] x)) ∧ WStep b w W) (fun i5 _ => k - (intOf i5).toNat)
            case atStart => exact ⟨0, rfl, Nat.zero_le _, by have := HWR.out; rw [show Lib.repeatL [32] 0 = [] from rfl, List.append_nil]; exact this, HSR.out⟩
            case round =>
              obtain ⟨x, rfl, hx, hwx, hsx⟩ := hrel
              obtain ⟨r0, r1, r2, r3, r4, r6⟩ := hwx.cells
              rw [HK.out] at r0
              have hpo := HP1.out _ 32 wr hwx
              have e1 : putS (putS st (([10] ++ Lib.repeatL S j) ++ Lib.repeatL [32] x)) [32] = putS st (([10] ++ Lib.repeatL S j) ++ Lib.repeatL [32] (x + 1)) := by
                rw [putS_append, Lib.repeatL_add, Lib.repeatL_one, List.append_assoc ([10] ++ Lib.repeatL S j)]
              rw [e1] at hpo
              have HPO := Lib.hid hpo
              have HWX := Lib.hid hwx
              have HSX := Lib.hid hsx
              clear hpo hwx hsx e1 r1 r2 r3 r4 r6
              by_cases hlx : x < k
              · have dx : decide ((x : Int) < (k : Int)) = true := by simp; omega
                go_wp2_with fail
                refine HPO.out.mono ?_
                rintro e w2 ⟨rfl, hw2, hs2⟩
                have HW2 := Lib.hid hw2
                have HS2 := Lib.hid (HSX.out.trans hs2)
                clear hw2 hs2
                go_wp2_with fail
                go_roundw
                case rel => exact ⟨x + 1, by go_num, by omega, HW2.out, HS2.out⟩
                case measure => simp [intOf]; omega
              · obtain rfl : x = k := by omega
                have dx : decide ((x : Int) < (x : Int)) = false := by simp
                go_wp2_with fail
                go_roundw
                case rel =>
                  refine ⟨_, j + 1, rfl, by go_num, by omega, ?_, HSX.out⟩
                  have := HWX.out
                  rw [← HSD9.out, List.append_assoc] at this
                  rw [Lib.repeatL_add, Lib.repeatL_one]
                  exact this
                case measure => simp [intOf]; omega
        · obtain rfl : j = lev := by omega
          have dj : decide ((j : Int) < (j : Int)) = false := by simp
          go_wp2_with fail
          go_end0
          exact ⟨rfl, HWR.out, HSR.out⟩
end Go.Proofs.YtmicpdibnkmekaaGreatDoor

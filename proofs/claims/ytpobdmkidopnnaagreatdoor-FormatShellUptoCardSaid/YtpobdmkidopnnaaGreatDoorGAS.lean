/- The writer, where it may leave out what is left. -/
import Derived.Test.YtpobdmkidopnnaaGreatDoorGAO
namespace Go.Proofs.YtpobdmkidopnnaaGreatDoor
open Go Go.RowKit

/-- o stands for F: it is F, or both are too long, and begin alike. -/
def Wrt (en : Int) (o F : List UInt8) : Prop := 0 ≤ en ∧ o.length ≤ F.length ∧ (o = F ∨ (en < (o.length : Int) ∧ o.take (en.toNat + 1) = F.take (en.toNat + 1)))
theorem Wrt.app {en : Int} {o F : List UInt8} (h : Wrt en o F) (t : List UInt8) : Wrt en (o ++ t) (F ++ t) := by
  obtain ⟨h0, h1, h2⟩ := h
  refine ⟨h0, by rw [List.length_append, List.length_append]; omega, ?_⟩
  rcases h2 with rfl | ⟨h2, h3⟩
  · exact Or.inl rfl
  · refine Or.inr ⟨by rw [List.length_append]; omega, ?_⟩
    rw [List.take_append_of_le_length (by omega), List.take_append_of_le_length (by omega), h3]
theorem Wrt.skip {en : Int} {o F : List UInt8} (h : Wrt en o F) (hf : en < (o.length : Int)) (t : List UInt8) : Wrt en o (F ++ t) := by
  obtain ⟨h0, h1, h2⟩ := h
  refine ⟨h0, by rw [List.length_append]; omega, Or.inr ⟨hf, ?_⟩⟩
  rw [List.take_append_of_le_length (by omega)]
  rcases h2 with rfl | ⟨_, h3⟩
  · rfl
  · exact h3
/-- The writer in block b has what stands for F. -/
def WS (w : World) (b : Nat) (F : List UInt8) (en : Int) : Prop := ∃ o, IsW w b o en ∧ Wrt en o F
theorem WS.alloc {w : World} {b : Nat} {l : List UInt8} {en : Int} (h : WS w b l en) (o : Obj) : WS (w.alloc o) b l en := by
  obtain ⟨x, h1, h2⟩ := h
  exact ⟨x, h1.alloc o, h2⟩
theorem WS.heap {w w' : World} {b : Nat} {l : List UInt8} {en : Int} (h : WS w b l en) (e : w'.heap = w.heap) : WS w' b l en := by
  obtain ⟨x, h1, h2⟩ := h
  exact ⟨x, h1.heap e, h2⟩
theorem WS.iterAt {w : World} {b : Nat} {l : List UInt8} {en : Int} (h : WS w b l en) {k : Nat} {s : ByteArray} {p q : Nat} (hk : w.heap[k]? = some (.stringIter s p)) : WS (w.iterAt k s q) b l en := by
  obtain ⟨x, h1, h2⟩ := h
  exact ⟨x, h1.iterAt hk, h2⟩
theorem WS.below {w w' : World} {b : Nat} {l : List UInt8} {en : Int} (h : WS w b l en) (hb : Below w.heap.size w w') : WS w' b l en := by
  obtain ⟨x, h1, h2⟩ := h
  exact ⟨x, h1.below hb, h2⟩
theorem WS.lt {w : World} {b : Nat} {l : List UInt8} {en : Int} (h : WS w b l en) : b < w.heap.size := by
  obtain ⟨x, ⟨p, hp, v, hb, _⟩, h2⟩ := h
  exact (Array.getElem?_eq_some_iff.1 hb).1
/-- The cells of the writer's block. -/
theorem WS.row {w : World} {b : Nat} {l : List UInt8} {en : Int} (h : WS w b l en) : ∃ p v, w.heap[b]? = some (.cells #[p, v, .int .i64 en] 111 (0, 0)) := by
  obtain ⟨x, ⟨p, hp, v, hb, _⟩, h2⟩ := h
  exact ⟨p, v, hb⟩
theorem WriteByte_F (b : Nat) (l : List UInt8) (en : Int) (c : UInt8) (w : World) (h : WS w b l en) (hlen : l.length ≤ 70368744177664) :
    Calls Tryz.prog 139 #[.pointer (some ⟨b, 0, none⟩), .int .u8 c.toNat] w fun e w' => e = .returned .nilIface ∧ WS w' b (l ++ [c]) en ∧ WStep b w w' := by
  obtain ⟨o, h1, h2⟩ := h
  have := h2.2.1
  refine (WriteByte_any b o en c w h1 (by omega)).mono ?_
  rintro e w' ⟨rfl, h3, h4⟩
  exact ⟨rfl, ⟨_, h3.is, h2.app _⟩, h4⟩
theorem WriteString_F (b : Nat) (l : List UInt8) (en : Int) (s : ByteArray) (w : World) (h : WS w b l en) (hlen : l.length ≤ 70368744177664) (hs : s.size ≤ 70368744177664) :
    Calls Tryz.prog 160 #[.pointer (some ⟨b, 0, none⟩), .string s] w fun e w' => e = .returned (.tuple #[.int .i64 s.size, .nilIface]) ∧ WS w' b (l ++ s.data.toList) en ∧ WStep b w w' := by
  obtain ⟨o, h1, h2⟩ := h
  have := h2.2.1
  refine (WriteString_any b o en s w h1 (by omega) hs).mono ?_
  rintro e w' ⟨rfl, h3, h4⟩
  exact ⟨rfl, ⟨_, h3.is, h2.app _⟩, h4⟩
theorem point_F (b : Nat) (l : List UInt8) (en : Int) (r : Int) (hr0 : 0 ≤ r) (hr1 : r ≤ 1114111) (w : World) (h : WS w b l en) (hlen : l.length ≤ 1099511627776) :
    Calls Tryz.prog 233 #[.pointer (some ⟨b, 0, none⟩), .int .i32 r] w fun e w' => e = .returned (.tuple #[]) ∧ WS w' b (l ++ escR r) en ∧ WStep b w w' := by
  obtain ⟨o, h1, h2⟩ := h
  have := h2.2.1
  refine (point_any b o en r hr0 hr1 w h1 (by omega)).mono ?_
  rintro e w' ⟨rfl, h3, h4⟩
  exact ⟨rfl, ⟨_, h3.is, h2.app _⟩, h4⟩
theorem isFull_F (b : Nat) (l : List UInt8) (en : Int) (w : World) (h : WS w b l en) :
    Calls Tryz.prog 232 #[.pointer (some ⟨b, 0, none⟩)] w fun e w' => ∃ fb : Bool, e = .returned (.bool fb) ∧ (fb = true → ∀ t, WS w' b (l ++ t) en) ∧ ∃ n, w' = w.drewN n := by
  obtain ⟨o, h1, h2⟩ := h
  refine (isFull_any b o en w h1).mono ?_
  rintro e w' ⟨rfl, n, rfl⟩
  exact ⟨_, rfl, fun hf t => ⟨o, h1.heap rfl, h2.skip (of_decide_eq_true hf) t⟩, n, rfl⟩
set_option maxRecDepth 100000 in
set_option maxHeartbeats 4000000 in
theorem text_F (b : Nat) (l : List UInt8) (en : Int) (s : ByteArray) (w : World) (h : WS w b l en) (hlen : (l ++ quoteR s).length ≤ 1099511627776) :
    Calls Tryz.prog 162 #[.pointer (some ⟨b, 0, none⟩), .string s] w fun e w' => e = .returned (.tuple #[]) ∧ WS w' b (l ++ quoteR s) en ∧ WStep b w w' := by
  have hq : (l ++ quoteR s).length = l.length + (bodyR s 0).length + 2 := by unfold quoteR; simp; omega
  rw [hq] at hlen
  have h1 := WriteByte_F b l en 34 w h (by omega)
  have H1 := Lib.hid h1
  have H := Lib.hid h
  clear h1 hq
  obtain ⟨p, v, hb⟩ := h.row
  obtain ⟨c0, c1, c2, f0, f1, hsh, hlt⟩ := row3V hb
  clear hb hsh h
  go_enter Tryz.func162, Tryz.ntmps162
  go_wp2_with fail
  refine H1.out.mono ?_
  rintro e w1 ⟨rfl, hw1, hst⟩
  have HW := Lib.hid hw1
  have HST := Lib.hid hst
  have hlt1 : b < w1.heap.size := hw1.lt
  clear hw1 hst c0 c1 c2 f0 f1
  go_wp2_with fail
  have hit0 : (w1.iter s 0).heap[w1.heap.size]? = some (.stringIter s 0) := by have := World.iter_heap w1 s 0; simpa using this
  have hs0 : WStep b w1 (w1.iter s 0) := (WStep.refl b w1).alloc (by omega) _
  have hw0 : WS (w1.iter s 0) b (l ++ [34]) en := HW.out.alloc _
  have HIT0 := Lib.hid hit0
  have HS0 := Lib.hid hs0
  have HW0 := Lib.hid hw0
  clear hit0 hs0 hw0
  go_loopw [] (fun wr => ∃ (pos : Nat) (done : List UInt8), pos ≤ s.size ∧ WS wr b (l ++ [34] ++ done) en ∧ done ++ bodyR s pos = bodyR s 0 ∧ wr.heap[w1.heap.size]? = some (.stringIter s pos) ∧ WStep b w1 wr) (fun wr => s.size - wr.iterPos w1.heap.size)
  case atStart => exact ⟨0, [], Nat.zero_le _, by rw [List.append_nil]; exact HW0.out, rfl, HIT0.out, HS0.out⟩
  case round =>
    obtain ⟨pos, done, hp, hw, hd, hit, hst⟩ := hrel
    have HWR := Lib.hid hw
    have HD := Lib.hid hd
    have HSTR := Lib.hid hst
    clear hw hd hst HIT0 HS0 HW0
    by_cases hltp : pos < s.size
    · have hnx : ∀ ty, (Instr.next (.pointer (some ⟨w1.heap.size, 0, none⟩)) true ty).run Tryz.prog wr = _ := fun ty => Lib.run_next_any_at wr w1.heap.size s pos ty hit hltp
      have hwd := wid s pos hltp
      have hf := dec_fits s pos hltp
      have hr := dec_range s pos hltp
      have hbc := bodyR_cons s pos hltp
      have hit2 := Lib.iterAt_heap wr w1.heap.size s pos (pos + (Utf8.decode s pos).2) hit
      have hw2 : WS (wr.iterAt w1.heap.size s (pos + (Utf8.decode s pos).2)) b (l ++ [34] ++ done) en := HWR.out.iterAt hit
      have hs2 : WStep b w1 (wr.iterAt w1.heap.size s (pos + (Utf8.decode s pos).2)) := HSTR.out.iterAt hit (Nat.le_refl _) (by omega)
      have hdl : done.length + (bodyR s pos).length = (bodyR s 0).length := by rw [← HD.out, List.length_append]
      have hel : (escR (((Utf8.decode s pos).1 : Nat) : Int)).length ≤ (bodyR s pos).length := by rw [hbc, List.length_append]; omega
      have hfl := isFull_F b _ en _ hw2
      have hpt := fun W hW => point_F b (l ++ [34] ++ done) en (((Utf8.decode s pos).1 : Nat) : Int) (by omega) (by omega) W hW (by simp; omega)
      have HBC := Lib.hid hbc
      have HIT := Lib.hid hit
      have HIT2 := Lib.hid hit2
      have HW2 := Lib.hid hw2
      have HS2 := Lib.hid hs2
      have HFL := Lib.hid hfl
      have HPT := Lib.hid hpt
      clear hbc hit hit2 hw2 hs2 hdl hel hfl hpt
      go_wp2_with fail
      refine HFL.out.mono ?_
      rintro e w3 ⟨fb, rfl, hfull, n, rfl⟩
      have HFULL := Lib.hid hfull
      clear hfull
      cases fb with
      | true =>
        have hqs : l ++ [34] ++ done ++ (bodyR s pos ++ [34]) = l ++ quoteR s := by
          unfold quoteR
          rw [← HD.out]
          simp [List.append_assoc]
        have hfin := HFULL.out rfl (bodyR s pos ++ [34])
        rw [hqs] at hfin
        have HFIN := Lib.hid hfin
        clear hfin hqs
        go_wp2_with fail
        refine bodyPost_ret (results_none rfl _ _ _) rfl ?_
        exact ⟨rfl, HFIN.out, HST.out.trans (HS2.out.trans ((WStep.refl _ _).drewN n))⟩
      | false =>
      clear HFULL
      go_wp2_with fail
      refine (HPT.out ((wr.iterAt w1.heap.size s (pos + (Utf8.decode s pos).2)).drewN n) (HW2.out.heap rfl)).mono ?_
      rintro e w4 ⟨rfl, hw4, hs4⟩
      have HW4 := Lib.hid hw4
      have hs24 : WStep b (wr.iterAt w1.heap.size s (pos + (Utf8.decode s pos).2)) w4 := ((WStep.refl _ _).drewN n).trans hs4
      have hit4 := hs24.iter HIT2.out (by omega)
      have HS4 := Lib.hid hs24
      have HIT4 := Lib.hid hit4
      clear hw4 hs4 hs24 hit4
      go_wp2_with fail
      go_roundw
      case rel => exact ⟨pos + (Utf8.decode s pos).2, done ++ escR (((Utf8.decode s pos).1 : Nat) : Int), hf.1, by rw [← List.append_assoc]; exact HW4.out, by rw [List.append_assoc, ← HBC.out]; exact HD.out, HIT4.out, HS2.out.trans HS4.out⟩
      case measure => simp only [World.iterPos, HIT4.out, HIT.out]; omega
    · have hnx : ∀ ty, (Instr.next (.pointer (some ⟨w1.heap.size, 0, none⟩)) true ty).run Tryz.prog wr = _ := fun ty => Lib.run_next_end_at wr w1.heap.size s pos ty hit hltp
      have hdn : done = bodyR s 0 := by have := HD.out; rw [bodyR_nil s pos hltp, List.append_nil] at this; exact this
      have h2 := WriteByte_F b (l ++ [34] ++ done) en 34 wr HWR.out (by rw [hdn]; simp; omega)
      have H2 := Lib.hid h2
      have HDN := Lib.hid hdn
      obtain ⟨p', v', hb'⟩ := HWR.out.row
      obtain ⟨c0, c1, c2, f0, f1, hsh, hltr⟩ := row3V hb'
      clear hit h2 hdn hb' hsh
      go_wp2_with fail
      refine H2.out.mono ?_
      rintro e w3 ⟨rfl, hw3, hs3⟩
      have HW3 := Lib.hid hw3
      have HS3 := Lib.hid hs3
      clear hw3 hs3
      go_wp2_with fail
      go_end0
      refine ⟨rfl, ?_, HST.out.trans (HSTR.out.trans HS3.out)⟩
      have := HW3.out
      rw [HDN.out] at this
      simpa [quoteR, List.append_assoc] using this
theorem rowB_rest (T : Nat → List UInt8) {i n : Nat} (h : i ≤ n) : ∃ rest, rowB T n = rowB T i ++ rest := by
  induction n with
  | zero => obtain rfl : i = 0 := by omega
            exact ⟨[], by rw [List.append_nil]⟩
  | succ n ih =>
    by_cases e : i = n + 1
    · subst e; exact ⟨[], by rw [List.append_nil]⟩
    · obtain ⟨r, hr⟩ := ih (by omega)
      exact ⟨r ++ (if n = 0 then T n else 44 :: T n), by show rowB T n ++ _ = _; rw [hr, List.append_assoc]⟩
set_option maxRecDepth 100000 in
set_option maxHeartbeats 4000000 in
theorem row_F1 (b : Nat) (en : Int) (op cl : UInt8) (n : Nat) (hn : n ≤ 1048576) (T : Nat → List UInt8) (p2 p3 : Value) (Env : World → Prop) (hEnv : ∀ w w', Env w → WStep b w w' → Env w')
    (hcall : ∀ (i : Nat) (l : List UInt8) (W : World), i < n → Env W → WS W b l en → (l ++ T i).length ≤ 1099511627776 →
      Calls Tryz.prog 164 #[.int .i64 i, p2, p3] W fun e w' => e = .returned (.tuple #[]) ∧ WS w' b (l ++ T i) en ∧ WStep b W w')
    (l : List UInt8) (w : World) (hE : Env w) (h : WS w b l en) (hlen : (l ++ op :: (rowB T n ++ [cl])).length ≤ 1099511627776) :
    Calls Tryz.prog 163 #[.pointer (some ⟨b, 0, none⟩), .int .u8 op.toNat, .int .u8 cl.toNat, .int .i64 n, .func (Fn.func 164) #[] #[p2, p3]] w fun e w' =>
      e = .returned (.tuple #[]) ∧ WS w' b (l ++ op :: (rowB T n ++ [cl])) en ∧ WStep b w w' := by
  have hq : (l ++ op :: (rowB T n ++ [cl])).length = l.length + (rowB T n).length + 2 := by simp; omega
  rw [hq] at hlen
  have h1 := WriteByte_F b l en op w h (by omega)
  have H1 := Lib.hid h1
  have HE := Lib.hid hE
  have HEnv := Lib.hid hEnv
  have HCALL := Lib.hid hcall
  obtain ⟨p, v, hb⟩ := h.row
  obtain ⟨c0, c1, c2, f0, f1, hsh, hlt⟩ := row3V hb
  clear h1 hq hE hEnv hcall hb hsh h
  go_enter Tryz.func163, Tryz.ntmps163
  go_wp2_with fail
  refine H1.out.mono ?_
  rintro e w1 ⟨rfl, hw1, hst⟩
  have HW := Lib.hid hw1
  have HST := Lib.hid hst
  clear hw1 hst c0 c1 c2 f0 f1
  go_wp2_with fail
  go_loopw [17] (fun i W => ∃ j : Nat, j ≤ n ∧ i = .int .i64 j ∧ WS W b (l ++ [op] ++ rowB T j) en ∧ WStep b w1 W) (fun i _ => n - (intOf i).toNat)
  case atStart => exact ⟨0, Nat.zero_le _, rfl, by show WS w1 b (l ++ [op] ++ []) en; rw [List.append_nil]; exact HW.out, WStep.refl _ _⟩
  case round =>
    obtain ⟨j, hj, rfl, hw, hs⟩ := hrel
    have HWR := Lib.hid hw
    have HSR := Lib.hid hs
    obtain ⟨p', v', hb'⟩ := hw.row
    obtain ⟨c0, c1, c2, f0, f1, hsh, hltr⟩ := row3V hb'
    have hm := rowB_mono T hj
    clear hw hs hb' hsh
    by_cases hlt2 : j < n
    · have hm1 := rowB_mono T (show j + 1 ≤ n by omega)
      have hfl := isFull_F b _ en _ HWR.out
      have HFL := Lib.hid hfl
      have hr1 : rowB T (j + 1) = rowB T j ++ (if j = 0 then T j else 44 :: T j) := rfl
      by_cases hj0 : j = 0
      · rw [if_pos hj0] at hr1
        have hrl : (rowB T (j + 1)).length = (rowB T j).length + (T j).length := by rw [hr1, List.length_append]
        have hc := fun W hE hW => HCALL.out j (l ++ [op] ++ rowB T j) W hlt2 hE hW (by simp; omega)
        rw [List.append_assoc (l ++ [op]), ← hr1] at hc
        have HC := Lib.hid hc
        have d0 : decide (0 < j) = false := by simp; omega
        have d1 : decide ((0 : Int) < j) = false := by simp; omega
        have hj0' : j ≤ 0 := by omega
        clear hfl hr1 hrl hc hj0 hm hm1
        go_wp2_with fail
        refine HFL.out.mono ?_
        rintro e w3 ⟨fb, rfl, hfull, nn, rfl⟩
        have HFULL := Lib.hid hfull
        clear hfull
        cases fb with
        | true =>
          obtain ⟨rest, hrest⟩ := rowB_rest T hj
          have hfin := HFULL.out rfl (rest ++ [cl])
          have hqs : l ++ [op] ++ rowB T j ++ (rest ++ [cl]) = l ++ op :: (rowB T n ++ [cl]) := by
            rw [hrest]
            simp [List.append_assoc]
          rw [hqs] at hfin
          have HFIN := Lib.hid hfin
          clear hfin hqs hrest
          go_wp2_with fail
          refine bodyPost_ret (results_none rfl _ _ _) rfl ?_
          exact ⟨rfl, HFIN.out, HST.out.trans (HSR.out.trans ((WStep.refl _ _).drewN nn))⟩
        | false =>
        clear HFULL
        go_wp2_with fail
        refine (HC.out (wr.drewN nn) (HEnv.out _ _ HE.out (HST.out.trans (HSR.out.trans ((WStep.refl _ _).drewN nn)))) (HWR.out.heap rfl)).mono ?_
        rintro e w4 ⟨rfl, hw4, hs4⟩
        have HW4 := Lib.hid hw4
        have HS4 : Hid (WStep b w1 w4) := Lib.hid (HSR.out.trans (((WStep.refl _ _).drewN nn).trans hs4))
        clear hw4 hs4
        go_wp2_with fail
        go_roundw
        case rel => exact ⟨j + 1, by omega, by go_num, HW4.out, HS4.out⟩
        case measure => simp [intOf]; omega
      · rw [if_neg hj0] at hr1
        have hrl : (rowB T (j + 1)).length = (rowB T j).length + (T j).length + 1 := by rw [hr1, List.length_append, List.length_cons]; omega
        have hwb := fun W hW => WriteByte_F b (l ++ [op] ++ rowB T j) en 44 W hW (by simp; omega)
        have hc := fun W hE hW => HCALL.out j ((l ++ [op] ++ rowB T j) ++ [44]) W hlt2 hE hW (by simp; omega)
        have e1 : ((l ++ [op] ++ rowB T j) ++ [44]) ++ T j = l ++ [op] ++ rowB T (j + 1) := by rw [hr1]; simp
        rw [e1] at hc
        have HC := Lib.hid hc
        have HWB := Lib.hid hwb
        have d0 : decide (0 < j) = true := by simp; omega
        have d1 : decide ((0 : Int) < j) = true := by simp; omega
        have hj1 : 1 ≤ j := by omega
        clear hfl hr1 hrl hc hj0 hm hm1 hwb e1
        go_wp2_with fail
        refine HFL.out.mono ?_
        rintro e w3 ⟨fb, rfl, hfull, nn, rfl⟩
        have HFULL := Lib.hid hfull
        clear hfull
        cases fb with
        | true =>
          obtain ⟨rest, hrest⟩ := rowB_rest T hj
          have hfin := HFULL.out rfl (rest ++ [cl])
          have hqs : l ++ [op] ++ rowB T j ++ (rest ++ [cl]) = l ++ op :: (rowB T n ++ [cl]) := by
            rw [hrest]
            simp [List.append_assoc]
          rw [hqs] at hfin
          have HFIN := Lib.hid hfin
          clear hfin hqs hrest
          go_wp2_with fail
          refine bodyPost_ret (results_none rfl _ _ _) rfl ?_
          exact ⟨rfl, HFIN.out, HST.out.trans (HSR.out.trans ((WStep.refl _ _).drewN nn))⟩
        | false =>
        clear HFULL
        go_wp2_with fail
        refine (HWB.out (wr.drewN nn) (HWR.out.heap rfl)).mono ?_
        rintro e w5 ⟨rfl, hw5, hs5⟩
        have HW5 := Lib.hid hw5
        have HS5 : Hid (WStep b w1 w5) := Lib.hid (HSR.out.trans (((WStep.refl _ _).drewN nn).trans hs5))
        clear hw5 hs5
        go_wp2_with fail
        refine (HC.out w5 (HEnv.out _ _ HE.out (HST.out.trans HS5.out)) HW5.out).mono ?_
        rintro e w4 ⟨rfl, hw4, hs4⟩
        have HW4 := Lib.hid hw4
        have HS4 : Hid (WStep b w1 w4) := Lib.hid (HS5.out.trans hs4)
        clear hw4 hs4
        go_wp2_with fail
        go_roundw
        case rel => exact ⟨j + 1, by omega, by go_num, HW4.out, HS4.out⟩
        case measure => simp [intOf]; omega
    · obtain rfl : j = n := by omega
      have h2 := WriteByte_F b (l ++ [op] ++ rowB T j) en cl wr HWR.out (by simp; omega)
      have H2 := Lib.hid h2
      clear h2 hm
      go_wp2_with fail
      refine H2.out.mono ?_
      rintro e w3 ⟨rfl, hw3, hs3⟩
      have HW3 := Lib.hid hw3
      have HS3 := Lib.hid hs3
      clear hw3 hs3
      go_wp2_with fail
      go_end0
      refine ⟨rfl, ?_, HST.out.trans (HSR.out.trans HS3.out)⟩
      have := HW3.out
      simpa [List.append_assoc] using this
set_option maxRecDepth 100000 in
set_option maxHeartbeats 4000000 in
theorem row_F2 (b : Nat) (en : Int) (op cl : UInt8) (n : Nat) (hn : n ≤ 1048576) (T : Nat → List UInt8) (p2 p3 : Value) (Env : World → Prop) (hEnv : ∀ w w', Env w → WStep b w w' → Env w')
    (hcall : ∀ (i : Nat) (l : List UInt8) (W : World), i < n → Env W → WS W b l en → (l ++ T i).length ≤ 1099511627776 →
      Calls Tryz.prog 165 #[.int .i64 i, p2, p3] W fun e w' => e = .returned (.tuple #[]) ∧ WS w' b (l ++ T i) en ∧ WStep b W w')
    (l : List UInt8) (w : World) (hE : Env w) (h : WS w b l en) (hlen : (l ++ op :: (rowB T n ++ [cl])).length ≤ 1099511627776) :
    Calls Tryz.prog 163 #[.pointer (some ⟨b, 0, none⟩), .int .u8 op.toNat, .int .u8 cl.toNat, .int .i64 n, .func (Fn.func 165) #[] #[p2, p3]] w fun e w' =>
      e = .returned (.tuple #[]) ∧ WS w' b (l ++ op :: (rowB T n ++ [cl])) en ∧ WStep b w w' := by
  have hq : (l ++ op :: (rowB T n ++ [cl])).length = l.length + (rowB T n).length + 2 := by simp; omega
  rw [hq] at hlen
  have h1 := WriteByte_F b l en op w h (by omega)
  have H1 := Lib.hid h1
  have HE := Lib.hid hE
  have HEnv := Lib.hid hEnv
  have HCALL := Lib.hid hcall
  obtain ⟨p, v, hb⟩ := h.row
  obtain ⟨c0, c1, c2, f0, f1, hsh, hlt⟩ := row3V hb
  clear h1 hq hE hEnv hcall hb hsh h
  go_enter Tryz.func163, Tryz.ntmps163
  go_wp2_with fail
  refine H1.out.mono ?_
  rintro e w1 ⟨rfl, hw1, hst⟩
  have HW := Lib.hid hw1
  have HST := Lib.hid hst
  clear hw1 hst c0 c1 c2 f0 f1
  go_wp2_with fail
  go_loopw [17] (fun i W => ∃ j : Nat, j ≤ n ∧ i = .int .i64 j ∧ WS W b (l ++ [op] ++ rowB T j) en ∧ WStep b w1 W) (fun i _ => n - (intOf i).toNat)
  case atStart => exact ⟨0, Nat.zero_le _, rfl, by show WS w1 b (l ++ [op] ++ []) en; rw [List.append_nil]; exact HW.out, WStep.refl _ _⟩
  case round =>
    obtain ⟨j, hj, rfl, hw, hs⟩ := hrel
    have HWR := Lib.hid hw
    have HSR := Lib.hid hs
    obtain ⟨p', v', hb'⟩ := hw.row
    obtain ⟨c0, c1, c2, f0, f1, hsh, hltr⟩ := row3V hb'
    have hm := rowB_mono T hj
    clear hw hs hb' hsh
    by_cases hlt2 : j < n
    · have hm1 := rowB_mono T (show j + 1 ≤ n by omega)
      have hfl := isFull_F b _ en _ HWR.out
      have HFL := Lib.hid hfl
      have hr1 : rowB T (j + 1) = rowB T j ++ (if j = 0 then T j else 44 :: T j) := rfl
      by_cases hj0 : j = 0
      · rw [if_pos hj0] at hr1
        have hrl : (rowB T (j + 1)).length = (rowB T j).length + (T j).length := by rw [hr1, List.length_append]
        have hc := fun W hE hW => HCALL.out j (l ++ [op] ++ rowB T j) W hlt2 hE hW (by simp; omega)
        rw [List.append_assoc (l ++ [op]), ← hr1] at hc
        have HC := Lib.hid hc
        have d0 : decide (0 < j) = false := by simp; omega
        have d1 : decide ((0 : Int) < j) = false := by simp; omega
        have hj0' : j ≤ 0 := by omega
        clear hfl hr1 hrl hc hj0 hm hm1
        go_wp2_with fail
        refine HFL.out.mono ?_
        rintro e w3 ⟨fb, rfl, hfull, nn, rfl⟩
        have HFULL := Lib.hid hfull
        clear hfull
        cases fb with
        | true =>
          obtain ⟨rest, hrest⟩ := rowB_rest T hj
          have hfin := HFULL.out rfl (rest ++ [cl])
          have hqs : l ++ [op] ++ rowB T j ++ (rest ++ [cl]) = l ++ op :: (rowB T n ++ [cl]) := by
            rw [hrest]
            simp [List.append_assoc]
          rw [hqs] at hfin
          have HFIN := Lib.hid hfin
          clear hfin hqs hrest
          go_wp2_with fail
          refine bodyPost_ret (results_none rfl _ _ _) rfl ?_
          exact ⟨rfl, HFIN.out, HST.out.trans (HSR.out.trans ((WStep.refl _ _).drewN nn))⟩
        | false =>
        clear HFULL
        go_wp2_with fail
        refine (HC.out (wr.drewN nn) (HEnv.out _ _ HE.out (HST.out.trans (HSR.out.trans ((WStep.refl _ _).drewN nn)))) (HWR.out.heap rfl)).mono ?_
        rintro e w4 ⟨rfl, hw4, hs4⟩
        have HW4 := Lib.hid hw4
        have HS4 : Hid (WStep b w1 w4) := Lib.hid (HSR.out.trans (((WStep.refl _ _).drewN nn).trans hs4))
        clear hw4 hs4
        go_wp2_with fail
        go_roundw
        case rel => exact ⟨j + 1, by omega, by go_num, HW4.out, HS4.out⟩
        case measure => simp [intOf]; omega
      · rw [if_neg hj0] at hr1
        have hrl : (rowB T (j + 1)).length = (rowB T j).length + (T j).length + 1 := by rw [hr1, List.length_append, List.length_cons]; omega
        have hwb := fun W hW => WriteByte_F b (l ++ [op] ++ rowB T j) en 44 W hW (by simp; omega)
        have hc := fun W hE hW => HCALL.out j ((l ++ [op] ++ rowB T j) ++ [44]) W hlt2 hE hW (by simp; omega)
        have e1 : ((l ++ [op] ++ rowB T j) ++ [44]) ++ T j = l ++ [op] ++ rowB T (j + 1) := by rw [hr1]; simp
        rw [e1] at hc
        have HC := Lib.hid hc
        have HWB := Lib.hid hwb
        have d0 : decide (0 < j) = true := by simp; omega
        have d1 : decide ((0 : Int) < j) = true := by simp; omega
        have hj1 : 1 ≤ j := by omega
        clear hfl hr1 hrl hc hj0 hm hm1 hwb e1
        go_wp2_with fail
        refine HFL.out.mono ?_
        rintro e w3 ⟨fb, rfl, hfull, nn, rfl⟩
        have HFULL := Lib.hid hfull
        clear hfull
        cases fb with
        | true =>
          obtain ⟨rest, hrest⟩ := rowB_rest T hj
          have hfin := HFULL.out rfl (rest ++ [cl])
          have hqs : l ++ [op] ++ rowB T j ++ (rest ++ [cl]) = l ++ op :: (rowB T n ++ [cl]) := by
            rw [hrest]
            simp [List.append_assoc]
          rw [hqs] at hfin
          have HFIN := Lib.hid hfin
          clear hfin hqs hrest
          go_wp2_with fail
          refine bodyPost_ret (results_none rfl _ _ _) rfl ?_
          exact ⟨rfl, HFIN.out, HST.out.trans (HSR.out.trans ((WStep.refl _ _).drewN nn))⟩
        | false =>
        clear HFULL
        go_wp2_with fail
        refine (HWB.out (wr.drewN nn) (HWR.out.heap rfl)).mono ?_
        rintro e w5 ⟨rfl, hw5, hs5⟩
        have HW5 := Lib.hid hw5
        have HS5 : Hid (WStep b w1 w5) := Lib.hid (HSR.out.trans (((WStep.refl _ _).drewN nn).trans hs5))
        clear hw5 hs5
        go_wp2_with fail
        refine (HC.out w5 (HEnv.out _ _ HE.out (HST.out.trans HS5.out)) HW5.out).mono ?_
        rintro e w4 ⟨rfl, hw4, hs4⟩
        have HW4 := Lib.hid hw4
        have HS4 : Hid (WStep b w1 w4) := Lib.hid (HS5.out.trans hs4)
        clear hw4 hs4
        go_wp2_with fail
        go_roundw
        case rel => exact ⟨j + 1, by omega, by go_num, HW4.out, HS4.out⟩
        case measure => simp [intOf]; omega
    · obtain rfl : j = n := by omega
      have h2 := WriteByte_F b (l ++ [op] ++ rowB T j) en cl wr HWR.out (by simp; omega)
      have H2 := Lib.hid h2
      clear h2 hm
      go_wp2_with fail
      refine H2.out.mono ?_
      rintro e w3 ⟨rfl, hw3, hs3⟩
      have HW3 := Lib.hid hw3
      have HS3 := Lib.hid hs3
      clear hw3 hs3
      go_wp2_with fail
      go_end0
      refine ⟨rfl, ?_, HST.out.trans (HSR.out.trans HS3.out)⟩
      have := HW3.out
      simpa [List.append_assoc] using this
/-- The contract of a value's writing, for all values of at most m levels that lie below w0. -/
def ValueF (w0 : World) (b : Nat) (en : Int) (m : Nat) : Prop := ∀ (v : V) (lv kv : Value) (d : Nat) (l : List UInt8) (w : World), rightV d v = true → At w0 w0.heap.size m v lv kv → Below w0.heap.size w0 w → WS w b l en →
    (l ++ textV m v).length ≤ 1099511627776 →
    Calls Tryz.prog 100 #[.pointer (some ⟨b, 0, none⟩), .agg (cellsV v lv kv)] w fun e w' => e = .returned (.tuple #[]) ∧ WS w' b (l ++ textV m v) en ∧ WStep b w w'
set_option maxRecDepth 100000 in
set_option maxHeartbeats 4000000 in
theorem part1_F (w0 : World) (b P : Nat) (_hb : w0.heap.size ≤ b) (_hP : b < P) (en : Int) (m : Nat) (hC : ValueF w0 b en m) (v : V) (d : Nat) (hr : rightV d v = true) (k : Int) (a : Option Addr) (c B o : Nat) (kv : Value) (hls : v.l.length ≤ 1048576)
    (hab : 0 < v.l.length → a = some ⟨B, o, none⟩ ∧ B < w0.heap.size) (hi : ∀ i (h : i < v.l.length), ∃ lv' kv', FiveAt w0 B (o + i * 5) (v.l[i]) lv' kv' ∧ At w0 w0.heap.size m (v.l[i]) lv' kv')
    (i : Nat) (l : List UInt8) (w : World) (hlt : i < v.l.length) (hE : WEnv w0 b P #[.int .i64 k, .float .f64 v.f, .string v.s, .slice a v.l.length c, kv] w) (hw : WS w b l en)
    (hlen : (l ++ textV m (v.l.getD i default)).length ≤ 1099511627776) :
    Calls Tryz.prog 164 #[.int .i64 i, .pointer (some ⟨P, 0, none⟩), .pointer (some ⟨P + 1, 0, none⟩)] w fun e w' => e = .returned (.tuple #[]) ∧ WS w' b (l ++ textV m (v.l.getD i default)) en ∧ WStep b w w' := by
  have hg : v.l.getD i default = v.l[i] := by simp [List.getD, hlt]
  rw [hg] at hlen ⊢
  obtain ⟨rfl, hBw⟩ := hab (by omega)
  obtain ⟨lv', kv', h5, hAt⟩ := hi i hlt
  obtain ⟨f0, f1, f2, f3, f4⟩ := h5.keep hBw (fun p hp => hE.bel.cell hp)
  obtain ⟨a1, n1, k1, a2, n2, k2, rfl, rfl⟩ := hAt.slices
  have hcall := hC v.l[i] _ _ (d - 1) l w.drew (right_sub hr hlt) hAt hE.bel.drew (hw.heap rfl) hlen
  unfold cellsV at hcall
  have HC := Lib.hid hcall
  have g2 := row1V hE.p2
  obtain ⟨e0, e1, e2, e3, e4, _, _, _, _, _⟩ := row5' hE.p3
  clear hcall hC hE h5 hAt hi hab hr hg hw
  go_enter Tryz.func164, Tryz.ntmps164
  go_wp2_with fail
  go_region_with (go_at_call 100; refine HC.out.mono ?_; rintro e w2 ⟨rfl, hw2, hs2⟩)
  all_goals
    go_end0
    exact ⟨rfl, hw2, ((WStep.refl _ _).drew).trans hs2⟩
set_option maxRecDepth 100000 in
set_option maxHeartbeats 4000000 in
theorem part2_F (w0 : World) (b P : Nat) (hb : w0.heap.size ≤ b) (hP : b < P) (en : Int) (m : Nat) (hC : ValueF w0 b en m) (v : V) (d : Nat) (hr : rightV d v = true) (k : Int) (a : Option Addr) (c B o : Nat) (kv : Value) (hls : v.l.length ≤ 1048576)
    (hab : 0 < v.l.length → a = some ⟨B, o, none⟩ ∧ B < w0.heap.size) (hi : ∀ i (h : i < v.l.length), ∃ lv' kv', FiveAt w0 B (o + i * 5) (v.l[i]) lv' kv' ∧ At w0 w0.heap.size m (v.l[i]) lv' kv')
    (hk : KeysAt w0 w0.heap.size kv v.ks) (hkl : v.ks.length = v.l.length)
    (i : Nat) (l : List UInt8) (w : World) (hlt : i < v.l.length) (hE : WEnv w0 b P #[.int .i64 k, .float .f64 v.f, .string v.s, .slice a v.l.length c, kv] w) (hw : WS w b l en)
    (hlen : (l ++ (quoteR (v.ks.getD i default) ++ 58 :: textV m (v.l.getD i default))).length ≤ 1099511627776) :
    Calls Tryz.prog 165 #[.int .i64 i, .pointer (some ⟨P, 0, none⟩), .pointer (some ⟨P + 1, 0, none⟩)] w fun e w' => e = .returned (.tuple #[]) ∧
      WS w' b (l ++ (quoteR (v.ks.getD i default) ++ 58 :: textV m (v.l.getD i default))) en ∧ WStep b w w' := by
  have hg : v.l.getD i default = v.l[i] := by simp [List.getD, hlt]
  have hgk : v.ks.getD i default = v.ks[i]'(by omega) := by rw [List.getD, List.getElem?_eq_getElem (by omega)]; rfl
  rw [hg, hgk] at hlen ⊢
  have hlk : i < v.ks.length := by omega
  obtain ⟨A, ad, ck, rfl, hA, hac⟩ := hk.1.dest
  rw [List.length_map] at hE hA
  obtain ⟨rfl, hAw⟩ := hA (by omega)
  have hck : w0.cell? (ad.add i) = some (.string (v.ks[i]'hlk)) := hac i _ (by simp [hlk])
  have hkc : w.cell? (ad.add i) = some (.string (v.ks[i]'hlk)) := (hE.bel.cell (p := ad.add i) (by rw [add_block]; exact hAw)).trans hck
  obtain ⟨rfl, hBw⟩ := hab (by omega)
  obtain ⟨lv', kv', h5, hAt⟩ := hi i hlt
  obtain ⟨a1, n1, k1, a2, n2, k2, rfl, rfl⟩ := hAt.slices
  have hll : (l ++ (quoteR (v.ks[i]'hlk) ++ 58 :: textV m v.l[i])).length = (l ++ quoteR (v.ks[i]'hlk)).length + 1 + (textV m v.l[i]).length := by simp; omega
  rw [hll] at hlen
  have ht := text_F b l en (v.ks[i]'hlk) w.drew (hw.heap rfl) (by omega)
  have hwb := fun W hW => WriteByte_F b (l ++ quoteR (v.ks[i]'hlk)) en 58 W hW (by omega)
  have e1 : ((l ++ quoteR (v.ks[i]'hlk)) ++ [58]) ++ textV m v.l[i] = l ++ (quoteR (v.ks[i]'hlk) ++ 58 :: textV m v.l[i]) := by simp
  have hcall := fun W hB hW => hC v.l[i] _ _ (d - 1) ((l ++ quoteR (v.ks[i]'hlk)) ++ [58]) W (right_sub hr hlt) hAt hB hW (by rw [e1, hll]; omega)
  rw [e1] at hcall
  unfold cellsV at hcall
  have HC := Lib.hid hcall
  have HT := Lib.hid ht
  have HWB := Lib.hid hwb
  have HE := Lib.hid hE
  have H5 := Lib.hid h5
  have g2 := row1V hE.p2
  obtain ⟨e0, e1, e2, e3, e4, _, _, _, _, _⟩ := row5' hE.p3
  clear hcall hC hE h5 hAt hi hab hr hg hgk hw hk hac hA hck ht hwb hll e1
  go_enter Tryz.func165, Tryz.ntmps165
  go_wp2_with fail
  go_region_with (go_at_call 162; refine HT.out.mono ?_; rintro e w2 ⟨rfl, hw2, hs2⟩)
  all_goals
    have HW2 := Lib.hid hw2
    have hs02 : WStep b w w2 := ((WStep.refl _ _).drew).trans hs2
    have HE2 := Lib.hid (WEnv.step hP hb _ _ HE.out hs02)
    have HS2 := Lib.hid hs02
    have g2 := row1V HE2.out.p2
    have hlt2 := HW2.out.lt
    obtain ⟨p', v', hb'⟩ := HW2.out.row
    obtain ⟨c0, c1, c2, f0, f1, hsh, hltr⟩ := row3V hb'
    clear hw2 hs2 hs02 hb' hsh e0 e3 e4 hkc
    go_wp2_with fail
    refine (HWB.out w2 HW2.out).mono ?_
    rintro e w3 ⟨rfl, hw3, hs3⟩
    have HW3 := Lib.hid hw3
    have HE3 := Lib.hid (WEnv.step hP hb _ _ HE2.out hs3)
    have HS3 := Lib.hid (HS2.out.trans hs3)
    have g2 := row1V HE3.out.p2
    obtain ⟨e0, e1, e2, e3, e4, _, _, _, _, _⟩ := row5' HE3.out.p3
    obtain ⟨f0, f1, f2, f3, f4⟩ := H5.out.keep hBw (fun p hp => HE3.out.bel.cell hp)
    clear hw3 hs3
    go_wp2_with fail
    go_region_with (go_at_call 100; refine (HC.out w3.drew HE3.out.bel.drew (HW3.out.heap rfl)).mono ?_; rintro e w4 ⟨rfl, hw4, hs4⟩)
    all_goals
      go_end0
      exact ⟨rfl, hw4, HS3.out.trans (((WStep.refl _ _).drew).trans hs4)⟩
set_option maxRecDepth 100000 in
set_option maxHeartbeats 8000000 in
theorem value_F (w0 : World) (hN : NumW w0) (b : Nat) (hb : w0.heap.size ≤ b) (en : Int) (m : Nat) : ValueF w0 b en m := by
  induction m with
  | zero => intro v lv kv d l w _ h; exact h.elim
  | succ m ih =>
    intro v lv kv d l w hr h hbel hw hlen
    obtain ⟨hsm, ha, hcp, a, c, B, o, rfl, hab, hi⟩ := h.opened
    have hhead : headOK v = true := by
      cases d with
      | zero => cases hr
      | succ d => have hr : (headOK v && v.l.all (fun x => rightV d x)) = true := hr
                  rw [Bool.and_eq_true] at hr; exact hr.1
    rw [headOK_iff] at hhead
    obtain ⟨⟨hk0, hk6⟩, _, _, _, hkl, _⟩ := hhead
    have hp1 := fun (k : Int) P hP i l W => part1_F w0 b P hb hP en m ih v d hr k a c B o kv hsm.2.2.2.2.1 hab hi i l W
    have hp2 := fun (h6 : v.ks.length = v.l.length) (k : Int) P hP i l W => part2_F w0 b P hb hP en m ih v d hr k a c B o kv hsm.2.2.2.2.1 hab hi ha h6 i l W
    obtain ⟨A, ad, ck, rfl, hA, hac⟩ := ha.1.dest
    have hsf := run_store_float Tryz.prog
    rw [List.length_map] at hp1 hp2 ⊢
    obtain ⟨_, _, hf64, hss, hls, hks, _⟩ := hsm
    have HP1 := Lib.hid hp1
    have HP2 := Lib.hid hp2
    have HW := Lib.hid hw
    have HBEL := Lib.hid hbel
    have hNW : NumW w := hN.below hbel
    have HNW := Lib.hid hNW
    obtain ⟨p, vv, hbb⟩ := hw.row
    obtain ⟨c0, c1, c2, f0, f1, hsh, hlt⟩ := row3V hbb
    have HKL := Lib.hid hkl
    have hT : textV (m + 1) v = if v.k = 0 then nullT else if v.k = 1 then falseT else if v.k = 2 then trueT else if v.k = 3 then textB v.f else if v.k = 4 then quoteR v.s
      else if v.k = 5 then 91 :: (rowB (fun i => textV m (v.l.getD i default)) v.l.length ++ [93])
      else 123 :: (rowB (fun i => quoteR (v.ks.getD i default) ++ 58 :: textV m (v.l.getD i default)) v.l.length ++ [125]) := rfl
    obtain ⟨k, hk⟩ : ∃ k, v.k = k := ⟨_, rfl⟩
    unfold cellsV
    rw [hk] at hk0 hk6 hT HKL ⊢
    have hst2 : ∀ o1 o2, WStep b w ((w.alloc o1).alloc o2) := fun o1 o2 => ((WStep.refl b w).alloc (by omega) o1).alloc (by simp; omega) o2
    have HST2 := Lib.hid hst2
    clear ha hac hA hcp hi hab h ih hr hk hp1 hp2 hbel hNW hN hbb hsh hst2 hkl hw
    have hkk : k = 0 ∨ k = 1 ∨ k = 2 ∨ k = 3 ∨ k = 4 ∨ k = 5 ∨ k = 6 := by omega
    clear hk0 hk6
    rcases hkk with rfl | rfl | rfl | rfl | rfl | rfl | rfl
    · have hT : textV (m + 1) v = nullT := hT
      rw [hT] at hlen ⊢
      clear hT
      have hlen' : l.length ≤ 1099511627776 := by rw [List.length_append] at hlen; omega
      have ht := fun W hW => WriteString_F b l en ⟨#[110, 117, 108, 108]⟩ W hW (by omega) (by decide)
      have HTX := Lib.hid ht
      clear ht
      go_enter Tryz.func100, Tryz.ntmps100
      go_wp2_with fail
      refine (HTX.out _ ((HW.out.alloc _).alloc _)).mono ?_
      rintro e w2 ⟨rfl, hw2, hs2⟩
      have HW2 := Lib.hid hw2
      have HS2 := Lib.hid hs2
      clear hw2 hs2
      go_wp2_with fail
      go_end0
      exact ⟨rfl, HW2.out, (HST2.out _ _).trans HS2.out⟩
    · have hT : textV (m + 1) v = falseT := hT
      rw [hT] at hlen ⊢
      clear hT
      have hlen' : l.length ≤ 1099511627776 := by rw [List.length_append] at hlen; omega
      have ht := fun W hW => WriteString_F b l en ⟨#[102, 97, 108, 115, 101]⟩ W hW (by omega) (by decide)
      have HTX := Lib.hid ht
      clear ht
      go_enter Tryz.func100, Tryz.ntmps100
      go_wp2_with fail
      refine (HTX.out _ ((HW.out.alloc _).alloc _)).mono ?_
      rintro e w2 ⟨rfl, hw2, hs2⟩
      have HW2 := Lib.hid hw2
      have HS2 := Lib.hid hs2
      clear hw2 hs2
      go_wp2_with fail
      go_end0
      exact ⟨rfl, HW2.out, (HST2.out _ _).trans HS2.out⟩
    · have hT : textV (m + 1) v = trueT := hT
      rw [hT] at hlen ⊢
      clear hT
      have hlen' : l.length ≤ 1099511627776 := by rw [List.length_append] at hlen; omega
      have ht := fun W hW => WriteString_F b l en ⟨#[116, 114, 117, 101]⟩ W hW (by omega) (by decide)
      have HTX := Lib.hid ht
      clear ht
      go_enter Tryz.func100, Tryz.ntmps100
      go_wp2_with fail
      refine (HTX.out _ ((HW.out.alloc _).alloc _)).mono ?_
      rintro e w2 ⟨rfl, hw2, hs2⟩
      have HW2 := Lib.hid hw2
      have HS2 := Lib.hid hs2
      clear hw2 hs2
      go_wp2_with fail
      go_end0
      exact ⟨rfl, HW2.out, (HST2.out _ _).trans HS2.out⟩
    · have hT : textV (m + 1) v = textB v.f := hT
      rw [hT] at hlen ⊢
      clear hT
      have htl : (textB v.f).length ≤ 1099511627776 ∧ l.length ≤ 1099511627776 := by rw [List.length_append] at hlen; omega
      go_enter Tryz.func100, Tryz.ntmps100
      go_wp2_with fail
      have hrow0 := row_alloc3 (heap_alloc_new w (Obj.cells #[Value.pointer (some ⟨b, 0, none⟩)] 174)) (Obj.cells #[.int .i64 3, .float .f64 v.f, .string v.s, .slice a v.l.length c, .slice A v.ks.length ck] 27)
      have hrow1 := heap_alloc_new (w.alloc (Obj.cells #[Value.pointer (some ⟨b, 0, none⟩)] 174)) (Obj.cells #[.int .i64 3, .float .f64 v.f, .string v.s, .slice a v.l.length c, .slice A v.ks.length ck] 27)
      rw [World.size_alloc] at hrow1
      have hbl2 : Below w.heap.size w ((w.alloc (Obj.cells #[Value.pointer (some ⟨b, 0, none⟩)] 174)).alloc (Obj.cells #[.int .i64 3, .float .f64 v.f, .string v.s, .slice a v.l.length c, .slice A v.ks.length ck] 27)) := ((Below.refl w.heap.size w).alloc (Nat.le_refl _) _).alloc (by simp) _
      have hs2 := HST2.out (Obj.cells #[Value.pointer (some ⟨b, 0, none⟩)] 174) (Obj.cells #[.int .i64 3, .float .f64 v.f, .string v.s, .slice a v.l.length c, .slice A v.ks.length ck] 27)
      generalize ((w.alloc (Obj.cells #[Value.pointer (some ⟨b, 0, none⟩)] 174)).alloc (Obj.cells #[.int .i64 3, .float .f64 v.f, .string v.s, .slice a v.l.length c, .slice A v.ks.length ck] 27)) = w2 at hrow0 hrow1 hbl2 hs2 ⊢
      have g2 := row1V hrow0
      obtain ⟨e0, e1, e2, e3, e4, _, _, _, _, _⟩ := row5' hrow1
      have htx := Text_any v.f hf64 w2.drew ((HNW.out.below hbl2).below (Below.refl _ _).drew)
      have hw2 : WS w2 b l en := HW.out.below hbl2
      have hbz : b ≤ w2.heap.size := by have := hbl2.size; omega
      obtain ⟨p', vv', hbb'⟩ := hw2.row
      obtain ⟨d0, d1, d2, x0, x1, _, hlt2⟩ := row3V hbb'
      have HPZ : Hid (w.heap.size < w2.heap.size) := Lib.hid (Array.getElem?_eq_some_iff.1 hrow0).1
      have HTX := Lib.hid htx
      have HW2 := Lib.hid hw2
      have HS2 := Lib.hid hs2
      have hws := fun W hW => WriteString_F b l en ⟨(textB v.f).toArray⟩ W hW (by omega) (by show (textB v.f).toArray.size ≤ _; rw [List.size_toArray]; omega)
      have HWS := Lib.hid hws
      clear hrow0 hrow1 hbl2 hs2 htx hw2 hws hbb' c0 c1 c2 f0 f1
      go_region_with (first
        | (go_at_call 161; refine HTX.out.mono ?_; rintro e w3 ⟨rfl, hb3⟩; have g3 := (hb3.cell (p := ⟨w.heap.size, 0, none⟩) HPZ.out).trans g2; have y0 := (hb3.cell (p := ⟨b, 0, none⟩) hlt2).trans d0; have y1 := (hb3.cell (p := ⟨b, 1, none⟩) hlt2).trans d1; have y2 := (hb3.cell (p := ⟨b, 2, none⟩) hlt2).trans d2)
        | (go_at_call 160; refine (HWS.out w3 ((HW2.out.heap rfl : WS w2.drew b l en).below hb3)).mono ?_; rintro e w4 ⟨rfl, hw4, hs4⟩))
      all_goals
        have HB3 : Hid (WStep b w2 w3) := Lib.hid (((WStep.refl _ _).drew).trans (WStep.of_below hb3 hbz))
        have HW4 := Lib.hid hw4
        have HS4 := Lib.hid hs4
        clear hb3 hw4 hs4
        go_wp2_with fail
        go_end0
        exact ⟨rfl, HW4.out, HS2.out.trans (HB3.out.trans HS4.out)⟩
    · have hT : textV (m + 1) v = quoteR v.s := hT
      rw [hT] at hlen ⊢
      clear hT
      have ht := fun W hW => text_F b l en v.s W hW hlen
      have HTX := Lib.hid ht
      clear ht
      go_enter Tryz.func100, Tryz.ntmps100
      go_wp2_with fail
      refine (HTX.out _ ((HW.out.alloc _).alloc _)).mono ?_
      rintro e w2 ⟨rfl, hw2, hs2⟩
      have HW2 := Lib.hid hw2
      have HS2 := Lib.hid hs2
      clear hw2 hs2
      go_wp2_with fail
      go_end0
      exact ⟨rfl, HW2.out, (HST2.out _ _).trans HS2.out⟩
    · have hT : textV (m + 1) v = 91 :: (rowB (fun i => textV m (v.l.getD i default)) v.l.length ++ [93]) := hT
      rw [hT] at hlen ⊢
      clear hT
      have hro := fun W hE hW => row_F1 b en 91 93 v.l.length hls (fun i => textV m (v.l.getD i default)) (.pointer (some ⟨w.heap.size, 0, none⟩)) (.pointer (some ⟨w.heap.size + 1, 0, none⟩)) (WEnv w0 b w.heap.size #[.int .i64 5, .float .f64 v.f, .string v.s, .slice a v.l.length c, .slice A v.ks.length ck])
        (WEnv.step hlt hb) (fun i l W h1 h2 h3 h4 => HP1.out 5 w.heap.size hlt i l W h1 h2 h3 h4) l W hE hW hlen
      have HRO := Lib.hid hro
      clear hro
      go_enter Tryz.func100, Tryz.ntmps100
      go_wp2_with fail
      refine (HRO.out _ ⟨row_alloc3 (heap_alloc_new w _) _, by have := heap_alloc_new (w.alloc (Obj.cells #[Value.pointer (some ⟨b, 0, none⟩)] 174)) (Obj.cells #[.int .i64 5, .float .f64 v.f, .string v.s, .slice a v.l.length c, .slice A v.ks.length ck] 27); simpa using this, HBEL.out.trans ((HST2.out _ _).1.mono hb)⟩ ((HW.out.alloc _).alloc _)).mono ?_
      rintro e w2 ⟨rfl, hw2, hs2⟩
      have HW2 := Lib.hid hw2
      have HS2 := Lib.hid hs2
      clear hw2 hs2
      go_wp2_with fail
      go_end0
      exact ⟨rfl, HW2.out, (HST2.out _ _).trans HS2.out⟩
    · have hT : textV (m + 1) v = 123 :: (rowB (fun i => quoteR (v.ks.getD i default) ++ 58 :: textV m (v.l.getD i default)) v.l.length ++ [125]) := hT
      rw [hT] at hlen ⊢
      clear hT
      have h6 := HKL.out.resolve_left (by simp)
      have hro := fun W hE hW => row_F2 b en 123 125 v.l.length hls (fun i => quoteR (v.ks.getD i default) ++ 58 :: textV m (v.l.getD i default)) (.pointer (some ⟨w.heap.size, 0, none⟩)) (.pointer (some ⟨w.heap.size + 1, 0, none⟩)) (WEnv w0 b w.heap.size #[.int .i64 6, .float .f64 v.f, .string v.s, .slice a v.l.length c, .slice A v.ks.length ck])
        (WEnv.step hlt hb) (fun i l W h1 h2 h3 h4 => HP2.out h6 6 w.heap.size hlt i l W h1 h2 h3 h4) l W hE hW hlen
      have HRO := Lib.hid hro
      clear hro h6
      go_enter Tryz.func100, Tryz.ntmps100
      go_wp2_with fail
      refine (HRO.out _ ⟨row_alloc3 (heap_alloc_new w _) _, by have := heap_alloc_new (w.alloc (Obj.cells #[Value.pointer (some ⟨b, 0, none⟩)] 174)) (Obj.cells #[.int .i64 6, .float .f64 v.f, .string v.s, .slice a v.l.length c, .slice A v.ks.length ck] 27); simpa using this, HBEL.out.trans ((HST2.out _ _).1.mono hb)⟩ ((HW.out.alloc _).alloc _)).mono ?_
      rintro e w2 ⟨rfl, hw2, hs2⟩
      have HW2 := Lib.hid hw2
      have HS2 := Lib.hid hs2
      clear hw2 hs2
      go_wp2_with fail
      go_end0
      exact ⟨rfl, HW2.out, (HST2.out _ _).trans HS2.out⟩
end Go.Proofs.YtpobdmkidopnnaaGreatDoor

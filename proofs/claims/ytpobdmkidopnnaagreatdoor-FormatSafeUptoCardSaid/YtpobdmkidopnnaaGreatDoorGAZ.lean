/- FormatBase64, walked. -/
import Derived.Test.YtpobdmkidopnnaaGreatDoorGAY
import Derived.Test.YtpobdmkidopnnaaGreatDoorGAX
import Derived.Test.YtpobdmkidopnnaaGreatDoorGAP
namespace Go.Proofs.YtpobdmkidopnnaaGreatDoor
open Go Go.RowKit Go.Shelf

theorem decode_asc (s : ByteArray) (i : Nat) (h : (s.get! i).toNat < 128) : Utf8.decode s i = ((s.get! i).toNat, 1) := by
  unfold Utf8.decode
  simp [h]
theorem ascii_good (s : ByteArray) (h : ∀ b ∈ s.data.toList, b.toNat < 128) : ∀ n pos, s.size - pos ≤ n → allGood s pos = true := by
  intro n
  induction n with
  | zero => intro pos hp; exact allGood_nil s pos (by omega)
  | succ n ih =>
    intro pos hp
    by_cases hlt : pos < s.size
    · have hg : s.get! pos = s[pos] := by
        show s.data[pos]! = s.data[pos]
        exact getElem!_pos s.data pos hlt
      have hb : (s.get! pos).toNat < 128 := by
        rw [hg]
        exact h _ (Array.mem_toList_iff.2 (Array.getElem_mem (xs := s.data) (i := pos) hlt))
      rw [allGood_cons s pos hlt, Bool.and_eq_true]
      refine ⟨?_, by rw [decode_asc s pos hb]; exact ih _ (by show s.size - (pos + 1) ≤ n; omega)⟩
      unfold good
      rw [decode_asc s pos hb, decide_eq_true_eq]
      intro hx
      have := hx.1
      simp at this
      omega
    · exact allGood_nil s pos hlt
theorem b64_ascii (c : UInt8) (h : B64 c) : c.toNat < 128 := by
  rcases h.2.1 with h | h | h
  · have := (keptB_iff c).1 h
    omega
  · subst h; decide
  · subst h; decide
theorem encL_ascii (s : List UInt8) : ∀ b ∈ encL s, b.toNat < 128 := by
  intro b hb
  obtain ⟨i, hi⟩ := List.getElem?_of_mem hb
  rcases encL_byte s i b hi with h | ⟨rfl, _⟩
  · exact b64_ascii b h
  · decide
theorem base64_small (s : List UInt8) : (encL s).length ≤ 1048576 ↔ s.length ≤ 786432 := by
  rw [encL_len]
  omega
set_option maxRecDepth 100000 in
set_option maxHeartbeats 8000000 in
theorem formatBase64_true (s : ByteArray) (w : World) (hN : NumW w) (hs : s.size ≤ 1048576) : Calls Tryz.prog 4 #[.string s] w fun e w' => e = .returned (.bool true) ∧ Below w.heap.size w w' := by
  have hsf := run_store_float Tryz.prog
  have HN := Lib.hid (fun W (hW : Below w.heap.size w W) => hN.below hW)
  have HT := Lib.hid (fun W (hW : Below w.heap.size w W) => headsF_true W (hN.below hW))
  obtain ⟨G, hG⟩ : ∃ G, allGood s 0 = G := ⟨_, rfl⟩
  have HV := Lib.hid (fun w => refValid_any s (by omega) w)
  rw [hG] at HV
  cases G with
  | false =>
    clear hG hN
    go_enter Tryz.func4, Tryz.ntmps4
    go_wp2_with fail
    refine (HV.out _).mono ?_
    rintro e w1 ⟨rfl, rfl⟩
    go_wp2_with fail
    refine (HT.out _ (Below.refl _ _)).mono ?_
    rintro e w2 ⟨rfl, hb⟩
    have HB := Lib.hid hb
    clear hb
    go_wp2_with fail
    go_ret
    exact ⟨rfl, HB.out⟩
  | true =>
    have hz : s.data.toList.length = s.size := by simp
    have hb := base64_small s.data.toList
    have HF := Lib.hid (fun W (hW : Below w.heap.size w W) => F_base64 s hs hG W (hN.below hW))
    obtain ⟨S, hS⟩ : ∃ S : ByteArray, (⟨(encL s.data.toList).toArray⟩ : ByteArray) = S := ⟨_, rfl⟩
    have hSz : S.size = (encL s.data.toList).length := by rw [← hS]; show (encL s.data.toList).toArray.size = _; rw [List.size_toArray]
    have hSl : S.data.toList = encL s.data.toList := by rw [← hS]
    rw [hS] at HF
    by_cases hle : s.size ≤ 786432
    · have hsm : S.size ≤ 1048576 := by rw [hSz]; exact hb.2 (by omega)
      have hss : smallS S = .tuple #[.agg (strA S), .agg okA] := if_pos hsm
      rw [hss] at HF
      obtain ⟨q1, q2⟩ := dec_of_enc s.data.toList
      have hcl : cleanS s = s := of_decide_eq_true (by rw [← good_clean]; exact hG)
      have hD : cleanS ⟨(decL S.data.toList).toArray⟩ = s := by rw [hSl, q1]; exact hcl
      have hgood : allGood S 0 = true := ascii_good S (by rw [hSl]; exact encL_ascii _) S.size 0 (by omega)
      have HD := Lib.hid (fun W (hW : Below w.heap.size w W) => F_base64d S hsm hgood (by rw [hSl]; exact q2) (by rw [hD]; omega) W (hN.below hW))
      rw [hD, show smallS s = .tuple #[.agg (strA s), .agg okA] from if_pos hs] at HD
      have HBY := Lib.hid (fun i c (h : S.data.toList[i]? = some c) => encL_byte s.data.toList i c (by rw [← hSl]; exact h))
      have h4 : ((S.size : Int) % 4 != 0) = false := by
        rw [bne_eq_false_iff_eq, hSz, encL_len]
        omega
      have H4 := Lib.hid h4
      have hle2 : decide ((786432 : Int) < (s.size : Int)) = false := decide_eq_false (by omega)
      have hself : (s.toList != s.toList) = false := by simp
      unfold strA okA at HF HD
      clear hG hN hb hS hSz hss q1 q2 hcl hgood hD h4
      go_enter Tryz.func4, Tryz.ntmps4
      go_wp2_with fail
      refine (HV.out _).mono ?_
      rintro e w1 ⟨rfl, rfl⟩
      go_wp2_with fail
      refine (Str_any _ _).mono ?_
      rintro e w2 ⟨rfl, hb⟩
      have H1 := Lib.hid ((HW.start w).below hb)
      clear hb
      go_wp2_with fail
      refine (HF.out _ H1.out.bel).mono ?_
      rintro e w3 ⟨rfl, hb⟩
      have hx := (H1.out.below hb).two #[.int .i64 4, .float .f64 0, .string S, .slice none 0 0, .slice none 0 0] #[.bool false, .int .i64 0, .float .f64 0, .string ⟨#[]⟩, .slice none 0 0, .slice none 0 0] 27 32
      clear hb H1
      go_upto_region 4 with fail
      obtain ⟨n, hn⟩ : ∃ n, w3.heap.size = n := ⟨_, rfl⟩
      rw [hn] at hx ⊢
      generalize (w3.alloc (.cells #[.int .i64 4, .float .f64 0, .string S, .slice none 0 0, .slice none 0 0] 27)).alloc (.cells #[.bool false, .int .i64 0, .float .f64 0, .string ⟨#[]⟩, .slice none 0 0, .slice none 0 0] 32) = W4 at hx ⊢
      have H2 := Lib.hid hx
      clear hx hn
      have e0 := H2.out.cellAt (n + 1) _ 32 0 (.bool false) (.head _) rfl
      have c0 := H2.out.cellAt n _ 27 0 (.int .i64 4) (.tail _ (.head _)) rfl
      have c1 := H2.out.cellAt n _ 27 1 (.float .f64 0) (.tail _ (.head _)) rfl
      have c2 := H2.out.cellAt n _ 27 2 (.string S) (.tail _ (.head _)) rfl
      have c3 := H2.out.cellAt n _ 27 3 (.slice none 0 0) (.tail _ (.head _)) rfl
      have c4 := H2.out.cellAt n _ 27 4 (.slice none 0 0) (.tail _ (.head _)) rfl
      go_wp2_with fail
      refine (HD.out _ H2.out.bel).mono ?_
      rintro e w5 ⟨rfl, hb⟩
      have hx := (H2.out.below hb).two #[.int .i64 4, .float .f64 0, .string s, .slice none 0 0, .slice none 0 0] #[.bool false, .int .i64 0, .float .f64 0, .string ⟨#[]⟩, .slice none 0 0, .slice none 0 0] 27 32
      clear hb H2 e0 c0 c1 c2 c3 c4
      go_upto_region 7 with fail
      obtain ⟨m, hm⟩ : ∃ m, w5.heap.size = m := ⟨_, rfl⟩
      rw [hm] at hx ⊢
      generalize (w5.alloc (.cells #[.int .i64 4, .float .f64 0, .string s, .slice none 0 0, .slice none 0 0] 27)).alloc (.cells #[.bool false, .int .i64 0, .float .f64 0, .string ⟨#[]⟩, .slice none 0 0, .slice none 0 0] 32) = W6 at hx ⊢
      have H3 := Lib.hid hx
      clear hx hm
      have e0 := H3.out.cellAt (m + 1) _ 32 0 (.bool false) (.head _) rfl
      have k0 := H3.out.cellAt m _ 27 0 (.int .i64 4) (.tail _ (.head _)) rfl
      have k2 := H3.out.cellAt m _ 27 2 (.string s) (.tail _ (.head _)) rfl
      have c2 := H3.out.cellAt n _ 27 2 (.string S) (.tail _ (.tail _ (.tail _ (.head _)))) rfl
      have h4 := H4.out
      go_wp2_with fail
      clear k0 k2 e0 h4 hself hle2 H4
      go_loop [7] (fun i => ∃ k : Nat, k ≤ S.size ∧ i = .int .i64 k) (fun i => S.size - (intOf i).toNat)
      case atStart => exact ⟨0, by omega, rfl⟩
      case round =>
        obtain ⟨k, hk, rfl⟩ := hrel
        by_cases hlt : k < S.size
        · obtain ⟨c, hc⟩ : ∃ c, S[k] = c := ⟨_, rfl⟩
          have hbc := c.toNat_lt
          have hB := HBY.out k c (by rw [List.getElem?_eq_getElem (ltF hlt), ← hc]; rfl)
          have hne : ∀ x : UInt8, c ≠ x → ((c.toNat : Int) == (x.toNat : Int)) = false := fun x hx => by
            rw [beq_eq_false_iff_ne]
            intro e
            exact hx (UInt8.toNat_inj.1 (by omega))
          have hall : c ≠ 45 ∧ c ≠ 95 ∧ c ≠ 46 ∧ c ≠ 126 := by
            rcases hB with h | ⟨rfl, _⟩
            · exact h.2.2
            · decide
          have n1 : ((c.toNat : Int) == 45) = false := hne 45 hall.1
          have n2 : ((c.toNat : Int) == 95) = false := hne 95 hall.2.1
          have n3 : ((c.toNat : Int) == 46) = false := hne 46 hall.2.2.1
          have n4 : ((c.toNat : Int) == 126) = false := hne 126 hall.2.2.2
          have hway : keptB c = true ∨ (keptB c = false ∧ ((c.toNat : Int) != 43) = false) ∨ (keptB c = false ∧ ((c.toNat : Int) != 43) = true ∧ ((c.toNat : Int) != 47) = false) ∨ (keptB c = false ∧ ((c.toNat : Int) != 43) = true ∧ ((c.toNat : Int) != 47) = true ∧ ((c.toNat : Int) == 61) = true ∧ decide ((S.size : Int) - 2 ≤ (k : Int)) = true) := by
            rcases hB with h | ⟨rfl, h⟩
            · rcases h.2.1 with h | rfl | rfl
              · exact .inl h
              · exact .inr (.inl ⟨by decide, by decide⟩)
              · exact .inr (.inr (.inl ⟨by decide, by decide, by decide⟩))
            · exact .inr (.inr (.inr ⟨by decide, by decide, by decide, by decide, decide_eq_true (by rw [← hSl] at h; have : S.data.toList.length = S.size := (by simp); omega)⟩))
          have HK0 := fun w => Kept_any c w
          clear hB hall hne
          rcases hway with g1 | ⟨g1, g2⟩ | ⟨g1, g2, g3⟩ | ⟨g1, g2, g3, g4, g5⟩
          all_goals
            rw [g1] at HK0
            have HK := Lib.hid HK0
            clear HK0 g1
            go_wp2_with fail
            refine (HK.out _).mono ?_
            rintro e w7 ⟨rfl, rfl⟩
            go_wp2_with fail
            go_round
            case rel => exact ⟨k + 1, by omega, by go_num⟩
            case measure => simp [intOf]; omega
        · have hkk : k = S.size := by omega
          clear hk hlt
          subst hkk
          go_wp2_with fail
          refine (HT.out _ H3.out.bel).mono ?_
          rintro e w8 ⟨rfl, hb⟩
          have HB := Lib.hid (H3.out.below hb).bel
          clear hb c2 H3
          go_wp2_with fail
          go_ret
          exact ⟨rfl, HB.out⟩
    · have hsm : ¬ S.size ≤ 1048576 := by rw [hSz]; exact fun h => hle (by have := hb.1 h; omega)
      have hss : smallS S = .tuple #[.agg zeroA, .agg (errA largeT)] := if_neg hsm
      rw [hss] at HF
      have hle2 : decide ((786432 : Int) < (s.size : Int)) = true := decide_eq_true (by omega)
      unfold strA zeroA errA largeT at HF
      clear hG hN hb hS hSz hss hsm hle hSl
      go_enter Tryz.func4, Tryz.ntmps4
      go_wp2_with fail
      refine (HV.out _).mono ?_
      rintro e w1 ⟨rfl, rfl⟩
      go_wp2_with fail
      refine (Str_any _ _).mono ?_
      rintro e w2 ⟨rfl, hb⟩
      have H1 := Lib.hid ((HW.start w).below hb)
      clear hb
      go_wp2_with fail
      refine (HF.out _ H1.out.bel).mono ?_
      rintro e w3 ⟨rfl, hb⟩
      have hx := (H1.out.below hb).two zeroA (errA largeT) 27 32
      unfold zeroA errA largeT at hx
      clear hb H1
      go_upto_region 4 with fail
      obtain ⟨n, hn⟩ : ∃ n, w3.heap.size = n := ⟨_, rfl⟩
      rw [hn] at hx ⊢
      generalize (w3.alloc (.cells #[.int .i64 0, .float .f64 0, .string ⟨#[]⟩, .slice none 0 0, .slice none 0 0] 27)).alloc (.cells #[.bool true, .int .i64 4, .float .f64 0, .string ⟨#[118, 97, 108, 117, 101, 32, 105, 115, 32, 116, 111, 111, 32, 108, 97, 114, 103, 101]⟩, .slice none 0 0, .slice none 0 0] 32) = W4 at hx ⊢
      have H2 := Lib.hid hx
      clear hx hn
      have e0 := H2.out.cellAt (n + 1) _ 32 0 (.bool true) (.head _) rfl
      go_wp2_with fail
      refine (HT.out _ H2.out.bel).mono ?_
      rintro e w8 ⟨rfl, hb⟩
      have HB := Lib.hid (H2.out.below hb).bel
      clear hb e0 H2
      go_wp2_with fail
      go_ret
      exact ⟨rfl, HB.out⟩
end Go.Proofs.YtpobdmkidopnnaaGreatDoor
namespace Go.Proofs.YtpobdmkidopnnaaGreatDoor
open Go Go.RowKit

set_option maxHeartbeats 1000000 in
theorem refRightT_any (m : Nat) (v : V) (lv kv : Value) (w : World) (h : At w w.heap.size m v lv kv) :
    Calls Tryz.prog 9 #[.agg (cellsV v lv kv)] w fun e w' => e = .returned (.bool (rightV 10000 v)) ∧ Below w.heap.size w w' := by
  have hsf := run_store_float Tryz.prog
  obtain ⟨i0, hi0, hz0, hz1, hz2⟩ := info_parts infoVal
  have hr := fun o => refRight_any3 m v lv kv 10000 (w.alloc o) (Nat.le_refl _) (At.more (by simp) _ _ _ _ (h.below ((Below.refl w.heap.size w).alloc (Nat.le_refl _) o)))
  obtain ⟨a1, n1, k1, a2, n2, k2, rfl, rfl⟩ := h.slices
  unfold cellsV at hr ⊢
  have HR := Lib.hid hr
  clear hr h
  go_enter Tryz.func9, Tryz.ntmps9
  go_wp2_with fail
  refine (HR.out _).mono ?_
  rintro e w1 ⟨rfl, hb1⟩
  go_wp2_with fail
  go_ret
  exact ⟨rfl, ((Below.refl w.heap.size w).alloc (Nat.le_refl _) _).trans (hb1.mono (by simp))⟩

end Go.Proofs.YtpobdmkidopnnaaGreatDoor
namespace Go.Proofs.YtpobdmkidopnnaaGreatDoor
open Go Go.RowKit Go.Shelf

theorem eachO_mem {σ : Type} (step : σ → UInt8 → σ × List UInt8) (P : UInt8 → Prop) (h : ∀ st c, ∀ b ∈ (step st c).2, P b) (l : List UInt8) : ∀ st, ∀ b ∈ eachO step st l, P b := by
  induction l with
  | nil => intro st b hb; cases hb
  | cons c r ih =>
    intro st b hb
    rcases List.mem_append.1 hb with hb | hb
    · exact h st c b hb
    · exact ih _ b hb
/-- A byte that html leaves. -/
def HB (c : UInt8) : Prop := c ≠ 60 ∧ c ≠ 62 ∧ c ≠ 39 ∧ c ≠ 34
theorem mark_HB (c : UInt8) : ∀ b ∈ swapT LMark c, HB b := by
  intro b hb
  unfold LMark at hb
  unfold swapT at hb
  split at hb
  · revert b; unfold HB; decide
  unfold swapT at hb
  split at hb
  · revert b; unfold HB; decide
  unfold swapT at hb
  split at hb
  · revert b; unfold HB; decide
  unfold swapT at hb
  split at hb
  · revert b; unfold HB; decide
  unfold swapT at hb
  split at hb
  · revert b; unfold HB; decide
  next h1 h2 h3 h4 h5 =>
    unfold swapT at hb
    obtain rfl : b = c := by simpa using hb
    exact ⟨fun e => h1 e.symm, fun e => h2 e.symm, fun e => h4 e.symm, fun e => h5 e.symm⟩
theorem html_HB (s : List UInt8) : ∀ b ∈ replL LMark s, HB b := eachO_mem _ HB (fun _ c => mark_HB c) s ()
def UB (c : UInt8) : Prop := keptB c = true ∨ c = 37
theorem hex_UB (n : Nat) (h : n < 16) : UB (hexT.getD n 0) := by
  have : ∀ k : Fin 16, keptB (hexT.getD k.val 0) = true := by decide
  exact .inl (this ⟨n, h⟩)
theorem uri_UB1 (c : UInt8) : ∀ b ∈ uriT c, UB b := by
  intro b hb
  have hc := c.toNat_lt
  unfold uriT at hb
  split at hb
  · next h =>
    obtain rfl : b = c := by simpa using hb
    exact .inl h
  · simp only [List.mem_cons, List.not_mem_nil, or_false] at hb
    rcases hb with rfl | rfl | rfl
    · exact .inr rfl
    · exact hex_UB _ (by omega)
    · exact hex_UB _ (by omega)
theorem uri_UB (s : List UInt8) : ∀ b ∈ uriL s, UB b := eachO_mem _ UB (fun _ c => uri_UB1 c) s ()
/-- What Small answers of a string, cell by cell. -/
theorem small_cells (s : ByteArray) (P : UInt8 → Prop) (h : ∀ b ∈ s.data.toList, P b) : ∃ (ka : Int) (a : ByteArray) (eb : Bool) (ke : Int) (es : ByteArray), smallS s = .tuple #[.agg #[.int .i64 ka, .float .f64 0, .string a, .slice none 0 0, .slice none 0 0], .agg #[.bool eb, .int .i64 ke, .float .f64 0, .string es, .slice none 0 0, .slice none 0 0]] ∧ (∀ b ∈ a.data.toList, P b) ∧ a.size ≤ 1048576 ∧ (eb = false ∨ (eb = true ∧ es = largeT)) := by
  by_cases hs : s.size ≤ 1048576
  · exact ⟨4, s, false, 0, ⟨#[]⟩, if_pos hs, h, hs, .inl rfl⟩
  · exact ⟨0, ⟨#[]⟩, true, 4, largeT, if_neg hs, fun b hb => by simp at hb, by decide, .inr ⟨rfl, rfl⟩⟩
set_option maxRecDepth 100000 in
set_option maxHeartbeats 8000000 in
theorem formatSafe_true (v : V) (m : Nat) (lv kv : Value) (w : World) (hN : NumW w) (hat : At w w.heap.size m v lv kv) (hbu : bulkV m v ≤ 1048576) : Calls Tryz.prog 7 #[.agg (cellsV v lv kv)] w fun e w' => e = .returned (.bool true) ∧ Below w.heap.size w w' := by
  have hsf := run_store_float Tryz.prog
  have hlen : (textV m v).length ≤ 1000000000 := by have := text_bulk m v lv kv hat; omega
  have HT := Lib.hid (fun W (hW : Below w.heap.size w W) => headsF_true W (hN.below hW))
  have HR := Lib.hid (fun W (hW : Below w.heap.size w W) => refRightT_any m v lv kv W (At.more hW.size _ _ _ _ (hat.below hW)))
  obtain ⟨R, hR⟩ : ∃ R, rightV 10000 v = R := ⟨_, rfl⟩
  rw [hR] at HR
  have hx := (HW.start w).one (cellsV v lv kv) 27
  cases R with
  | false =>
    obtain ⟨a1, n1, c1, a2, n2, c2, rfl, rfl⟩ := hat.slices
    unfold cellsV at HR hx ⊢
    clear hat hR hlen hN hbu
    go_enter Tryz.func7, Tryz.ntmps7
    go_upto_region 1 with fail
    obtain ⟨n, hn⟩ : ∃ n, w.heap.size = n := ⟨_, rfl⟩
    rw [hn] at hx
    obtain ⟨W0, hW0⟩ : ∃ W0, w.alloc (.cells #[.int .i64 v.k, .float .f64 v.f, .string v.s, .slice a1 n1 c1, .slice a2 n2 c2] 27) = W0 := ⟨_, rfl⟩
    rw [hW0] at hx ⊢
    rw [hn]
    have H0 := Lib.hid hx
    clear hx hW0 hn
    have d0 := H0.out.cellAt n _ 27 0 (.int .i64 v.k) (.head _) rfl
    have d1 := H0.out.cellAt n _ 27 1 (.float .f64 v.f) (.head _) rfl
    have d2 := H0.out.cellAt n _ 27 2 (.string v.s) (.head _) rfl
    have d3 := H0.out.cellAt n _ 27 3 (.slice a1 n1 c1) (.head _) rfl
    have d4 := H0.out.cellAt n _ 27 4 (.slice a2 n2 c2) (.head _) rfl
    go_wp2_with fail
    refine (HR.out _ H0.out.bel).mono ?_
    rintro e w1 ⟨rfl, hb⟩
    have H1 := Lib.hid (H0.out.below hb)
    clear hb H0 d0 d1 d2 d3 d4
    go_wp2_with fail
    refine (HT.out _ H1.out.bel).mono ?_
    rintro e w8 ⟨rfl, hb⟩
    have HB := Lib.hid (H1.out.below hb).bel
    clear hb H1
    go_wp2_with fail
    go_ret
    exact ⟨rfl, HB.out⟩
  | true =>
    have hF := fun W (hW : Below w.heap.size w W) => F_html m v 10000 lv kv W (hN.below hW) (At.more hW.size _ _ _ _ (hat.below hW)) hR hlen
    have hU := fun W (hW : Below w.heap.size w W) => F_uri m v 10000 lv kv W (hN.below hW) (At.more hW.size _ _ _ _ (hat.below hW)) hR hlen
    obtain ⟨ka, a, ea, ja, sa, ha, haP, haS, haE⟩ := small_cells ⟨(replL LMark (strT m v)).toArray⟩ HB (html_HB _)
    obtain ⟨kb, b, eb, jb, sb, hb0, hbP, hbS, hbE⟩ := small_cells ⟨(uriL (strT m v)).toArray⟩ UB (uri_UB _)
    rw [ha] at hF
    rw [hb0] at hU
    obtain ⟨a1, n1, c1, a2, n2, c2, rfl, rfl⟩ := hat.slices
    unfold cellsV at HR hF hU hx ⊢
    have HF := Lib.hid hF
    have HU := Lib.hid hU
    have HAP := Lib.hid haP
    have HBP := Lib.hid hbP
    have HAE := Lib.hid haE
    have HBE := Lib.hid hbE
    clear hat hR hlen hN hbu hF hU ha hb0 haP hbP haE hbE
    go_enter Tryz.func7, Tryz.ntmps7
    go_upto_region 1 with fail
    obtain ⟨n, hn⟩ : ∃ n, w.heap.size = n := ⟨_, rfl⟩
    rw [hn] at hx
    obtain ⟨W0, hW0⟩ : ∃ W0, w.alloc (.cells #[.int .i64 v.k, .float .f64 v.f, .string v.s, .slice a1 n1 c1, .slice a2 n2 c2] 27) = W0 := ⟨_, rfl⟩
    rw [hW0] at hx ⊢
    rw [hn]
    have H0 := Lib.hid hx
    clear hx hW0 hn
    have d0 := H0.out.cellAt n _ 27 0 (.int .i64 v.k) (.head _) rfl
    have d1 := H0.out.cellAt n _ 27 1 (.float .f64 v.f) (.head _) rfl
    have d2 := H0.out.cellAt n _ 27 2 (.string v.s) (.head _) rfl
    have d3 := H0.out.cellAt n _ 27 3 (.slice a1 n1 c1) (.head _) rfl
    have d4 := H0.out.cellAt n _ 27 4 (.slice a2 n2 c2) (.head _) rfl
    go_wp2_with fail
    refine (HR.out _ H0.out.bel).mono ?_
    rintro e w1 ⟨rfl, hb⟩
    have H1 := Lib.hid (H0.out.below hb)
    clear hb H0 d0 d1 d2 d3 d4
    have d0 := H1.out.cellAt n _ 27 0 (.int .i64 v.k) (.head _) rfl
    have d1 := H1.out.cellAt n _ 27 1 (.float .f64 v.f) (.head _) rfl
    have d2 := H1.out.cellAt n _ 27 2 (.string v.s) (.head _) rfl
    have d3 := H1.out.cellAt n _ 27 3 (.slice a1 n1 c1) (.head _) rfl
    have d4 := H1.out.cellAt n _ 27 4 (.slice a2 n2 c2) (.head _) rfl
    go_wp2_with fail
    refine (HF.out _ H1.out.bel).mono ?_
    rintro e w2 ⟨rfl, hb⟩
    have hx := (H1.out.below hb).two #[.int .i64 ka, .float .f64 0, .string a, .slice none 0 0, .slice none 0 0] #[.bool ea, .int .i64 ja, .float .f64 0, .string sa, .slice none 0 0, .slice none 0 0] 27 32
    clear hb H1 d0 d1 d2 d3 d4
    go_upto_region 4 with fail
    obtain ⟨p, hp⟩ : ∃ p, w2.heap.size = p := ⟨_, rfl⟩
    rw [hp] at hx ⊢
    generalize (w2.alloc (.cells #[.int .i64 ka, .float .f64 0, .string a, .slice none 0 0, .slice none 0 0] 27)).alloc (.cells #[.bool ea, .int .i64 ja, .float .f64 0, .string sa, .slice none 0 0, .slice none 0 0] 32) = W3 at hx ⊢
    have H2 := Lib.hid hx
    clear hx hp
    have c2' := H2.out.cellAt p _ 27 2 (.string a) (.tail _ (.head _)) rfl
    go_wp2_with fail
    go_loop [5] (fun i => ∃ k : Nat, k ≤ a.size ∧ i = .int .i64 k) (fun i => a.size - (intOf i).toNat)
    case atStart => exact ⟨0, by omega, rfl⟩
    case round =>
      obtain ⟨k, hk, rfl⟩ := hrel
      by_cases hlt : k < a.size
      · obtain ⟨c, hc⟩ : ∃ c, a[k] = c := ⟨_, rfl⟩
        have hB := HAP.out c (by rw [← hc]; exact List.getElem_mem (ltF hlt))
        have hne : ∀ x : UInt8, c ≠ x → ((c.toNat : Int) == (x.toNat : Int)) = false := fun x hx => by
          rw [beq_eq_false_iff_ne]
          intro e
          exact hx (UInt8.toNat_inj.1 (by omega))
        have n1' : ((c.toNat : Int) == 60) = false := hne 60 hB.1
        have n2' : ((c.toNat : Int) == 62) = false := hne 62 hB.2.1
        have n3' : ((c.toNat : Int) == 39) = false := hne 39 hB.2.2.1
        have n4' : ((c.toNat : Int) == 34) = false := hne 34 hB.2.2.2
        clear hB hne
        go_wp2_with fail
        go_round
        case rel => exact ⟨k + 1, by omega, by go_num⟩
        case measure => simp [intOf]; omega
      · have hkk : k = a.size := by omega
        clear hk hlt
        subst hkk
        have d0 := H2.out.cellAt n _ 27 0 (.int .i64 v.k) (.tail _ (.tail _ (.head _))) rfl
        have d1 := H2.out.cellAt n _ 27 1 (.float .f64 v.f) (.tail _ (.tail _ (.head _))) rfl
        have d2 := H2.out.cellAt n _ 27 2 (.string v.s) (.tail _ (.tail _ (.head _))) rfl
        have d3 := H2.out.cellAt n _ 27 3 (.slice a1 n1 c1) (.tail _ (.tail _ (.head _))) rfl
        have d4 := H2.out.cellAt n _ 27 4 (.slice a2 n2 c2) (.tail _ (.tail _ (.head _))) rfl
        go_wp2_with fail
        refine (HU.out _ H2.out.bel).mono ?_
        rintro e w4 ⟨rfl, hb⟩
        have hx := (H2.out.below hb).two #[.int .i64 kb, .float .f64 0, .string b, .slice none 0 0, .slice none 0 0] #[.bool eb, .int .i64 jb, .float .f64 0, .string sb, .slice none 0 0, .slice none 0 0] 27 32
        clear hb H2 d0 d1 d2 d3 d4 c2'
        go_upto_region 11 with fail
        obtain ⟨q, hq⟩ : ∃ q, w4.heap.size = q := ⟨_, rfl⟩
        rw [hq] at hx ⊢
        generalize (w4.alloc (.cells #[.int .i64 kb, .float .f64 0, .string b, .slice none 0 0, .slice none 0 0] 27)).alloc (.cells #[.bool eb, .int .i64 jb, .float .f64 0, .string sb, .slice none 0 0, .slice none 0 0] 32) = W5 at hx ⊢
        have H3 := Lib.hid hx
        clear hx hq
        have c2' := H3.out.cellAt q _ 27 2 (.string b) (.tail _ (.head _)) rfl
        go_wp2_with fail
        go_loop [9] (fun i => ∃ k : Nat, k ≤ b.size ∧ i = .int .i64 k) (fun i => b.size - (intOf i).toNat)
        case atStart => exact ⟨0, by omega, rfl⟩
        case round =>
          obtain ⟨k, hk, rfl⟩ := hrel
          by_cases hlt : k < b.size
          · obtain ⟨c, hc⟩ : ∃ c, b[k] = c := ⟨_, rfl⟩
            have hB := HBP.out c (by rw [← hc]; exact List.getElem_mem (ltF hlt))
            have hway : keptB c = true ∨ (keptB c = false ∧ ((c.toNat : Int) != 37) = false) := by
              rcases hB with h | rfl
              · exact .inl h
              · exact .inr ⟨by decide, by decide⟩
            have HK0 := fun w => Kept_any c w
            clear hB
            rcases hway with g1 | ⟨g1, g2⟩
            all_goals
              rw [g1] at HK0
              have HK := Lib.hid HK0
              clear HK0 g1
              go_wp2_with fail
              refine (HK.out _).mono ?_
              rintro e w7 ⟨rfl, rfl⟩
              go_wp2_with fail
              go_round
              case rel => exact ⟨k + 1, by omega, by go_num⟩
              case measure => simp [intOf]; omega
          · have hkk : k = b.size := by omega
            clear hk hlt
            subst hkk
            have x0 := H3.out.cellAt (p + 1) _ 32 0 (.bool ea) (.tail _ (.tail _ (.head _))) rfl
            have x3 := H3.out.cellAt (p + 1) _ 32 3 (.string sa) (.tail _ (.tail _ (.head _))) rfl
            have y0 := H3.out.cellAt (q + 1) _ 32 0 (.bool eb) (.head _) rfl
            have y3 := H3.out.cellAt (q + 1) _ 32 3 (.string sb) (.head _) rfl
            rcases HAE.out with rfl | ⟨rfl, rfl⟩
            all_goals
              rcases HBE.out with rfl | ⟨rfl, rfl⟩
              all_goals
                try unfold largeT at x3
                try unfold largeT at y3
                go_wp2_with fail
                refine (HT.out _ H3.out.bel).mono ?_
                rintro e w8 ⟨rfl, hb⟩
                have HBx := Lib.hid (H3.out.below hb).bel
                clear hb c2' x0 x3 y0 y3 H3
                go_wp2_with fail
                go_ret
                exact ⟨rfl, HBx.out⟩
end Go.Proofs.YtpobdmkidopnnaaGreatDoor

/- Case: of the answers and of the program. -/
import Derived.Test.YtohjcimkpcpgbaaDoorRefB
import Derived.Test.YtohjcimkpcpgbaaDoorBytes
namespace Go.Proofs.YtohjcimkpcpgbaaDoor
open Go Go.RowKit Go.WideShapes

/-- One byte in the other case. -/
def caseB (up : Bool) (c : UInt8) : UInt8 := if up then (if 97 ≤ c.toNat ∧ c.toNat ≤ 122 then c - 32 else c) else (if 65 ≤ c.toNat ∧ c.toNat ≤ 90 then c + 32 else c)
theorem xor32 : ∀ n : Fin 256, bits .xor .u8 (n.val : Int) 32 = if n.val / 32 % 2 = 1 then ((n.val - 32 : Nat) : Int) else ((n.val + 32 : Nat) : Int) := by decide +kernel
theorem flip32 (b : UInt8) : bits .xor .u8 (b.toNat : Int) 32 = if b.toNat / 32 % 2 = 1 then ((b.toNat - 32 : Nat) : Int) else ((b.toNat + 32 : Nat) : Int) := xor32 ⟨b.toNat, b.toNat_lt⟩
theorem caseB_up {c : UInt8} (h1 : 97 ≤ c.toNat) (h2 : c.toNat ≤ 122) : bits .xor .u8 (c.toNat : Int) 32 = ((caseB true c).toNat : Int) := by
  rw [flip32, if_pos (by omega)]
  unfold caseB
  rw [if_pos rfl, if_pos ⟨h1, h2⟩, UInt8.toNat_sub_of_le c 32 (by rw [UInt8.le_iff_toNat_le]; simp; omega)]
  rfl
theorem caseB_down {c : UInt8} (h1 : 65 ≤ c.toNat) (h2 : c.toNat ≤ 90) : bits .xor .u8 (c.toNat : Int) 32 = ((caseB false c).toNat : Int) := by
  rw [flip32, if_neg (by omega)]
  unfold caseB
  rw [if_neg (by simp), if_pos ⟨h1, h2⟩, UInt8.toNat_add]
  simp
  omega
theorem caseB_same_up {c : UInt8} (h : ¬ (97 ≤ c.toNat ∧ c.toNat ≤ 122)) : caseB true c = c := by unfold caseB; rw [if_pos rfl, if_neg h]
theorem caseB_same_down {c : UInt8} (h : ¬ (65 ≤ c.toNat ∧ c.toNat ≤ 90)) : caseB false c = c := by unfold caseB; rw [if_neg (by simp), if_neg h]
theorem mixed_set (f : UInt8 → UInt8) (l : List UInt8) (k : Nat) (h : k < l.length) : (((l.take k).map f) ++ l.drop k).set k (f l[k]) = ((l.take (k + 1)).map f) ++ l.drop (k + 1) := by
  rw [List.set_append_right _ _ (by simp; omega), ← List.getElem_cons_drop h]
  have e : ((l.take k).map f).length = k := by simp; omega
  rw [e, Nat.sub_self, List.set_cons_zero, ← List.take_append_getElem h, List.map_append, List.append_assoc]
  rfl
theorem mixed_get (f : UInt8 → UInt8) (l : List UInt8) (k : Nat) (h : k < l.length) : ∃ h' : k < (((l.take k).map f) ++ l.drop k).length, (((l.take k).map f) ++ l.drop k)[k] = l[k] := by
  refine ⟨by simp; omega, ?_⟩
  rw [List.getElem_append_right (by simp; omega)]
  simp [Nat.min_eq_left (Nat.le_of_lt h)]
theorem mixed_keep (f : UInt8 → UInt8) (l : List UInt8) (k : Nat) (h : k < l.length) (he : f l[k] = l[k]) : ((l.take k).map f) ++ l.drop k = ((l.take (k + 1)).map f) ++ l.drop (k + 1) := by
  rw [← mixed_set f l k h, he]
  obtain ⟨h', e⟩ := mixed_get f l k h
  conv => lhs; rw [← List.set_getElem_self h']
  rw [e]

theorem size_mk (l : List UInt8) : (⟨l.toArray⟩ : ByteArray).size = l.length := by simp [ByteArray.size]
theorem below_bytes (w : World) (e : TypeId) (s : ByteArray) : Below w.heap.size w (Lib.bytesWorld w e s) :=
  ⟨rfl, rfl, rfl, by rw [Lib.bytesWorld_size]; omega, fun k hk => Lib.bytesWorld_at_old w e s k hk⟩
theorem caseB_up2 {c : UInt8} (h1 : 97 ≤ c.toNat) (h2 : c.toNat ≤ 122) : (c.toNat : Int) - 97 + 65 = ((caseB true c).toNat : Int) := by
  unfold caseB
  rw [if_pos rfl, if_pos ⟨h1, h2⟩, UInt8.toNat_sub_of_le c 32 (by rw [UInt8.le_iff_toNat_le]; simp; omega)]
  simp
  omega
theorem caseB_down2 {c : UInt8} (h1 : 65 ≤ c.toNat) (h2 : c.toNat ≤ 90) : (c.toNat : Int) - 65 + 97 = ((caseB false c).toNat : Int) := by
  unfold caseB
  rw [if_neg (by simp), if_pos ⟨h1, h2⟩, UInt8.toNat_add]
  simp
  omega
set_option maxRecDepth 100000 in
set_option maxHeartbeats 2000000 in
theorem refCase_up (s : ByteArray) (hm : s.size ≤ 1000000000) (w : World) :
    Calls Tryd.prog 30 #[.string s, .bool true] w fun e w' => e = .returned (.string ⟨(s.data.toList.map (caseB true)).toArray⟩) ∧ Below w.heap.size w w' := by
  have hcv := Lib.run_convert_string_bytes (P := Tryd.prog) w 9 22 5 s Tryd.underlying9 Tryd.underlying22 Tryd.underlying5
  have hsz : s.data.toList.length = s.size := by simp
  go_enter Tryd.func30, Tryd.ntmps30
  go_wp2
  clear hcv
  have hr0 := BRow.made w 5 s
  have hb0 := below_bytes w 5 s
  obtain ⟨W, hW⟩ : ∃ W, Lib.bytesWorld w 5 s = W := ⟨_, rfl⟩
  rw [hW] at hr0 hb0 ⊢
  clear hW
  go_loopw [6] (fun i wr => ∃ k : Nat, i = .int .i64 k ∧ k ≤ s.size ∧ BRow wr 5 w.heap.size (((s.data.toList.take k).map (caseB true)) ++ s.data.toList.drop k) ∧ Below w.heap.size w wr) (fun i _ => s.size - (intOf i).toNat)
  case atStart => exact ⟨0, rfl, Nat.zero_le _, by simpa using hr0, hb0⟩
  case round =>
    obtain ⟨k, rfl, hk, hr, hb⟩ := hrel
    clear hr0 hb0
    by_cases hlt : k < s.size
    · have hl : k < s.data.toList.length := by omega
      obtain ⟨h', hg⟩ := mixed_get (caseB true) s.data.toList k hl
      have hc := hr.cell k h'
      have hf := hr.frozen k h'
      rw [hg] at hc
      obtain ⟨c, hcc⟩ : ∃ c, s.data.toList[k] = c := ⟨_, rfl⟩
      rw [hcc] at hc
      have Hr := Lib.hid hr
      have Hg := Lib.hid hg
      have Hcc := Lib.hid hcc
      clear hr hg hcc
      by_cases h1 : 97 ≤ c.toNat ∧ c.toNat ≤ 122
      · have hx := caseB_up h1.1 h1.2
        obtain ⟨h1, h2⟩ := h1
        go_wp2
        refine ⟨⟨k + 1, by go_num, by omega, ?_, hb.setCell (p := ⟨w.heap.size, k, none⟩) (Nat.le_refl _) _⟩, by simp [intOf]; omega⟩
        have h3 := Hr.out.stored k h' (caseB true c)
        rw [← Hcc.out, mixed_set (caseB true) s.data.toList k hl, Hcc.out] at h3
        exact h3
      · have HS := Lib.hid (caseB_same_up h1)
        have hrel2 : BRow wr 5 w.heap.size (((s.data.toList.take (k + 1)).map (caseB true)) ++ s.data.toList.drop (k + 1)) := by
          rw [← mixed_keep (caseB true) s.data.toList k hl (by rw [Hcc.out]; exact HS.out)]
          exact Hr.out
        have HR2 := Lib.hid hrel2
        clear hrel2
        by_cases h2 : 97 ≤ c.toNat
        · have h3 : 122 < c.toNat := by omega
          clear h1
          go_wp2
          exact ⟨⟨k + 1, by go_num, by omega, HR2.out, hb⟩, by simp [intOf]; omega⟩
        · clear h1
          go_wp2
          exact ⟨⟨k + 1, by go_num, by omega, HR2.out, hb⟩, by simp [intOf]; omega⟩
    · obtain rfl : k = s.size := by omega
      have hre : BRow wr 5 w.heap.size (s.data.toList.map (caseB true)) := by
        have h3 := hr
        rw [List.take_of_length_le (by omega), List.drop_of_length_le (by omega), List.append_nil] at h3
        exact h3
      have hsz2 : (⟨(s.data.toList.map (caseB true)).toArray⟩ : ByteArray).size = s.size := by rw [size_mk, List.length_map]; exact hsz
      have hback := Lib.run_convert_whole (P := Tryd.prog) wr 22 5 9 Tryd.underlying22 Tryd.underlying5 Tryd.underlying9 w.heap.size 0 _ hre.bytes (grownCap w s.size 0 5)
      rw [hsz2] at hback
      clear hr hre hsz2
      go_wp2
      go_ret
      exact ⟨rfl, hb⟩
set_option maxRecDepth 100000 in
set_option maxHeartbeats 2000000 in
theorem refCase_down (s : ByteArray) (hm : s.size ≤ 1000000000) (w : World) :
    Calls Tryd.prog 30 #[.string s, .bool false] w fun e w' => e = .returned (.string ⟨(s.data.toList.map (caseB false)).toArray⟩) ∧ Below w.heap.size w w' := by
  have hcv := Lib.run_convert_string_bytes (P := Tryd.prog) w 9 22 5 s Tryd.underlying9 Tryd.underlying22 Tryd.underlying5
  have hsz : s.data.toList.length = s.size := by simp
  go_enter Tryd.func30, Tryd.ntmps30
  go_wp2
  clear hcv
  have hr0 := BRow.made w 5 s
  have hb0 := below_bytes w 5 s
  obtain ⟨W, hW⟩ : ∃ W, Lib.bytesWorld w 5 s = W := ⟨_, rfl⟩
  rw [hW] at hr0 hb0 ⊢
  clear hW
  go_loopw [6] (fun i wr => ∃ k : Nat, i = .int .i64 k ∧ k ≤ s.size ∧ BRow wr 5 w.heap.size (((s.data.toList.take k).map (caseB false)) ++ s.data.toList.drop k) ∧ Below w.heap.size w wr) (fun i _ => s.size - (intOf i).toNat)
  case atStart => exact ⟨0, rfl, Nat.zero_le _, by simpa using hr0, hb0⟩
  case round =>
    obtain ⟨k, rfl, hk, hr, hb⟩ := hrel
    clear hr0 hb0
    by_cases hlt : k < s.size
    · have hl : k < s.data.toList.length := by omega
      obtain ⟨h', hg⟩ := mixed_get (caseB false) s.data.toList k hl
      have hc := hr.cell k h'
      have hf := hr.frozen k h'
      rw [hg] at hc
      obtain ⟨c, hcc⟩ : ∃ c, s.data.toList[k] = c := ⟨_, rfl⟩
      rw [hcc] at hc
      have Hr := Lib.hid hr
      have Hg := Lib.hid hg
      have Hcc := Lib.hid hcc
      clear hr hg hcc
      by_cases h1 : 65 ≤ c.toNat ∧ c.toNat ≤ 90
      · have hx := caseB_down h1.1 h1.2
        obtain ⟨h1, h2⟩ := h1
        go_wp2
        refine ⟨⟨k + 1, by go_num, by omega, ?_, hb.setCell (p := ⟨w.heap.size, k, none⟩) (Nat.le_refl _) _⟩, by simp [intOf]; omega⟩
        have h3 := Hr.out.stored k h' (caseB false c)
        rw [← Hcc.out, mixed_set (caseB false) s.data.toList k hl, Hcc.out] at h3
        exact h3
      · have HS := Lib.hid (caseB_same_down h1)
        have hrel2 : BRow wr 5 w.heap.size (((s.data.toList.take (k + 1)).map (caseB false)) ++ s.data.toList.drop (k + 1)) := by
          rw [← mixed_keep (caseB false) s.data.toList k hl (by rw [Hcc.out]; exact HS.out)]
          exact Hr.out
        have HR2 := Lib.hid hrel2
        clear hrel2
        by_cases h2 : 65 ≤ c.toNat
        · have h3 : 90 < c.toNat := by omega
          clear h1
          go_wp2
          exact ⟨⟨k + 1, by go_num, by omega, HR2.out, hb⟩, by simp [intOf]; omega⟩
        · clear h1
          go_wp2
          exact ⟨⟨k + 1, by go_num, by omega, HR2.out, hb⟩, by simp [intOf]; omega⟩
    · obtain rfl : k = s.size := by omega
      have hre : BRow wr 5 w.heap.size (s.data.toList.map (caseB false)) := by
        have h3 := hr
        rw [List.take_of_length_le (by omega), List.drop_of_length_le (by omega), List.append_nil] at h3
        exact h3
      have hsz2 : (⟨(s.data.toList.map (caseB false)).toArray⟩ : ByteArray).size = s.size := by rw [size_mk, List.length_map]; exact hsz
      have hback := Lib.run_convert_whole (P := Tryd.prog) wr 22 5 9 Tryd.underlying22 Tryd.underlying5 Tryd.underlying9 w.heap.size 0 _ hre.bytes (grownCap w s.size 0 5)
      rw [hsz2] at hback
      clear hr hre hsz2
      go_wp2
      go_ret
      exact ⟨rfl, hb⟩
set_option maxRecDepth 100000 in
set_option maxHeartbeats 2000000 in
theorem Case_up (s : ByteArray) (hm : s.size ≤ 1000000000) (w : World) :
    Calls Tryd.prog 29 #[.string s, .bool true] w fun e w' => e = .returned (.string ⟨(s.data.toList.map (caseB true)).toArray⟩) ∧ Below w.heap.size w w' := by
  have hcv := Lib.run_convert_string_bytes (P := Tryd.prog) w 9 22 5 s Tryd.underlying9 Tryd.underlying22 Tryd.underlying5
  have hsz : s.data.toList.length = s.size := by simp
  go_enter Tryd.func29, Tryd.ntmps29
  go_wp2
  clear hcv
  have hr0 := BRow.made w 5 s
  have hb0 := below_bytes w 5 s
  obtain ⟨W, hW⟩ : ∃ W, Lib.bytesWorld w 5 s = W := ⟨_, rfl⟩
  rw [hW] at hr0 hb0 ⊢
  clear hW
  go_loopw [8, 9, 17] (fun u8 u9 i wr => ∃ k : Nat, i = .int .i64 k ∧ k ≤ s.size ∧ BRow wr 5 w.heap.size (((s.data.toList.take k).map (caseB true)) ++ s.data.toList.drop k) ∧ Below w.heap.size w wr) (fun _ _ i _ => s.size - (intOf i).toNat)
  case atStart => exact ⟨0, rfl, Nat.zero_le _, by simpa using hr0, hb0⟩
  case round =>
    obtain ⟨k, rfl, hk, hr, hb⟩ := hrel
    clear hr0 hb0
    by_cases hlt : k < s.size
    · have hl : k < s.data.toList.length := by omega
      obtain ⟨h', hg⟩ := mixed_get (caseB true) s.data.toList k hl
      have hc := hr.cell k h'
      have hf := hr.frozen k h'
      rw [hg] at hc
      obtain ⟨c, hcc⟩ : ∃ c, s.data.toList[k] = c := ⟨_, rfl⟩
      rw [hcc] at hc
      have Hr := Lib.hid hr
      have Hg := Lib.hid hg
      have Hcc := Lib.hid hcc
      clear hr hg hcc
      by_cases h1 : 97 ≤ c.toNat ∧ c.toNat ≤ 122
      · have HX := Lib.hid (caseB_up2 h1.1 h1.2)
        obtain ⟨h1, h2⟩ := h1
        go_wp2
        refine ⟨⟨k + 1, by go_num, by omega, ?_, hb.setCell (p := ⟨w.heap.size, k, none⟩) (Nat.le_refl _) _⟩, by simp [intOf]; omega⟩
        have h3 := Hr.out.stored k h' (caseB true c)
        rw [← Hcc.out, mixed_set (caseB true) s.data.toList k hl, Hcc.out] at h3
        rw [← HX.out] at h3
        exact h3
      · have HS := Lib.hid (caseB_same_up h1)
        have hrel2 : BRow wr 5 w.heap.size (((s.data.toList.take (k + 1)).map (caseB true)) ++ s.data.toList.drop (k + 1)) := by
          rw [← mixed_keep (caseB true) s.data.toList k hl (by rw [Hcc.out]; exact HS.out)]
          exact Hr.out
        have HR2 := Lib.hid hrel2
        clear hrel2
        by_cases h2 : 97 ≤ c.toNat
        · have h3 : 122 < c.toNat := by omega
          clear h1
          go_wp2
          exact ⟨⟨k + 1, by go_num, by omega, HR2.out, hb⟩, by simp [intOf]; omega⟩
        · clear h1
          go_wp2
          exact ⟨⟨k + 1, by go_num, by omega, HR2.out, hb⟩, by simp [intOf]; omega⟩
    · obtain rfl : k = s.size := by omega
      have hre : BRow wr 5 w.heap.size (s.data.toList.map (caseB true)) := by
        have h3 := hr
        rw [List.take_of_length_le (by omega), List.drop_of_length_le (by omega), List.append_nil] at h3
        exact h3
      have hsz2 : (⟨(s.data.toList.map (caseB true)).toArray⟩ : ByteArray).size = s.size := by rw [size_mk, List.length_map]; exact hsz
      have hback := Lib.run_convert_whole (P := Tryd.prog) wr 22 5 9 Tryd.underlying22 Tryd.underlying5 Tryd.underlying9 w.heap.size 0 _ hre.bytes (grownCap w s.size 0 5)
      rw [hsz2] at hback
      clear hr hre hsz2
      go_wp2
      go_ret
      exact ⟨rfl, hb⟩
set_option maxRecDepth 100000 in
set_option maxHeartbeats 2000000 in
theorem Case_down (s : ByteArray) (hm : s.size ≤ 1000000000) (w : World) :
    Calls Tryd.prog 29 #[.string s, .bool false] w fun e w' => e = .returned (.string ⟨(s.data.toList.map (caseB false)).toArray⟩) ∧ Below w.heap.size w w' := by
  have hcv := Lib.run_convert_string_bytes (P := Tryd.prog) w 9 22 5 s Tryd.underlying9 Tryd.underlying22 Tryd.underlying5
  have hsz : s.data.toList.length = s.size := by simp
  go_enter Tryd.func29, Tryd.ntmps29
  go_wp2
  clear hcv
  have hr0 := BRow.made w 5 s
  have hb0 := below_bytes w 5 s
  obtain ⟨W, hW⟩ : ∃ W, Lib.bytesWorld w 5 s = W := ⟨_, rfl⟩
  rw [hW] at hr0 hb0 ⊢
  clear hW
  go_loopw [8, 9, 17] (fun u8 u9 i wr => ∃ k : Nat, i = .int .i64 k ∧ k ≤ s.size ∧ BRow wr 5 w.heap.size (((s.data.toList.take k).map (caseB false)) ++ s.data.toList.drop k) ∧ Below w.heap.size w wr) (fun _ _ i _ => s.size - (intOf i).toNat)
  case atStart => exact ⟨0, rfl, Nat.zero_le _, by simpa using hr0, hb0⟩
  case round =>
    obtain ⟨k, rfl, hk, hr, hb⟩ := hrel
    clear hr0 hb0
    by_cases hlt : k < s.size
    · have hl : k < s.data.toList.length := by omega
      obtain ⟨h', hg⟩ := mixed_get (caseB false) s.data.toList k hl
      have hc := hr.cell k h'
      have hf := hr.frozen k h'
      rw [hg] at hc
      obtain ⟨c, hcc⟩ : ∃ c, s.data.toList[k] = c := ⟨_, rfl⟩
      rw [hcc] at hc
      have Hr := Lib.hid hr
      have Hg := Lib.hid hg
      have Hcc := Lib.hid hcc
      clear hr hg hcc
      by_cases h1 : 65 ≤ c.toNat ∧ c.toNat ≤ 90
      · have HX := Lib.hid (caseB_down2 h1.1 h1.2)
        obtain ⟨h1, h2⟩ := h1
        go_wp2
        refine ⟨⟨k + 1, by go_num, by omega, ?_, hb.setCell (p := ⟨w.heap.size, k, none⟩) (Nat.le_refl _) _⟩, by simp [intOf]; omega⟩
        have h3 := Hr.out.stored k h' (caseB false c)
        rw [← Hcc.out, mixed_set (caseB false) s.data.toList k hl, Hcc.out] at h3
        rw [← HX.out] at h3
        exact h3
      · have HS := Lib.hid (caseB_same_down h1)
        have hrel2 : BRow wr 5 w.heap.size (((s.data.toList.take (k + 1)).map (caseB false)) ++ s.data.toList.drop (k + 1)) := by
          rw [← mixed_keep (caseB false) s.data.toList k hl (by rw [Hcc.out]; exact HS.out)]
          exact Hr.out
        have HR2 := Lib.hid hrel2
        clear hrel2
        by_cases h2 : 65 ≤ c.toNat
        · have h3 : 90 < c.toNat := by omega
          clear h1
          go_wp2
          exact ⟨⟨k + 1, by go_num, by omega, HR2.out, hb⟩, by simp [intOf]; omega⟩
        · clear h1
          go_wp2
          exact ⟨⟨k + 1, by go_num, by omega, HR2.out, hb⟩, by simp [intOf]; omega⟩
    · obtain rfl : k = s.size := by omega
      have hre : BRow wr 5 w.heap.size (s.data.toList.map (caseB false)) := by
        have h3 := hr
        rw [List.take_of_length_le (by omega), List.drop_of_length_le (by omega), List.append_nil] at h3
        exact h3
      have hsz2 : (⟨(s.data.toList.map (caseB false)).toArray⟩ : ByteArray).size = s.size := by rw [size_mk, List.length_map]; exact hsz
      have hback := Lib.run_convert_whole (P := Tryd.prog) wr 22 5 9 Tryd.underlying22 Tryd.underlying5 Tryd.underlying9 w.heap.size 0 _ hre.bytes (grownCap w s.size 0 5)
      rw [hsz2] at hback
      clear hr hre hsz2
      go_wp2
      go_ret
      exact ⟨rfl, hb⟩
end Go.Proofs.YtohjcimkpcpgbaaDoor

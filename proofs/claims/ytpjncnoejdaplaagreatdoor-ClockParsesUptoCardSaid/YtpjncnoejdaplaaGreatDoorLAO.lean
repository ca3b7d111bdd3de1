/- The map of all writers. -/
import Derived.Test.YtpjncnoejdaplaaGreatDoorLAN
import Derived.Test.YtpjncnoejdaplaaGreatDoorLAL
import Derived.Deep.RegionWith
import Derived.Deep.RegionHeld3
import Derived.Deep.RegionLaw
namespace Go.Proofs.YtpjncnoejdaplaaGreatDoor
open Go Go.RowKit Go.Shelf

/-- What is put in first. -/
def baseG : Nat → Option WS := updG (updG (updG (updG (updG (updG (updG (updG (updG (updG (updG (updG (fun _ => none) 97 (.plain (.dayS))) 65 (.plain (.dayL))) 98 (.plain (.monS))) 104 (.plain (.monS))) 66 (.plain (.monL))) 112 (.plain (.halfU))) 80 (.plain (.halfL))) 110 (.plain (.text ⟨#[10]⟩))) 116 (.plain (.text ⟨#[9]⟩))) 37 (.plain (.text ⟨#[37]⟩))) 122 (.plain (.text ⟨#[43, 48, 48, 48, 48]⟩))) 90 (.plain (.text ⟨#[85, 84, 67]⟩))
theorem all_spec (c : Nat) : formsG (numG baseG) 6 c = specW c := by
  by_cases h97 : c = 97
  · subst h97
    rfl
  by_cases h65 : c = 65
  · subst h65
    rfl
  by_cases h98 : c = 98
  · subst h98
    rfl
  by_cases h104 : c = 104
  · subst h104
    rfl
  by_cases h66 : c = 66
  · subst h66
    rfl
  by_cases h112 : c = 112
  · subst h112
    rfl
  by_cases h80 : c = 80
  · subst h80
    rfl
  by_cases h110 : c = 110
  · subst h110
    rfl
  by_cases h116 : c = 116
  · subst h116
    rfl
  by_cases h37 : c = 37
  · subst h37
    rfl
  by_cases h122 : c = 122
  · subst h122
    rfl
  by_cases h90 : c = 90
  · subst h90
    rfl
  by_cases h89 : c = 89
  · subst h89
    rfl
  by_cases h67 : c = 67
  · subst h67
    rfl
  by_cases h121 : c = 121
  · subst h121
    rfl
  by_cases h109 : c = 109
  · subst h109
    rfl
  by_cases h100 : c = 100
  · subst h100
    rfl
  by_cases h101 : c = 101
  · subst h101
    rfl
  by_cases h72 : c = 72
  · subst h72
    rfl
  by_cases h107 : c = 107
  · subst h107
    rfl
  by_cases h73 : c = 73
  · subst h73
    rfl
  by_cases h108 : c = 108
  · subst h108
    rfl
  by_cases h77 : c = 77
  · subst h77
    rfl
  by_cases h83 : c = 83
  · subst h83
    rfl
  by_cases h106 : c = 106
  · subst h106
    rfl
  by_cases h117 : c = 117
  · subst h117
    rfl
  by_cases h119 : c = 119
  · subst h119
    rfl
  by_cases h85 : c = 85
  · subst h85
    rfl
  by_cases h87 : c = 87
  · subst h87
    rfl
  by_cases h86 : c = 86
  · subst h86
    rfl
  by_cases h71 : c = 71
  · subst h71
    rfl
  by_cases h103 : c = 103
  · subst h103
    rfl
  by_cases h115 : c = 115
  · subst h115
    rfl
  by_cases h68 : c = 68
  · subst h68
    rfl
  by_cases h120 : c = 120
  · subst h120
    rfl
  by_cases h70 : c = 70
  · subst h70
    rfl
  by_cases h82 : c = 82
  · subst h82
    rfl
  by_cases h84 : c = 84
  · subst h84
    rfl
  by_cases h88 : c = 88
  · subst h88
    rfl
  by_cases h114 : c = 114
  · subst h114
    rfl
  by_cases h99 : c = 99
  · subst h99
    rfl
  have e1 : formOf c = none := by simp [formOf, h68, h120, h70, h82, h84, h88, h114, h99]
  have e2 : plainW c = none := by simp [plainW, h97, h65, h98, h104, h66, h112, h80, h110, h116, h37, h122, h90, h89, h67, h121, h109, h100, h101, h72, h107, h73, h108, h77, h83, h106, h117, h119, h85, h87, h86, h71, h103, h115]
  have e3 : formsG (numG baseG) 6 c = none := by
    show updG (updG (updG (updG (updG (updG (updG (updG (numG baseG) 68 _) 120 _) 70 _) 82 _) 84 _) 88 _) 114 _) 99 _ c = none
    simp [updG, numG, baseG, h97, h65, h98, h104, h66, h112, h80, h110, h116, h37, h122, h90, h89, h67, h121, h109, h100, h101, h72, h107, h73, h108, h77, h83, h106, h117, h119, h85, h87, h86, h71, h103, h115, h68, h120, h70, h82, h84, h88, h114, h99]
  rw [e3]
  simp [specW, e1, e2]
theorem run_mm (w : World) : (Instr.makeMap 64 none).run Tryz.prog w = .ok (.map (some w.heap.size)) (w.alloc (.map #[] 0)) := by
  simp [Instr.makeMap, Result.andThen]
theorem names_new {w : World} {mb g b : Nat} {l : List ByteArray} (h1 : w.heap[b]? = some (.cells #[.slice (some ⟨g, 0, none⟩) l.length l.length] 41 (0, 0))) (h2 : w.heap[g]? = some (.cells (l.map Value.string).toArray 9 (0, 0))) (hb : b ≠ mb) (hg : g ≠ mb) : NamesAt w mb b l := ⟨g, ⟨hb, h1⟩, hg, h2⟩
theorem NamesAt.below {w w' : World} {mb b : Nat} {l : List ByteArray} (h : NamesAt w mb b l) (hb : Below w.heap.size w w') : NamesAt w' mb b l := h.stay fun k hk _ => hb.block k hk
theorem NamesAt.grown {w w' : World} {mb b : Nat} {l : List ByteArray} (h : NamesAt w mb b l) (hg : w.grownBy w' (some mb)) : NamesAt w' mb b l := h.stay fun k hk hne => hg.block k hk fun e => hne (Option.some.inj e)
theorem four_new (w : World) (o1 o2 o3 o4 : Obj) : ((((w.alloc o1).alloc o2).alloc o3).alloc o4).heap[w.heap.size]? = some o1 ∧ ((((w.alloc o1).alloc o2).alloc o3).alloc o4).heap[w.heap.size + 1]? = some o2 ∧ ((((w.alloc o1).alloc o2).alloc o3).alloc o4).heap[w.heap.size + 1 + 1]? = some o3 ∧ ((((w.alloc o1).alloc o2).alloc o3).alloc o4).heap[w.heap.size + 1 + 1 + 1]? = some o4 ∧ ((((w.alloc o1).alloc o2).alloc o3).alloc o4).heap.size = w.heap.size + 1 + 1 + 1 + 1 ∧ Below w.heap.size w ((((w.alloc o1).alloc o2).alloc o3).alloc o4) := by
  obtain ⟨h1, h2, h3, h4, h5⟩ := three_new w o1 o2 o3
  have h6 := heap_alloc_new (((w.alloc o1).alloc o2).alloc o3) o4
  rw [h4] at h6
  exact ⟨row_alloc3 h1 o4, row_alloc3 h2 o4, row_alloc3 h3 o4, h6, by rw [World.size_alloc, h4], h5.alloc h5.size o4⟩
set_option maxRecDepth 100000 in
set_option maxHeartbeats 4000000 in
theorem writers_any (w : World) : Calls Tryz.prog 25 #[] w fun e w' => (∃ mb, e = .returned (.map (some mb)) ∧ SpG WrAt w' mb 53 specW) ∧ Below w.heap.size w w' := by
  have h := hmf
  have hmax : Hid (100 < maxLen) := Lib.hid (by unfold maxLen; omega)
  go_enter Tryz.func25, Tryz.ntmps25
  go_wp2_with fail
  refine (weekdays_any _).mono ?_
  rintro e w1 ⟨rfl, hw1⟩
  subst hw1
  go_wp2_with fail
  refine (months_any _).mono ?_
  rintro e w1 ⟨rfl, hw1⟩
  subst hw1
  go_wp2_with fail
  obtain ⟨r1, r2, r3, r4, rz, rb⟩ := four_new w (.cells (dayNames.map Value.string).toArray 9) (.cells (monthNames.map Value.string).toArray 9) (.cells #[.slice (some ⟨w.heap.size, 0, none⟩) 7 7] 41) (.cells #[.slice (some ⟨w.heap.size + 1, 0, none⟩) 12 12] 41)
  have hD := names_new (mb := w.heap.size + 1 + 1 + 1 + 1) (l := dayNames) r3 r1 (by omega) (by omega)
  have hN := names_new (mb := w.heap.size + 1 + 1 + 1 + 1) (l := monthNames) r4 r2 (by omega) (by omega)
  rw [← rz] at hD hN
  generalize (((w.alloc (.cells (dayNames.map Value.string).toArray 9)).alloc (.cells (monthNames.map Value.string).toArray 9)).alloc (.cells #[.slice (some ⟨w.heap.size, 0, none⟩) 7 7] 41)).alloc (.cells #[.slice (some ⟨w.heap.size + 1, 0, none⟩) 12 12] 41) = W4 at hD hN rz rb ⊢
  rw [run_mm]
  have hS := SpG.made (At := WrAt) W4
  have hb0 := (Below.refl W4.heap.size W4).alloc (Nat.le_refl _) (.map #[] 0)
  have HS0 := Lib.hid hS
  have HD0 := Lib.hid (hD.below hb0)
  have HN0 := Lib.hid (hN.below hb0)
  have HB0 := Lib.hid (rb.alloc rb.size (.map #[] 0))
  obtain ⟨mb, hmb⟩ : ∃ mb, W4.heap.size = mb := ⟨_, rfl⟩
  have HM := Lib.hid (show w.heap.size ≤ mb from by rw [← hmb]; exact rb.size)
  rw [hmb] at HS0 HD0 HN0 ⊢
  generalize W4.alloc (.map #[] 0) = X0 at HS0 HD0 HN0 HB0 ⊢
  clear hS hb0 hD hN rz rb r1 r2 r3 r4 hmb
  go_wp2_with (refine wpList_insert_S wr_stays rfl _ _ _ 64 108 (.inl rfl) Tryz.underlying64 mb 0 _ rfl HS0.out (by have := hmax.out; omega) 97 (by omega) rfl _ rfl (.plain (.dayS)) rfl (by exact ⟨_, rfl, HD0.out⟩) ?_)
  intro w2 hs2 hg2
  have HS1 := Lib.hid hs2
  have HB1 := Lib.hid (HB0.out.trans (below_of_grown hg2 HM.out HB0.out.size))
  have HD1 := Lib.hid (HD0.out.grown hg2)
  have HN1 := Lib.hid (HN0.out.grown hg2)
  clear HD0 HN0
  clear hs2 hg2 HS0 HB0
  go_wp2_with (refine wpList_insert_S wr_stays rfl _ _ _ 64 108 (.inl rfl) Tryz.underlying64 mb 1 _ rfl HS1.out (by have := hmax.out; omega) 65 (by omega) rfl _ rfl (.plain (.dayL)) rfl (by exact ⟨_, rfl, HD1.out⟩) ?_)
  intro w2 hs2 hg2
  have HS2 := Lib.hid hs2
  have HB2 := Lib.hid (HB1.out.trans (below_of_grown hg2 HM.out HB1.out.size))
  have HD2 := Lib.hid (HD1.out.grown hg2)
  have HN2 := Lib.hid (HN1.out.grown hg2)
  clear HD1 HN1
  clear hs2 hg2 HS1 HB1
  go_wp2_with (refine wpList_insert_S wr_stays rfl _ _ _ 64 108 (.inl rfl) Tryz.underlying64 mb 2 _ rfl HS2.out (by have := hmax.out; omega) 98 (by omega) rfl _ rfl (.plain (.monS)) rfl (by exact ⟨_, .inl rfl, HN2.out⟩) ?_)
  intro w2 hs2 hg2
  have HS3 := Lib.hid hs2
  have HB3 := Lib.hid (HB2.out.trans (below_of_grown hg2 HM.out HB2.out.size))
  have HD3 := Lib.hid (HD2.out.grown hg2)
  have HN3 := Lib.hid (HN2.out.grown hg2)
  clear HD2 HN2
  clear hs2 hg2 HS2 HB2
  go_wp2_with (refine wpList_insert_S wr_stays rfl _ _ _ 64 108 (.inl rfl) Tryz.underlying64 mb 3 _ rfl HS3.out (by have := hmax.out; omega) 104 (by omega) rfl _ rfl (.plain (.monS)) rfl (by exact ⟨_, .inr rfl, HN3.out⟩) ?_)
  intro w2 hs2 hg2
  have HS4 := Lib.hid hs2
  have HB4 := Lib.hid (HB3.out.trans (below_of_grown hg2 HM.out HB3.out.size))
  have HD4 := Lib.hid (HD3.out.grown hg2)
  have HN4 := Lib.hid (HN3.out.grown hg2)
  clear HD3 HN3
  clear hs2 hg2 HS3 HB3
  go_wp2_with (refine wpList_insert_S wr_stays rfl _ _ _ 64 108 (.inl rfl) Tryz.underlying64 mb 4 _ rfl HS4.out (by have := hmax.out; omega) 66 (by omega) rfl _ rfl (.plain (.monL)) rfl (by exact ⟨_, rfl, HN4.out⟩) ?_)
  intro w2 hs2 hg2
  have HS5 := Lib.hid hs2
  have HB5 := Lib.hid (HB4.out.trans (below_of_grown hg2 HM.out HB4.out.size))
  have HD5 := Lib.hid (HD4.out.grown hg2)
  have HN5 := Lib.hid (HN4.out.grown hg2)
  clear HD4 HN4
  clear hs2 hg2 HS4 HB4
  go_wp2_with (refine wpList_insert_S wr_stays rfl _ _ _ 64 108 (.inl rfl) Tryz.underlying64 mb 5 _ rfl HS5.out (by have := hmax.out; omega) 112 (by omega) rfl _ rfl (.plain (.halfU)) rfl (by exact rfl) ?_)
  intro w2 hs2 hg2
  have HS6 := Lib.hid hs2
  have HB6 := Lib.hid (HB5.out.trans (below_of_grown hg2 HM.out HB5.out.size))
  clear hs2 hg2 HS5 HB5
  go_wp2_with (refine wpList_insert_S wr_stays rfl _ _ _ 64 108 (.inl rfl) Tryz.underlying64 mb 6 _ rfl HS6.out (by have := hmax.out; omega) 80 (by omega) rfl _ rfl (.plain (.halfL)) rfl (by exact rfl) ?_)
  intro w2 hs2 hg2
  have HS7 := Lib.hid hs2
  have HB7 := Lib.hid (HB6.out.trans (below_of_grown hg2 HM.out HB6.out.size))
  clear hs2 hg2 HS6 HB6
  go_wp2_with fail
  refine (always_any ⟨#[10]⟩ mb _ HS7.out.lt).mono ?_
  rintro e w1 ⟨⟨v, rfl, hv, ha⟩, hb⟩
  have HT := Lib.hid (HS7.out.below wr_stays hb)
  have HA := Lib.hid ha
  have HV := Lib.hid hv
  have HU := Lib.hid (HB7.out.trans (hb.mono HB7.out.size))
  clear ha hv hb
  go_wp2_with (refine wpList_insert_S wr_stays rfl _ _ _ 64 108 (.inl rfl) Tryz.underlying64 mb 7 _ rfl HT.out (by have := hmax.out; omega) 110 (by omega) rfl _ rfl (.plain (.text ⟨#[10]⟩)) HV.out HA.out ?_)
  intro w2 hs2 hg2
  have HS8 := Lib.hid hs2
  have HB8 := Lib.hid (HU.out.trans (below_of_grown hg2 HM.out HU.out.size))
  clear hs2 hg2 HT HA HV HU HS7 HB7
  go_wp2_with fail
  refine (always_any ⟨#[9]⟩ mb _ HS8.out.lt).mono ?_
  rintro e w1 ⟨⟨v, rfl, hv, ha⟩, hb⟩
  have HT := Lib.hid (HS8.out.below wr_stays hb)
  have HA := Lib.hid ha
  have HV := Lib.hid hv
  have HU := Lib.hid (HB8.out.trans (hb.mono HB8.out.size))
  clear ha hv hb
  go_wp2_with (refine wpList_insert_S wr_stays rfl _ _ _ 64 108 (.inl rfl) Tryz.underlying64 mb 8 _ rfl HT.out (by have := hmax.out; omega) 116 (by omega) rfl _ rfl (.plain (.text ⟨#[9]⟩)) HV.out HA.out ?_)
  intro w2 hs2 hg2
  have HS9 := Lib.hid hs2
  have HB9 := Lib.hid (HU.out.trans (below_of_grown hg2 HM.out HU.out.size))
  clear hs2 hg2 HT HA HV HU HS8 HB8
  go_wp2_with fail
  refine (always_any ⟨#[37]⟩ mb _ HS9.out.lt).mono ?_
  rintro e w1 ⟨⟨v, rfl, hv, ha⟩, hb⟩
  have HT := Lib.hid (HS9.out.below wr_stays hb)
  have HA := Lib.hid ha
  have HV := Lib.hid hv
  have HU := Lib.hid (HB9.out.trans (hb.mono HB9.out.size))
  clear ha hv hb
  go_wp2_with (refine wpList_insert_S wr_stays rfl _ _ _ 64 108 (.inl rfl) Tryz.underlying64 mb 9 _ rfl HT.out (by have := hmax.out; omega) 37 (by omega) rfl _ rfl (.plain (.text ⟨#[37]⟩)) HV.out HA.out ?_)
  intro w2 hs2 hg2
  have HS10 := Lib.hid hs2
  have HB10 := Lib.hid (HU.out.trans (below_of_grown hg2 HM.out HU.out.size))
  clear hs2 hg2 HT HA HV HU HS9 HB9
  go_wp2_with fail
  refine (always_any ⟨#[43, 48, 48, 48, 48]⟩ mb _ HS10.out.lt).mono ?_
  rintro e w1 ⟨⟨v, rfl, hv, ha⟩, hb⟩
  have HT := Lib.hid (HS10.out.below wr_stays hb)
  have HA := Lib.hid ha
  have HV := Lib.hid hv
  have HU := Lib.hid (HB10.out.trans (hb.mono HB10.out.size))
  clear ha hv hb
  go_wp2_with (refine wpList_insert_S wr_stays rfl _ _ _ 64 108 (.inl rfl) Tryz.underlying64 mb 10 _ rfl HT.out (by have := hmax.out; omega) 122 (by omega) rfl _ rfl (.plain (.text ⟨#[43, 48, 48, 48, 48]⟩)) HV.out HA.out ?_)
  intro w2 hs2 hg2
  have HS11 := Lib.hid hs2
  have HB11 := Lib.hid (HU.out.trans (below_of_grown hg2 HM.out HU.out.size))
  clear hs2 hg2 HT HA HV HU HS10 HB10
  go_wp2_with fail
  refine (always_any ⟨#[85, 84, 67]⟩ mb _ HS11.out.lt).mono ?_
  rintro e w1 ⟨⟨v, rfl, hv, ha⟩, hb⟩
  have HT := Lib.hid (HS11.out.below wr_stays hb)
  have HA := Lib.hid ha
  have HV := Lib.hid hv
  have HU := Lib.hid (HB11.out.trans (hb.mono HB11.out.size))
  clear ha hv hb
  go_wp2_with (refine wpList_insert_S wr_stays rfl _ _ _ 64 108 (.inl rfl) Tryz.underlying64 mb 11 _ rfl HT.out (by have := hmax.out; omega) 90 (by omega) rfl _ rfl (.plain (.text ⟨#[85, 84, 67]⟩)) HV.out HA.out ?_)
  intro w2 hs2 hg2
  have HS12 := Lib.hid hs2
  have HB12 := Lib.hid (HU.out.trans (below_of_grown hg2 HM.out HU.out.size))
  clear hs2 hg2 HT HA HV HU HS11 HB11
  go_wp2_with fail
  have hb0 := (Below.refl w2.heap.size w2).alloc (Nat.le_refl _) (.cells #[.map (some mb)] 64)
  have hs3 := HS12.out.below wr_stays hb0
  have hb3 : BoxAt (w2.alloc (.cells #[.map (some mb)] 64)) mb w2.heap.size (.map (some mb)) 64 := ⟨by have := HS12.out.lt; omega, heap_alloc_new w2 _⟩
  have hu3 := HB12.out.alloc HB12.out.size (.cells #[.map (some mb)] 64)
  obtain ⟨b3, hb3e⟩ : ∃ b3, w2.heap.size = b3 := ⟨_, rfl⟩
  rw [hb3e] at hb3 ⊢
  generalize w2.alloc (.cells #[.map (some mb)] 64) = X3 at hs3 hb3 hu3 ⊢
  have HS := Lib.hid hs3
  have HX := Lib.hid hb3
  have HU := Lib.hid hu3
  clear hb0 hs3 hb3 hu3 hb3e HS12 HB12
  refine (addNumbers_any mb 12 (by omega) _ _ HS.out).mono ?_
  rintro e w4 ⟨rfl, hs4, hg4⟩
  have HS4 := Lib.hid hs4
  have HX4 := Lib.hid (HX.out.stay fun k hk hne => hg4.block k hk fun e => hne (Option.some.inj e))
  have HU4 := Lib.hid (HU.out.trans (below_of_grown hg4 HM.out HU.out.size))
  clear hs4 hg4 HS HX HU
  have hc4 := box_cell HX4.out
  go_wp2_with fail
  refine (addFormsW_any mb 33 b3 (by omega) _ _ HS4.out HX4.out).mono ?_
  rintro e w5 ⟨rfl, hs5, hg5⟩
  have HS5 := Lib.hid hs5
  have HX5 := Lib.hid (HX4.out.stay fun k hk hne => hg5.block k hk fun e => hne (Option.some.inj e))
  have HU5 := Lib.hid (HU4.out.trans (below_of_grown hg5 HM.out HU4.out.size))
  clear hs5 hg5 HS4 HX4 HU4 hc4
  have hc5 := box_cell HX5.out
  go_wp2_with fail
  go_ret
  exact ⟨⟨mb, rfl, by rw [← funext all_spec]; exact HS5.out⟩, HU5.out⟩
end Go.Proofs.YtpjncnoejdaplaaGreatDoor
namespace Go.Proofs.YtpjncnoejdaplaaGreatDoor
open Go Go.RowKit Go.Shelf

/-- A variable of its own, at B or behind it. -/
def BoxB (B : Nat) (w : World) (mb b : Nat) (x : Value) (t : TypeId) : Prop := B ≤ b ∧ BoxAt w mb b x t
def NamesB (B : Nat) (w : World) (mb b : Nat) (l : List ByteArray) : Prop := B ≤ b ∧ ∃ g, B ≤ g ∧ BoxAt w mb b (.slice (some ⟨g, 0, none⟩) l.length l.length) 41 ∧ RowAt w mb g l
/-- A reader: its code, and what it has captured. -/
def RrAt (B : Nat) (w : World) (mb : Nat) (v : Value) : RS → Prop
  | .plain (.num d a b p) => ∃ b1 b2 b3 b4, v = .func (.func 162) #[] #[.pointer (some ⟨b1, 0, none⟩), .pointer (some ⟨b2, 0, none⟩), .pointer (some ⟨b3, 0, none⟩), .pointer (some ⟨b4, 0, none⟩)] ∧ BoxB B w mb b1 (.int .i64 d) 3 ∧ BoxB B w mb b2 (.int .i64 a) 3 ∧ BoxB B w mb b3 (.int .i64 b) 3 ∧ BoxB B w mb b4 (.int .i64 p) 165
  | .plain (.many l) => ∃ b1, v = .func (.func 166) #[] #[.pointer (some ⟨b1, 0, none⟩)] ∧ BoxB B w mb b1 (.func (.func (if l = true then 139 else 82)) #[] #[]) 134
  | .plain .percent => v = .func (.func 138) #[] #[]
  | .plain .zone => v = .func (.func 140) #[] #[]
  | .plain .secs => v = .func (.func 136) #[] #[]
  | .plain (.name ns k p) => ∃ b1 b2 b3, v = .func (.func 184) #[] #[.pointer (some ⟨b1, 0, none⟩), .pointer (some ⟨b2, 0, none⟩), .pointer (some ⟨b3, 0, none⟩)] ∧ NamesB B w mb b1 ns ∧ BoxB B w mb b2 (.int .i64 k) 3 ∧ BoxB B w mb b3 (.int .i64 p) 165
  | .form f => ∃ b1 b2, v = .func (.func 144) #[] #[.pointer (some ⟨b1, 0, none⟩), .pointer (some ⟨b2, 0, none⟩)] ∧ BoxB B w mb b1 (.string f) 9 ∧ BoxB B w mb b2 (.map (some mb)) 131
theorem BoxB.stay {B : Nat} {w w' : World} {mb b : Nat} {x : Value} {t : TypeId} (h : BoxB B w mb b x t) (hk : ∀ k, k < w.heap.size → k ≠ mb → w'.heap[k]? = w.heap[k]?) : BoxB B w' mb b x t := ⟨h.1, h.2.stay hk⟩
theorem NamesB.stay {B : Nat} {w w' : World} {mb b : Nat} {l : List ByteArray} (h : NamesB B w mb b l) (hk : ∀ k, k < w.heap.size → k ≠ mb → w'.heap[k]? = w.heap[k]?) : NamesB B w' mb b l := by
  obtain ⟨h0, g, h1, h2, h3, h4⟩ := h
  exact ⟨h0, g, h1, h2.stay hk, h3, (hk g (Array.getElem?_eq_some_iff.1 h4).1 h3).trans h4⟩
theorem rr_stays (B : Nat) : Stays (RrAt B) := by
  intro w w' mb v s h hk
  match s, h with
  | .plain (.num d a b p), ⟨b1, b2, b3, b4, e, h1, h2, h3, h4⟩ => exact ⟨b1, b2, b3, b4, e, h1.stay hk, h2.stay hk, h3.stay hk, h4.stay hk⟩
  | .plain (.many l), ⟨b1, e, h1⟩ => exact ⟨b1, e, h1.stay hk⟩
  | .plain .percent, h => exact h
  | .plain .zone, h => exact h
  | .plain .secs, h => exact h
  | .plain (.name ns k p), ⟨b1, b2, b3, e, h1, h2, h3⟩ => exact ⟨b1, b2, b3, e, h1.stay hk, h2.stay hk, h3.stay hk⟩
  | .form f, ⟨b1, b2, e, h1, h2⟩ => exact ⟨b1, b2, e, h1.stay hk, h2.stay hk⟩
theorem readNumber_any (d : Nat) (a b : Int) (p : Nat) (B mb : Nat) (w : World) (hB : B ≤ w.heap.size) (hm : mb < w.heap.size) : Calls Tryz.prog 135 #[.int .i64 d, .int .i64 a, .int .i64 b, .int .i64 p] w fun e w' => (∃ v, e = .returned v ∧ isFn v = true ∧ RrAt B w' mb v (.plain (.num d a b p))) ∧ Below w.heap.size w w' := by
  have HM := Lib.hid hm
  have HB := Lib.hid hB
  have h := hmf
  clear hm hB
  go_enter Tryz.func135, Tryz.ntmps135
  go_wp2_with fail
  go_ret
  have h1 := HM.out
  have h2 := HB.out
  obtain ⟨r1, r2, r3, r4, _, rb⟩ := four_new w (.cells #[.int .i64 d] 3) (.cells #[.int .i64 a] 3) (.cells #[.int .i64 b] 3) (.cells #[.int .i64 p] 165)
  exact ⟨⟨_, rfl, rfl, _, _, _, _, rfl, ⟨h2, by omega, r1⟩, ⟨by omega, by omega, r2⟩, ⟨by omega, by omega, r3⟩, ⟨by omega, by omega, r4⟩⟩, rb⟩
theorem readMany_any (l : Bool) (B mb : Nat) (w : World) (hB : B ≤ w.heap.size) (hm : mb < w.heap.size) : Calls Tryz.prog 137 #[.func (.func (if l = true then 139 else 82)) #[] #[]] w fun e w' => (∃ v, e = .returned v ∧ isFn v = true ∧ RrAt B w' mb v (.plain (.many l))) ∧ Below w.heap.size w w' := by
  have HM := Lib.hid hm
  have HB := Lib.hid hB
  have h := hmf
  obtain ⟨k, hk⟩ : ∃ k : Nat, (if l = true then 139 else 82) = k := ⟨_, rfl⟩
  have HK := Lib.hid hk
  rw [hk]
  clear hm hB hk
  go_enter Tryz.func137, Tryz.ntmps137
  go_wp2_with fail
  go_ret
  exact ⟨⟨_, rfl, rfl, w.heap.size, rfl, HB.out, by have := HM.out; omega, by rw [HK.out]; exact heap_alloc_new w _⟩, (Below.refl _ _).alloc (Nat.le_refl _) _⟩
theorem readName_any (ns : List ByteArray) (k p g : Nat) (B mb : Nat) (w : World) (hB : B ≤ w.heap.size) (hm : mb < w.heap.size) (hg : B ≤ g) (hr : RowAt w mb g ns) : Calls Tryz.prog 167 #[.slice (some ⟨g, 0, none⟩) ns.length ns.length, .int .i64 k, .int .i64 p] w fun e w' => (∃ v, e = .returned v ∧ isFn v = true ∧ RrAt B w' mb v (.plain (.name ns k p))) ∧ Below w.heap.size w w' := by
  have HM := Lib.hid hm
  have HB := Lib.hid hB
  have HR := Lib.hid hr
  have h := hmf
  clear hm hB hr
  go_enter Tryz.func167, Tryz.ntmps167
  go_wp2_with fail
  go_ret
  have h1 := HM.out
  have h2 := HB.out
  obtain ⟨r1, r2, r3, _, rb⟩ := three_new w (.cells #[.slice (some ⟨g, 0, none⟩) ns.length ns.length] 41) (.cells #[.int .i64 k] 3) (.cells #[.int .i64 p] 165)
  exact ⟨⟨_, rfl, rfl, _, _, _, rfl, ⟨h2, g, hg, ⟨by omega, r1⟩, HR.out.1, (rb.block g (Array.getElem?_eq_some_iff.1 HR.out.2).1).trans HR.out.2⟩, ⟨by omega, by omega, r2⟩, ⟨by omega, by omega, r3⟩⟩, rb⟩
end Go.Proofs.YtpjncnoejdaplaaGreatDoor
namespace Go.Proofs.YtpjncnoejdaplaaGreatDoor
open Go Go.RowKit Go.Shelf

theorem formedR_any (B : Nat) (f : ByteArray) (mb b : Nat) (w : World) (hm : mb < w.heap.size) (hZ : B ≤ w.heap.size) (hB : BoxB B w mb b (.map (some mb)) 131) : Calls Tryz.prog 143 #[.string f, .pointer (some ⟨b, 0, none⟩)] w fun e w' => (∃ v, e = .returned v ∧ isFn v = true ∧ RrAt B w' mb v (.form f)) ∧ Below w.heap.size w w' := by
  have HM := Lib.hid hm
  have HB := Lib.hid hB
  have HZ := Lib.hid hZ
  have h := hmf
  clear hm hB hZ
  go_enter Tryz.func143, Tryz.ntmps143
  go_wp2_with fail
  go_ret
  exact ⟨⟨_, rfl, rfl, w.heap.size, b, rfl, ⟨HZ.out, by have := HM.out; omega, heap_alloc_new w _⟩, HB.out.stay fun k hk _ => ((Below.refl w.heap.size w).alloc (Nat.le_refl _) _).block k hk⟩, (Below.refl _ _).alloc (Nat.le_refl _) _⟩
def signGR (g : Nat → Option RS) (s : ByteArray) (f : ByteArray) : Nat → Nat → Option RS
  | 0 => g
  | i + 1 => updG (signGR g s f i) (s.data.toList.getD i 0).toNat (.form f)
def formsGR (g : Nat → Option RS) : Nat → Nat → Option RS
  | 0 => g
  | j + 1 => signGR (formsGR g j) (formAt j).1 (formAt j).2 (formAt j).1.size
theorem sign_nextR {B : Nat} {w : World} {mb k i : Nat} {g : Nat → Option RS} {s f : ByteArray} {hi : i < s.size} (h : SpG (RrAt B) w mb (k + 1) (updG (signGR g s f i) (s[i]).toNat (.form f))) : SpG (RrAt B) w mb (k + 1) (signGR g s f (i + 1)) := by
  have e : (s.data.toList.getD i 0) = s[i] := by
    rw [List.getD_eq_getElem?_getD, List.getElem?_eq_getElem (by simpa using hi)]
    rfl
  rw [signGR, e]
  exact h
set_option maxRecDepth 100000 in
set_option maxHeartbeats 4000000 in
theorem addFormsR_any (B mb n b : Nat) (hn : n ≤ 1000) (g : Nat → Option RS) (w : World) (hS : SpG (RrAt B) w mb n g) (hZ : B ≤ w.heap.size) (hB : BoxB B w mb b (.map (some mb)) 131) :
    Calls Tryz.prog 142 #[.map (some mb), .func (.func 143) #[] #[.pointer (some ⟨b, 0, none⟩)]] w fun e w' => e = .returned (.tuple #[]) ∧ SpG (RrAt B) w' mb (n + 20) (formsGR g 6) ∧ w.grownBy w' (some mb) := by
  have HS := Lib.hid hS
  have HB := Lib.hid hB
  have hmax : Hid (n + 30 < maxLen) := Lib.hid (by unfold maxLen; omega)
  have HZ := Lib.hid hZ
  clear hS hB hZ
  go_enter Tryz.func142, Tryz.ntmps142
  go_wp2_with fail
  go_loopw [15] (fun i wr => ∃ j : Nat, j ≤ 6 ∧ i = .int .i64 j ∧ Hid (SpG (RrAt B) wr mb (n + 2 * j) (formsGR g j)) ∧ Hid (w.grownBy wr (some mb)) ∧ Hid (wr.heap[w.heap.size]? = some (.cells formCells 155 (0, 0)))) (fun i _ => 6 - (intOf i).toNat)
  case atStart =>
    refine ⟨0, by omega, rfl, Lib.hid (HS.out.below (rr_stays B) ((Below.refl _ _).alloc (Nat.le_refl _) _)), Lib.hid (World.grownBy_alloc _ _ _), Lib.hid (heap_alloc_new w _)⟩
  case round =>
    obtain ⟨j, hj, rfl, HJ, HG, HR⟩ := hrel
    by_cases hlt : j < 6
    · have hf := formCells_at ⟨j, hlt⟩
      simp only at hf
      obtain ⟨f1, f2, f3⟩ := hf
      obtain ⟨⟨s, f⟩, hsf⟩ : ∃ q, formAt j = q := ⟨_, rfl⟩
      rw [hsf] at f1 f2 f3
      simp only at f1 f2 f3
      have HF := Lib.hid hsf
      have hc1 : wr.cell? ⟨w.heap.size, j * 2, none⟩ = some (.string s) := by simp [World.cell?, HR.out, f1]
      have hc2 : wr.cell? ⟨w.heap.size, j * 2 + 1, none⟩ = some (.string f) := by simp [World.cell?, HR.out, f2]
      have hd6 : decide ((j : Int) < 6) = true := decide_eq_true (by omega)
      clear f1 f2 hsf
      go_wp2_with fail
      have hr1 := heap_alloc_new wr (.cells #[.string s, .string f] 155)
      have hJ1 := HJ.out.below (rr_stays B) ((Below.refl wr.heap.size wr).alloc (Nat.le_refl _) (.cells #[.string s, .string f] 155))
      have hG1 := HG.out.andBelow ((Below.refl wr.heap.size wr).alloc (Nat.le_refl _) (.cells #[.string s, .string f] 155))
      have hR1 := row_alloc3 HR.out (.cells #[.string s, .string f] 155)
      have hz1 : wr.heap.size < (wr.alloc (.cells #[.string s, .string f] 155)).heap.size := by simp
      have hn1 : wr.heap.size ≠ mb := by have := HJ.out.lt; omega
      have hn2 : w.heap.size ≠ mb := by have := HS.out.lt; omega
      obtain ⟨Z, hZ⟩ : ∃ Z, wr.heap.size = Z := ⟨_, rfl⟩
      rw [hZ] at hr1 hz1 hn1 ⊢
      generalize wr.alloc (.cells #[.string s, .string f] 155) = X1 at hr1 hJ1 hG1 hR1 hz1 ⊢
      have R1 := Lib.hid hr1
      have J1 := Lib.hid hJ1
      have G1 := Lib.hid hG1
      have P1 := Lib.hid hR1
      have Z1 := Lib.hid hz1
      have N1 := Lib.hid hn1
      have N2 := Lib.hid hn2
      clear hr1 hJ1 hG1 hR1 hz1 hn1 hn2 hZ hc1 hc2 HJ HG HR
      go_loopw [22] (fun i wx => ∃ i' : Nat, i' ≤ s.size ∧ i = .int .i64 i' ∧ Hid (SpG (RrAt B) wx mb (n + 2 * j + i') (signGR (formsGR g j) s f i')) ∧ Hid (w.grownBy wx (some mb)) ∧ Hid (wx.heap[w.heap.size]? = some (.cells formCells 155 (0, 0))) ∧ Hid (wx.heap[Z]? = some (.cells #[.string s, .string f] 155 (0, 0)))) (fun i _ => s.size - (intOf i).toNat)
      case atStart => exact ⟨0, by omega, rfl, J1, G1, P1, R1⟩
      case round =>
        obtain ⟨i, hi, rfl, HJ, HG, HP, HR⟩ := hrel
        by_cases hlt2 : i < s.size
        · have hb1 : BoxB B wr mb b (.map (some mb)) 131 := HB.out.stay fun k hk hne => HG.out.block k hk (fun e => hne (Option.some.inj e))
          have hm1 := HJ.out.lt
          have hc3 : wr.cell? ⟨Z, 0, none⟩ = some (.string s) := by simp [World.cell?, HR.out]
          have hc4 : wr.cell? ⟨Z, 1, none⟩ = some (.string f) := by simp [World.cell?, HR.out]
          obtain ⟨c, hc⟩ : ∃ c, s[i] = c := ⟨_, rfl⟩
          have hc8 := c.toNat_lt
          have HB1 := Lib.hid hb1
          have HC3 := Lib.hid hc3
          have HM1 := Lib.hid hm1
          clear hb1 hm1
          go_wp2_with fail
          go_region_law ((go_simp; go_at_call 143; refine (formedR_any B f mb b _ (by exact HM1.out) (by exact Nat.le_trans HZ.out HG.out.size) (by exact HB1.out)).mono ?_; rintro e w2 ⟨⟨v, rfl, hv, ha⟩, hb0⟩; have hb : Below wr.heap.size wr w2 := ((Below.refl wr.heap.size wr).drew).trans hb0; have hk3 : w2.cell? ⟨Z, 0, none⟩ = some (.string s) := (hb.cell (p := ⟨Z, 0, none⟩) (Array.getElem?_eq_some_iff.1 HR.out).1).trans HC3.out; obtain ⟨w3, hrun, hs3, hg3⟩ := SpG.store (rr_stays B) (SpG.below (rr_stays B) HJ.out hb) Tryz.underlying131 (by have := hmax.out; omega) (c := c.toNat) (by omega) hv ha; have h3 := Lib.hid hs3; have h4 := Lib.hid hg3; have h5 := Lib.hid hb; clear hs3 hg3 hb hb0 hv ha))
          all_goals (try go_wp2_with fail)
          all_goals
            go_roundw
            case rel => exact ⟨i + 1, by omega, by go_num, Lib.hid (by have := h3.out; rw [← hc] at this; exact sign_nextR this), Lib.hid (Lib.grownBy_trans (HG.out.andBelow h5.out) h4.out), Lib.hid (by rw [h4.out.block _ (Nat.lt_of_lt_of_le (Array.getElem?_eq_some_iff.1 HP.out).1 h5.out.size) (fun e => N2.out (Option.some.inj e)), h5.out.block _ (Array.getElem?_eq_some_iff.1 HP.out).1]; exact HP.out), Lib.hid (by rw [h4.out.block _ (Nat.lt_of_lt_of_le (Array.getElem?_eq_some_iff.1 HR.out).1 h5.out.size) (fun e => N1.out (Option.some.inj e)), h5.out.block _ (Array.getElem?_eq_some_iff.1 HR.out).1]; exact HR.out)⟩
            case measure => simp [intOf]; omega
        · have hii : i = s.size := by omega
          subst hii
          go_wp2_with fail
          go_roundw
          case rel => exact ⟨j + 1, by omega, by go_num, Lib.hid (by have h := HJ.out.more (m := n + 2 * (j + 1)) (by omega); rw [formsGR, HF.out]; exact h), HG, HP⟩
          case measure => simp [intOf]; omega
    · have hjj : j = 6 := by omega
      subst hjj
      go_wp2_with fail
      go_end0
      exact ⟨rfl, HJ.out.more (by omega), HG.out⟩
end Go.Proofs.YtpjncnoejdaplaaGreatDoor

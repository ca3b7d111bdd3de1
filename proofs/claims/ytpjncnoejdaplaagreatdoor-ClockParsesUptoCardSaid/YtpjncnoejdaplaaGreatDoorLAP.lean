/- The map of all readers. -/
import Derived.Test.YtpjncnoejdaplaaGreatDoorLAO
namespace Go.Proofs.YtpjncnoejdaplaaGreatDoor
open Go Go.RowKit Go.Shelf

def baseR : Nat → Option RS := updG (updG (updG (updG (updG (updG (updG (updG (updG (updG (updG (updG (updG (updG (updG (updG (updG (updG (updG (updG (updG (updG (updG (updG (updG (updG (fun _ => none) 89 (.plain (.num 4 0 9999 1))) 67 (.plain (.num 2 0 99 2))) 121 (.plain (.num 2 0 99 3))) 109 (.plain (.num 2 1 12 4))) 100 (.plain (.num 2 1 31 5))) 101 (.plain (.num 2 1 31 5))) 72 (.plain (.num 2 0 23 7))) 107 (.plain (.num 2 0 23 7))) 73 (.plain (.num 2 1 12 8))) 108 (.plain (.num 2 1 12 8))) 77 (.plain (.num 2 0 59 10))) 83 (.plain (.num 2 0 60 11))) 106 (.plain (.num 3 1 366 6))) 85 (.plain (.num 2 0 53 0))) 87 (.plain (.num 2 0 53 0))) 86 (.plain (.num 2 0 53 0))) 117 (.plain (.num 1 0 7 0))) 119 (.plain (.num 1 0 7 0))) 71 (.plain (.num 4 0 9999 0))) 103 (.plain (.num 2 0 99 0))) 115 (.plain (.secs))) 110 (.plain (.many false))) 116 (.plain (.many false))) 37 (.plain (.percent))) 90 (.plain (.many true))) 122 (.plain (.zone))
def namesG (g : Nat → Option RS) : Nat → Option RS := updG (updG (updG (updG (updG (updG (updG (g) 97 (.plain (.name dayNames 3 0))) 65 (.plain (.name dayNames 3 0))) 98 (.plain (.name monthNames 3 4))) 104 (.plain (.name monthNames 3 4))) 66 (.plain (.name monthNames 3 4))) 112 (.plain (.name halfNames 2 9))) 80 (.plain (.name halfNames 2 9))
theorem all_specR (c : Nat) : formsGR (namesG baseR) 6 c = specR c := by
  by_cases h89 : c = 89
  · subst h89
    rfl
  by_cases h67 : c = 67
  · subst h67
    rfl
  by_cases h121 : c = 121
  · subst h121
    rfl
  by_cases h109 : c = 109
  · subst h109
    rfl
  by_cases h100 : c = 100
  · subst h100
    rfl
  by_cases h101 : c = 101
  · subst h101
    rfl
  by_cases h72 : c = 72
  · subst h72
    rfl
  by_cases h107 : c = 107
  · subst h107
    rfl
  by_cases h73 : c = 73
  · subst h73
    rfl
  by_cases h108 : c = 108
  · subst h108
    rfl
  by_cases h77 : c = 77
  · subst h77
    rfl
  by_cases h83 : c = 83
  · subst h83
    rfl
  by_cases h106 : c = 106
  · subst h106
    rfl
  by_cases h85 : c = 85
  · subst h85
    rfl
  by_cases h87 : c = 87
  · subst h87
    rfl
  by_cases h86 : c = 86
  · subst h86
    rfl
  by_cases h117 : c = 117
  · subst h117
    rfl
  by_cases h119 : c = 119
  · subst h119
    rfl
  by_cases h71 : c = 71
  · subst h71
    rfl
  by_cases h103 : c = 103
  · subst h103
    rfl
  by_cases h115 : c = 115
  · subst h115
    rfl
  by_cases h110 : c = 110
  · subst h110
    rfl
  by_cases h116 : c = 116
  · subst h116
    rfl
  by_cases h37 : c = 37
  · subst h37
    rfl
  by_cases h90 : c = 90
  · subst h90
    rfl
  by_cases h122 : c = 122
  · subst h122
    rfl
  by_cases h97 : c = 97
  · subst h97
    rfl
  by_cases h65 : c = 65
  · subst h65
    rfl
  by_cases h98 : c = 98
  · subst h98
    rfl
  by_cases h104 : c = 104
  · subst h104
    rfl
  by_cases h66 : c = 66
  · subst h66
    rfl
  by_cases h112 : c = 112
  · subst h112
    rfl
  by_cases h80 : c = 80
  · subst h80
    rfl
  by_cases h68 : c = 68
  · subst h68
    rfl
  by_cases h120 : c = 120
  · subst h120
    rfl
  by_cases h70 : c = 70
  · subst h70
    rfl
  by_cases h82 : c = 82
  · subst h82
    rfl
  by_cases h84 : c = 84
  · subst h84
    rfl
  by_cases h88 : c = 88
  · subst h88
    rfl
  by_cases h114 : c = 114
  · subst h114
    rfl
  by_cases h99 : c = 99
  · subst h99
    rfl
  have e1 : formOf c = none := by simp [formOf, h68, h120, h70, h82, h84, h88, h114, h99]
  have e2 : plainR c = none := by simp [plainR, h89, h67, h121, h109, h100, h101, h72, h107, h73, h108, h77, h83, h106, h85, h87, h86, h117, h119, h71, h103, h115, h110, h116, h37, h90, h122, h97, h65, h98, h104, h66, h112, h80]
  have e3 : formsGR (namesG baseR) 6 c = none := by
    show updG (updG (updG (updG (updG (updG (updG (updG (namesG baseR) 68 _) 120 _) 70 _) 82 _) 84 _) 88 _) 114 _) 99 _ c = none
    simp [updG, namesG, baseR, h89, h67, h121, h109, h100, h101, h72, h107, h73, h108, h77, h83, h106, h85, h87, h86, h117, h119, h71, h103, h115, h110, h116, h37, h90, h122, h97, h65, h98, h104, h66, h112, h80, h68, h120, h70, h82, h84, h88, h114, h99]
  rw [e3]
  simp [specR, e1, e2]
theorem run_mmR (w : World) : (Instr.makeMap 131 none).run Tryz.prog w = .ok (.map (some w.heap.size)) (w.alloc (.map #[] 0)) := by
  simp [Instr.makeMap, Result.andThen]
theorem RowAt.grown {w w' : World} {mb g : Nat} {l : List ByteArray} (h : RowAt w mb g l) (hg : w.grownBy w' (some mb)) : RowAt w' mb g l := ⟨h.1, (hg.block g (Array.getElem?_eq_some_iff.1 h.2).1 (fun e => h.1 (Option.some.inj e))).trans h.2⟩
set_option maxRecDepth 100000 in
set_option maxHeartbeats 4000000 in
theorem addNames_any (B mb n : Nat) (hn : n ≤ 1000) (g : Nat → Option RS) (w : World) (hZ : B ≤ w.heap.size) (hS : SpG (RrAt B) w mb n g) : Calls Tryz.prog 141 #[.map (some mb)] w fun e w' => e = .returned (.tuple #[]) ∧ SpG (RrAt B) w' mb (n + 7) (namesG g) ∧ w.grownBy w' (some mb) := by
  have hmax : Hid (n + 30 < maxLen) := Lib.hid (by unfold maxLen; omega)
  have HZ := Lib.hid hZ
  have HS := Lib.hid hS
  clear hS hZ
  go_enter Tryz.func141, Tryz.ntmps141
  go_wp2_with fail
  refine (weekdays_any _).mono ?_
  rintro e w1 ⟨rfl, hw1⟩
  subst hw1
  go_wp2_with fail
  have hb0 := (Below.refl w.heap.size w).alloc (Nat.le_refl _) (.cells (dayNames.map Value.string).toArray 9)
  have hs1 := HS.out.below (rr_stays B) hb0
  have hr1 : RowAt (w.alloc (.cells (dayNames.map Value.string).toArray 9)) mb w.heap.size dayNames := ⟨by have := HS.out.lt; omega, heap_alloc_new w _⟩
  refine (readName_any dayNames 3 0 w.heap.size B mb _ (by have := HZ.out; simp; omega) hs1.lt (by exact HZ.out) hr1).mono ?_
  rintro e x1 ⟨⟨v1, rfl, hv, ha⟩, hb⟩
  have HV1 := Lib.hid hv
  have HA1 := Lib.hid ha
  have HS2 := Lib.hid (hs1.below (rr_stays B) hb)
  have HG2 := Lib.hid ((World.grownBy.refl w (some mb)).andBelow (hb0.trans (hb.mono (by simp))))
  replace HS := HS2
  have HG := HG2
  clear hb0 hs1 hr1 hv ha hb HS2 HG2
  go_wp2_with fail
  refine (months_any _).mono ?_
  rintro e w1 ⟨rfl, hw1⟩
  subst hw1
  go_wp2_with fail
  have hb0 := (Below.refl x1.heap.size x1).alloc (Nat.le_refl _) (.cells (monthNames.map Value.string).toArray 9)
  have hs1 := HS.out.below (rr_stays B) hb0
  have hr1 : RowAt (x1.alloc (.cells (monthNames.map Value.string).toArray 9)) mb x1.heap.size monthNames := ⟨by have := HS.out.lt; omega, heap_alloc_new x1 _⟩
  refine (readName_any monthNames 3 4 x1.heap.size B mb _ (by have := Nat.le_trans HZ.out HG.out.size; simp; omega) hs1.lt (by exact Nat.le_trans HZ.out HG.out.size) hr1).mono ?_
  rintro e x2 ⟨⟨v2, rfl, hv, ha⟩, hb⟩
  have HV2 := Lib.hid hv
  have HA2 := Lib.hid ha
  have HS2 := Lib.hid (hs1.below (rr_stays B) hb)
  have HG2 := Lib.hid ((HG.out).andBelow (hb0.trans (hb.mono (by simp))))
  replace HA1 := Lib.hid (rr_stays B _ _ _ _ _ HA1.out fun k hk _ => (hb0.trans (hb.mono (by simp))).block k hk)
  replace HS := HS2
  replace HG := HG2
  clear hb0 hs1 hr1 hv ha hb HS2 HG2
  go_wp2_with fail
  have hb0 := (Below.refl x2.heap.size x2).alloc (Nat.le_refl _) (.cells (halfNames.map Value.string).toArray 9)
  have hs1 := HS.out.below (rr_stays B) hb0
  have hr1 : RowAt (x2.alloc (.cells (halfNames.map Value.string).toArray 9)) mb x2.heap.size halfNames := ⟨by have := HS.out.lt; omega, heap_alloc_new x2 _⟩
  refine (readName_any halfNames 2 9 x2.heap.size B mb _ (by have := Nat.le_trans HZ.out HG.out.size; simp; omega) hs1.lt (by exact Nat.le_trans HZ.out HG.out.size) hr1).mono ?_
  rintro e x3 ⟨⟨v3, rfl, hv, ha⟩, hb⟩
  have HV3 := Lib.hid hv
  have HA3 := Lib.hid ha
  have HS2 := Lib.hid (hs1.below (rr_stays B) hb)
  have HG2 := Lib.hid ((HG.out).andBelow (hb0.trans (hb.mono (by simp))))
  replace HA1 := Lib.hid (rr_stays B _ _ _ _ _ HA1.out fun k hk _ => (hb0.trans (hb.mono (by simp))).block k hk)
  replace HA2 := Lib.hid (rr_stays B _ _ _ _ _ HA2.out fun k hk _ => (hb0.trans (hb.mono (by simp))).block k hk)
  replace HS := HS2
  replace HG := HG2
  clear hb0 hs1 hr1 hv ha hb HS2 HG2
  go_wp2_with (refine wpList_insert_S (rr_stays B) rfl _ _ _ 131 163 (.inr rfl) Tryz.underlying131 mb (n + 0) _ rfl HS.out (by have := hmax.out; omega) 97 (by omega) rfl _ rfl (.plain (.name dayNames 3 0)) HV1.out HA1.out ?_)
  intro y0 hs2 hg2
  replace HS := Lib.hid hs2
  replace HG := Lib.hid (Lib.grownBy_trans HG.out hg2)
  replace HA1 := Lib.hid (rr_stays B _ _ _ _ _ HA1.out fun k hk hne => hg2.block k hk fun e => hne (Option.some.inj e))
  replace HA2 := Lib.hid (rr_stays B _ _ _ _ _ HA2.out fun k hk hne => hg2.block k hk fun e => hne (Option.some.inj e))
  replace HA3 := Lib.hid (rr_stays B _ _ _ _ _ HA3.out fun k hk hne => hg2.block k hk fun e => hne (Option.some.inj e))
  clear hs2 hg2
  go_wp2_with (refine wpList_insert_S (rr_stays B) rfl _ _ _ 131 163 (.inr rfl) Tryz.underlying131 mb (n + 1) _ rfl HS.out (by have := hmax.out; omega) 65 (by omega) rfl _ rfl (.plain (.name dayNames 3 0)) HV1.out HA1.out ?_)
  intro y1 hs2 hg2
  replace HS := Lib.hid hs2
  replace HG := Lib.hid (Lib.grownBy_trans HG.out hg2)
  replace HA1 := Lib.hid (rr_stays B _ _ _ _ _ HA1.out fun k hk hne => hg2.block k hk fun e => hne (Option.some.inj e))
  replace HA2 := Lib.hid (rr_stays B _ _ _ _ _ HA2.out fun k hk hne => hg2.block k hk fun e => hne (Option.some.inj e))
  replace HA3 := Lib.hid (rr_stays B _ _ _ _ _ HA3.out fun k hk hne => hg2.block k hk fun e => hne (Option.some.inj e))
  clear hs2 hg2
  go_wp2_with (refine wpList_insert_S (rr_stays B) rfl _ _ _ 131 163 (.inr rfl) Tryz.underlying131 mb (n + 2) _ rfl HS.out (by have := hmax.out; omega) 98 (by omega) rfl _ rfl (.plain (.name monthNames 3 4)) HV2.out HA2.out ?_)
  intro y2 hs2 hg2
  replace HS := Lib.hid hs2
  replace HG := Lib.hid (Lib.grownBy_trans HG.out hg2)
  replace HA1 := Lib.hid (rr_stays B _ _ _ _ _ HA1.out fun k hk hne => hg2.block k hk fun e => hne (Option.some.inj e))
  replace HA2 := Lib.hid (rr_stays B _ _ _ _ _ HA2.out fun k hk hne => hg2.block k hk fun e => hne (Option.some.inj e))
  replace HA3 := Lib.hid (rr_stays B _ _ _ _ _ HA3.out fun k hk hne => hg2.block k hk fun e => hne (Option.some.inj e))
  clear hs2 hg2
  go_wp2_with (refine wpList_insert_S (rr_stays B) rfl _ _ _ 131 163 (.inr rfl) Tryz.underlying131 mb (n + 3) _ rfl HS.out (by have := hmax.out; omega) 104 (by omega) rfl _ rfl (.plain (.name monthNames 3 4)) HV2.out HA2.out ?_)
  intro y3 hs2 hg2
  replace HS := Lib.hid hs2
  replace HG := Lib.hid (Lib.grownBy_trans HG.out hg2)
  replace HA1 := Lib.hid (rr_stays B _ _ _ _ _ HA1.out fun k hk hne => hg2.block k hk fun e => hne (Option.some.inj e))
  replace HA2 := Lib.hid (rr_stays B _ _ _ _ _ HA2.out fun k hk hne => hg2.block k hk fun e => hne (Option.some.inj e))
  replace HA3 := Lib.hid (rr_stays B _ _ _ _ _ HA3.out fun k hk hne => hg2.block k hk fun e => hne (Option.some.inj e))
  clear hs2 hg2
  go_wp2_with (refine wpList_insert_S (rr_stays B) rfl _ _ _ 131 163 (.inr rfl) Tryz.underlying131 mb (n + 4) _ rfl HS.out (by have := hmax.out; omega) 66 (by omega) rfl _ rfl (.plain (.name monthNames 3 4)) HV2.out HA2.out ?_)
  intro y4 hs2 hg2
  replace HS := Lib.hid hs2
  replace HG := Lib.hid (Lib.grownBy_trans HG.out hg2)
  replace HA1 := Lib.hid (rr_stays B _ _ _ _ _ HA1.out fun k hk hne => hg2.block k hk fun e => hne (Option.some.inj e))
  replace HA2 := Lib.hid (rr_stays B _ _ _ _ _ HA2.out fun k hk hne => hg2.block k hk fun e => hne (Option.some.inj e))
  replace HA3 := Lib.hid (rr_stays B _ _ _ _ _ HA3.out fun k hk hne => hg2.block k hk fun e => hne (Option.some.inj e))
  clear hs2 hg2
  go_wp2_with (refine wpList_insert_S (rr_stays B) rfl _ _ _ 131 163 (.inr rfl) Tryz.underlying131 mb (n + 5) _ rfl HS.out (by have := hmax.out; omega) 112 (by omega) rfl _ rfl (.plain (.name halfNames 2 9)) HV3.out HA3.out ?_)
  intro y5 hs2 hg2
  replace HS := Lib.hid hs2
  replace HG := Lib.hid (Lib.grownBy_trans HG.out hg2)
  replace HA1 := Lib.hid (rr_stays B _ _ _ _ _ HA1.out fun k hk hne => hg2.block k hk fun e => hne (Option.some.inj e))
  replace HA2 := Lib.hid (rr_stays B _ _ _ _ _ HA2.out fun k hk hne => hg2.block k hk fun e => hne (Option.some.inj e))
  replace HA3 := Lib.hid (rr_stays B _ _ _ _ _ HA3.out fun k hk hne => hg2.block k hk fun e => hne (Option.some.inj e))
  clear hs2 hg2
  go_wp2_with (refine wpList_insert_S (rr_stays B) rfl _ _ _ 131 163 (.inr rfl) Tryz.underlying131 mb (n + 6) _ rfl HS.out (by have := hmax.out; omega) 80 (by omega) rfl _ rfl (.plain (.name halfNames 2 9)) HV3.out HA3.out ?_)
  intro y6 hs2 hg2
  replace HS := Lib.hid hs2
  replace HG := Lib.hid (Lib.grownBy_trans HG.out hg2)
  replace HA1 := Lib.hid (rr_stays B _ _ _ _ _ HA1.out fun k hk hne => hg2.block k hk fun e => hne (Option.some.inj e))
  replace HA2 := Lib.hid (rr_stays B _ _ _ _ _ HA2.out fun k hk hne => hg2.block k hk fun e => hne (Option.some.inj e))
  replace HA3 := Lib.hid (rr_stays B _ _ _ _ _ HA3.out fun k hk hne => hg2.block k hk fun e => hne (Option.some.inj e))
  clear hs2 hg2
  go_wp2_with fail
  go_end0
  exact ⟨rfl, HS.out, HG.out⟩
set_option maxRecDepth 100000 in
set_option maxHeartbeats 4000000 in
theorem readers_any (w : World) : Calls Tryz.prog 80 #[] w fun e w' => (∃ mb, w.heap.size ≤ mb ∧ e = .returned (.map (some mb)) ∧ SpG (RrAt w.heap.size) w' mb 60 specR) ∧ Below w.heap.size w w' := by
  have h := hmf
  have hmax : Hid (100 < maxLen) := Lib.hid (by unfold maxLen; omega)
  obtain ⟨B, hB⟩ : ∃ B, w.heap.size = B := ⟨_, rfl⟩
  rw [hB]
  have HZ : Hid (B ≤ w.heap.size ∧ w.heap.size ≤ B) := Lib.hid ⟨by omega, by omega⟩
  clear hB
  go_enter Tryz.func80, Tryz.ntmps80
  go_wp2_with fail
  rw [run_mmR]
  have HS := Lib.hid (SpG.made (At := RrAt B) w)
  have HB := Lib.hid ((Below.refl w.heap.size w).alloc (Nat.le_refl _) (.map #[] 0))
  obtain ⟨mb, hmb⟩ : ∃ mb, w.heap.size = mb := ⟨_, rfl⟩
  rw [hmb] at HS ⊢
  have HM : Hid (w.heap.size ≤ mb ∧ B ≤ mb) := Lib.hid ⟨by omega, by have := HZ.out; omega⟩
  generalize w.alloc (.map #[] 0) = X0 at HS HB ⊢
  clear hmb
  go_wp2_with fail
  refine (readNumber_any 4 0 9999 1 B mb _ (Nat.le_trans HZ.out.1 HB.out.size) HS.out.lt).mono ?_
  rintro e w1 ⟨⟨v, rfl, hv, ha⟩, hb⟩
  have HT := Lib.hid (HS.out.below (rr_stays B) hb)
  have HA := Lib.hid ha
  have HV := Lib.hid hv
  have HU := Lib.hid (HB.out.trans (hb.mono HB.out.size))
  clear ha hv hb
  go_wp2_with (refine wpList_insert_S (rr_stays B) rfl _ _ _ 131 163 (.inl rfl) Tryz.underlying131 mb 0 _ rfl HT.out (by have := hmax.out; omega) 89 (by omega) rfl _ rfl (.plain (.num 4 0 9999 1)) HV.out HA.out ?_)
  intro w2 hs2 hg2
  replace HS := Lib.hid hs2
  replace HB := Lib.hid (HU.out.trans (below_of_grown hg2 HM.out.1 HU.out.size))
  clear hs2 hg2 HT HA HV HU
  go_wp2_with fail
  refine (readNumber_any 2 0 99 2 B mb _ (Nat.le_trans HZ.out.1 HB.out.size) HS.out.lt).mono ?_
  rintro e w1 ⟨⟨v, rfl, hv, ha⟩, hb⟩
  have HT := Lib.hid (HS.out.below (rr_stays B) hb)
  have HA := Lib.hid ha
  have HV := Lib.hid hv
  have HU := Lib.hid (HB.out.trans (hb.mono HB.out.size))
  clear ha hv hb
  go_wp2_with (refine wpList_insert_S (rr_stays B) rfl _ _ _ 131 163 (.inl rfl) Tryz.underlying131 mb 1 _ rfl HT.out (by have := hmax.out; omega) 67 (by omega) rfl _ rfl (.plain (.num 2 0 99 2)) HV.out HA.out ?_)
  intro w2 hs2 hg2
  replace HS := Lib.hid hs2
  replace HB := Lib.hid (HU.out.trans (below_of_grown hg2 HM.out.1 HU.out.size))
  clear hs2 hg2 HT HA HV HU
  go_wp2_with fail
  refine (readNumber_any 2 0 99 3 B mb _ (Nat.le_trans HZ.out.1 HB.out.size) HS.out.lt).mono ?_
  rintro e w1 ⟨⟨v, rfl, hv, ha⟩, hb⟩
  have HT := Lib.hid (HS.out.below (rr_stays B) hb)
  have HA := Lib.hid ha
  have HV := Lib.hid hv
  have HU := Lib.hid (HB.out.trans (hb.mono HB.out.size))
  clear ha hv hb
  go_wp2_with (refine wpList_insert_S (rr_stays B) rfl _ _ _ 131 163 (.inl rfl) Tryz.underlying131 mb 2 _ rfl HT.out (by have := hmax.out; omega) 121 (by omega) rfl _ rfl (.plain (.num 2 0 99 3)) HV.out HA.out ?_)
  intro w2 hs2 hg2
  replace HS := Lib.hid hs2
  replace HB := Lib.hid (HU.out.trans (below_of_grown hg2 HM.out.1 HU.out.size))
  clear hs2 hg2 HT HA HV HU
  go_wp2_with fail
  refine (readNumber_any 2 1 12 4 B mb _ (Nat.le_trans HZ.out.1 HB.out.size) HS.out.lt).mono ?_
  rintro e w1 ⟨⟨v, rfl, hv, ha⟩, hb⟩
  have HT := Lib.hid (HS.out.below (rr_stays B) hb)
  have HA := Lib.hid ha
  have HV := Lib.hid hv
  have HU := Lib.hid (HB.out.trans (hb.mono HB.out.size))
  clear ha hv hb
  go_wp2_with (refine wpList_insert_S (rr_stays B) rfl _ _ _ 131 163 (.inl rfl) Tryz.underlying131 mb 3 _ rfl HT.out (by have := hmax.out; omega) 109 (by omega) rfl _ rfl (.plain (.num 2 1 12 4)) HV.out HA.out ?_)
  intro w2 hs2 hg2
  replace HS := Lib.hid hs2
  replace HB := Lib.hid (HU.out.trans (below_of_grown hg2 HM.out.1 HU.out.size))
  clear hs2 hg2 HT HA HV HU
  go_wp2_with fail
  refine (readNumber_any 2 1 31 5 B mb _ (Nat.le_trans HZ.out.1 HB.out.size) HS.out.lt).mono ?_
  rintro e w1 ⟨⟨v, rfl, hv, ha⟩, hb⟩
  have HT := Lib.hid (HS.out.below (rr_stays B) hb)
  have HA := Lib.hid ha
  have HV := Lib.hid hv
  have HU := Lib.hid (HB.out.trans (hb.mono HB.out.size))
  clear ha hv hb
  go_wp2_with (refine wpList_insert_S (rr_stays B) rfl _ _ _ 131 163 (.inl rfl) Tryz.underlying131 mb 4 _ rfl HT.out (by have := hmax.out; omega) 100 (by omega) rfl _ rfl (.plain (.num 2 1 31 5)) HV.out HA.out ?_)
  intro w2 hs2 hg2
  replace HS := Lib.hid hs2
  replace HB := Lib.hid (HU.out.trans (below_of_grown hg2 HM.out.1 HU.out.size))
  clear hs2 hg2 HT HA HV HU
  go_wp2_with fail
  refine (readNumber_any 2 1 31 5 B mb _ (Nat.le_trans HZ.out.1 HB.out.size) HS.out.lt).mono ?_
  rintro e w1 ⟨⟨v, rfl, hv, ha⟩, hb⟩
  have HT := Lib.hid (HS.out.below (rr_stays B) hb)
  have HA := Lib.hid ha
  have HV := Lib.hid hv
  have HU := Lib.hid (HB.out.trans (hb.mono HB.out.size))
  clear ha hv hb
  go_wp2_with (refine wpList_insert_S (rr_stays B) rfl _ _ _ 131 163 (.inl rfl) Tryz.underlying131 mb 5 _ rfl HT.out (by have := hmax.out; omega) 101 (by omega) rfl _ rfl (.plain (.num 2 1 31 5)) HV.out HA.out ?_)
  intro w2 hs2 hg2
  replace HS := Lib.hid hs2
  replace HB := Lib.hid (HU.out.trans (below_of_grown hg2 HM.out.1 HU.out.size))
  clear hs2 hg2 HT HA HV HU
  go_wp2_with fail
  refine (readNumber_any 2 0 23 7 B mb _ (Nat.le_trans HZ.out.1 HB.out.size) HS.out.lt).mono ?_
  rintro e w1 ⟨⟨v, rfl, hv, ha⟩, hb⟩
  have HT := Lib.hid (HS.out.below (rr_stays B) hb)
  have HA := Lib.hid ha
  have HV := Lib.hid hv
  have HU := Lib.hid (HB.out.trans (hb.mono HB.out.size))
  clear ha hv hb
  go_wp2_with (refine wpList_insert_S (rr_stays B) rfl _ _ _ 131 163 (.inl rfl) Tryz.underlying131 mb 6 _ rfl HT.out (by have := hmax.out; omega) 72 (by omega) rfl _ rfl (.plain (.num 2 0 23 7)) HV.out HA.out ?_)
  intro w2 hs2 hg2
  replace HS := Lib.hid hs2
  replace HB := Lib.hid (HU.out.trans (below_of_grown hg2 HM.out.1 HU.out.size))
  clear hs2 hg2 HT HA HV HU
  go_wp2_with fail
  refine (readNumber_any 2 0 23 7 B mb _ (Nat.le_trans HZ.out.1 HB.out.size) HS.out.lt).mono ?_
  rintro e w1 ⟨⟨v, rfl, hv, ha⟩, hb⟩
  have HT := Lib.hid (HS.out.below (rr_stays B) hb)
  have HA := Lib.hid ha
  have HV := Lib.hid hv
  have HU := Lib.hid (HB.out.trans (hb.mono HB.out.size))
  clear ha hv hb
  go_wp2_with (refine wpList_insert_S (rr_stays B) rfl _ _ _ 131 163 (.inl rfl) Tryz.underlying131 mb 7 _ rfl HT.out (by have := hmax.out; omega) 107 (by omega) rfl _ rfl (.plain (.num 2 0 23 7)) HV.out HA.out ?_)
  intro w2 hs2 hg2
  replace HS := Lib.hid hs2
  replace HB := Lib.hid (HU.out.trans (below_of_grown hg2 HM.out.1 HU.out.size))
  clear hs2 hg2 HT HA HV HU
  go_wp2_with fail
  refine (readNumber_any 2 1 12 8 B mb _ (Nat.le_trans HZ.out.1 HB.out.size) HS.out.lt).mono ?_
  rintro e w1 ⟨⟨v, rfl, hv, ha⟩, hb⟩
  have HT := Lib.hid (HS.out.below (rr_stays B) hb)
  have HA := Lib.hid ha
  have HV := Lib.hid hv
  have HU := Lib.hid (HB.out.trans (hb.mono HB.out.size))
  clear ha hv hb
  go_wp2_with (refine wpList_insert_S (rr_stays B) rfl _ _ _ 131 163 (.inl rfl) Tryz.underlying131 mb 8 _ rfl HT.out (by have := hmax.out; omega) 73 (by omega) rfl _ rfl (.plain (.num 2 1 12 8)) HV.out HA.out ?_)
  intro w2 hs2 hg2
  replace HS := Lib.hid hs2
  replace HB := Lib.hid (HU.out.trans (below_of_grown hg2 HM.out.1 HU.out.size))
  clear hs2 hg2 HT HA HV HU
  go_wp2_with fail
  refine (readNumber_any 2 1 12 8 B mb _ (Nat.le_trans HZ.out.1 HB.out.size) HS.out.lt).mono ?_
  rintro e w1 ⟨⟨v, rfl, hv, ha⟩, hb⟩
  have HT := Lib.hid (HS.out.below (rr_stays B) hb)
  have HA := Lib.hid ha
  have HV := Lib.hid hv
  have HU := Lib.hid (HB.out.trans (hb.mono HB.out.size))
  clear ha hv hb
  go_wp2_with (refine wpList_insert_S (rr_stays B) rfl _ _ _ 131 163 (.inl rfl) Tryz.underlying131 mb 9 _ rfl HT.out (by have := hmax.out; omega) 108 (by omega) rfl _ rfl (.plain (.num 2 1 12 8)) HV.out HA.out ?_)
  intro w2 hs2 hg2
  replace HS := Lib.hid hs2
  replace HB := Lib.hid (HU.out.trans (below_of_grown hg2 HM.out.1 HU.out.size))
  clear hs2 hg2 HT HA HV HU
  go_wp2_with fail
  refine (readNumber_any 2 0 59 10 B mb _ (Nat.le_trans HZ.out.1 HB.out.size) HS.out.lt).mono ?_
  rintro e w1 ⟨⟨v, rfl, hv, ha⟩, hb⟩
  have HT := Lib.hid (HS.out.below (rr_stays B) hb)
  have HA := Lib.hid ha
  have HV := Lib.hid hv
  have HU := Lib.hid (HB.out.trans (hb.mono HB.out.size))
  clear ha hv hb
  go_wp2_with (refine wpList_insert_S (rr_stays B) rfl _ _ _ 131 163 (.inl rfl) Tryz.underlying131 mb 10 _ rfl HT.out (by have := hmax.out; omega) 77 (by omega) rfl _ rfl (.plain (.num 2 0 59 10)) HV.out HA.out ?_)
  intro w2 hs2 hg2
  replace HS := Lib.hid hs2
  replace HB := Lib.hid (HU.out.trans (below_of_grown hg2 HM.out.1 HU.out.size))
  clear hs2 hg2 HT HA HV HU
  go_wp2_with fail
  refine (readNumber_any 2 0 60 11 B mb _ (Nat.le_trans HZ.out.1 HB.out.size) HS.out.lt).mono ?_
  rintro e w1 ⟨⟨v, rfl, hv, ha⟩, hb⟩
  have HT := Lib.hid (HS.out.below (rr_stays B) hb)
  have HA := Lib.hid ha
  have HV := Lib.hid hv
  have HU := Lib.hid (HB.out.trans (hb.mono HB.out.size))
  clear ha hv hb
  go_wp2_with (refine wpList_insert_S (rr_stays B) rfl _ _ _ 131 163 (.inl rfl) Tryz.underlying131 mb 11 _ rfl HT.out (by have := hmax.out; omega) 83 (by omega) rfl _ rfl (.plain (.num 2 0 60 11)) HV.out HA.out ?_)
  intro w2 hs2 hg2
  replace HS := Lib.hid hs2
  replace HB := Lib.hid (HU.out.trans (below_of_grown hg2 HM.out.1 HU.out.size))
  clear hs2 hg2 HT HA HV HU
  go_wp2_with fail
  refine (readNumber_any 3 1 366 6 B mb _ (Nat.le_trans HZ.out.1 HB.out.size) HS.out.lt).mono ?_
  rintro e w1 ⟨⟨v, rfl, hv, ha⟩, hb⟩
  have HT := Lib.hid (HS.out.below (rr_stays B) hb)
  have HA := Lib.hid ha
  have HV := Lib.hid hv
  have HU := Lib.hid (HB.out.trans (hb.mono HB.out.size))
  clear ha hv hb
  go_wp2_with (refine wpList_insert_S (rr_stays B) rfl _ _ _ 131 163 (.inl rfl) Tryz.underlying131 mb 12 _ rfl HT.out (by have := hmax.out; omega) 106 (by omega) rfl _ rfl (.plain (.num 3 1 366 6)) HV.out HA.out ?_)
  intro w2 hs2 hg2
  replace HS := Lib.hid hs2
  replace HB := Lib.hid (HU.out.trans (below_of_grown hg2 HM.out.1 HU.out.size))
  clear hs2 hg2 HT HA HV HU
  go_wp2_with fail
  refine (readNumber_any 2 0 53 0 B mb _ (Nat.le_trans HZ.out.1 HB.out.size) HS.out.lt).mono ?_
  rintro e w1 ⟨⟨v, rfl, hv, ha⟩, hb⟩
  have HT := Lib.hid (HS.out.below (rr_stays B) hb)
  have HA := Lib.hid ha
  have HV := Lib.hid hv
  have HU := Lib.hid (HB.out.trans (hb.mono HB.out.size))
  clear ha hv hb
  go_wp2_with (refine wpList_insert_S (rr_stays B) rfl _ _ _ 131 163 (.inl rfl) Tryz.underlying131 mb 13 _ rfl HT.out (by have := hmax.out; omega) 85 (by omega) rfl _ rfl (.plain (.num 2 0 53 0)) HV.out HA.out ?_)
  intro w2 hs2 hg2
  replace HS := Lib.hid hs2
  replace HB := Lib.hid (HU.out.trans (below_of_grown hg2 HM.out.1 HU.out.size))
  clear hs2 hg2 HT HA HV HU
  go_wp2_with fail
  refine (readNumber_any 2 0 53 0 B mb _ (Nat.le_trans HZ.out.1 HB.out.size) HS.out.lt).mono ?_
  rintro e w1 ⟨⟨v, rfl, hv, ha⟩, hb⟩
  have HT := Lib.hid (HS.out.below (rr_stays B) hb)
  have HA := Lib.hid ha
  have HV := Lib.hid hv
  have HU := Lib.hid (HB.out.trans (hb.mono HB.out.size))
  clear ha hv hb
  go_wp2_with (refine wpList_insert_S (rr_stays B) rfl _ _ _ 131 163 (.inl rfl) Tryz.underlying131 mb 14 _ rfl HT.out (by have := hmax.out; omega) 87 (by omega) rfl _ rfl (.plain (.num 2 0 53 0)) HV.out HA.out ?_)
  intro w2 hs2 hg2
  replace HS := Lib.hid hs2
  replace HB := Lib.hid (HU.out.trans (below_of_grown hg2 HM.out.1 HU.out.size))
  clear hs2 hg2 HT HA HV HU
  go_wp2_with fail
  refine (readNumber_any 2 0 53 0 B mb _ (Nat.le_trans HZ.out.1 HB.out.size) HS.out.lt).mono ?_
  rintro e w1 ⟨⟨v, rfl, hv, ha⟩, hb⟩
  have HT := Lib.hid (HS.out.below (rr_stays B) hb)
  have HA := Lib.hid ha
  have HV := Lib.hid hv
  have HU := Lib.hid (HB.out.trans (hb.mono HB.out.size))
  clear ha hv hb
  go_wp2_with (refine wpList_insert_S (rr_stays B) rfl _ _ _ 131 163 (.inl rfl) Tryz.underlying131 mb 15 _ rfl HT.out (by have := hmax.out; omega) 86 (by omega) rfl _ rfl (.plain (.num 2 0 53 0)) HV.out HA.out ?_)
  intro w2 hs2 hg2
  replace HS := Lib.hid hs2
  replace HB := Lib.hid (HU.out.trans (below_of_grown hg2 HM.out.1 HU.out.size))
  clear hs2 hg2 HT HA HV HU
  go_wp2_with fail
  refine (readNumber_any 1 0 7 0 B mb _ (Nat.le_trans HZ.out.1 HB.out.size) HS.out.lt).mono ?_
  rintro e w1 ⟨⟨v, rfl, hv, ha⟩, hb⟩
  have HT := Lib.hid (HS.out.below (rr_stays B) hb)
  have HA := Lib.hid ha
  have HV := Lib.hid hv
  have HU := Lib.hid (HB.out.trans (hb.mono HB.out.size))
  clear ha hv hb
  go_wp2_with (refine wpList_insert_S (rr_stays B) rfl _ _ _ 131 163 (.inl rfl) Tryz.underlying131 mb 16 _ rfl HT.out (by have := hmax.out; omega) 117 (by omega) rfl _ rfl (.plain (.num 1 0 7 0)) HV.out HA.out ?_)
  intro w2 hs2 hg2
  replace HS := Lib.hid hs2
  replace HB := Lib.hid (HU.out.trans (below_of_grown hg2 HM.out.1 HU.out.size))
  clear hs2 hg2 HT HA HV HU
  go_wp2_with fail
  refine (readNumber_any 1 0 7 0 B mb _ (Nat.le_trans HZ.out.1 HB.out.size) HS.out.lt).mono ?_
  rintro e w1 ⟨⟨v, rfl, hv, ha⟩, hb⟩
  have HT := Lib.hid (HS.out.below (rr_stays B) hb)
  have HA := Lib.hid ha
  have HV := Lib.hid hv
  have HU := Lib.hid (HB.out.trans (hb.mono HB.out.size))
  clear ha hv hb
  go_wp2_with (refine wpList_insert_S (rr_stays B) rfl _ _ _ 131 163 (.inl rfl) Tryz.underlying131 mb 17 _ rfl HT.out (by have := hmax.out; omega) 119 (by omega) rfl _ rfl (.plain (.num 1 0 7 0)) HV.out HA.out ?_)
  intro w2 hs2 hg2
  replace HS := Lib.hid hs2
  replace HB := Lib.hid (HU.out.trans (below_of_grown hg2 HM.out.1 HU.out.size))
  clear hs2 hg2 HT HA HV HU
  go_wp2_with fail
  refine (readNumber_any 4 0 9999 0 B mb _ (Nat.le_trans HZ.out.1 HB.out.size) HS.out.lt).mono ?_
  rintro e w1 ⟨⟨v, rfl, hv, ha⟩, hb⟩
  have HT := Lib.hid (HS.out.below (rr_stays B) hb)
  have HA := Lib.hid ha
  have HV := Lib.hid hv
  have HU := Lib.hid (HB.out.trans (hb.mono HB.out.size))
  clear ha hv hb
  go_wp2_with (refine wpList_insert_S (rr_stays B) rfl _ _ _ 131 163 (.inl rfl) Tryz.underlying131 mb 18 _ rfl HT.out (by have := hmax.out; omega) 71 (by omega) rfl _ rfl (.plain (.num 4 0 9999 0)) HV.out HA.out ?_)
  intro w2 hs2 hg2
  replace HS := Lib.hid hs2
  replace HB := Lib.hid (HU.out.trans (below_of_grown hg2 HM.out.1 HU.out.size))
  clear hs2 hg2 HT HA HV HU
  go_wp2_with fail
  refine (readNumber_any 2 0 99 0 B mb _ (Nat.le_trans HZ.out.1 HB.out.size) HS.out.lt).mono ?_
  rintro e w1 ⟨⟨v, rfl, hv, ha⟩, hb⟩
  have HT := Lib.hid (HS.out.below (rr_stays B) hb)
  have HA := Lib.hid ha
  have HV := Lib.hid hv
  have HU := Lib.hid (HB.out.trans (hb.mono HB.out.size))
  clear ha hv hb
  go_wp2_with (refine wpList_insert_S (rr_stays B) rfl _ _ _ 131 163 (.inl rfl) Tryz.underlying131 mb 19 _ rfl HT.out (by have := hmax.out; omega) 103 (by omega) rfl _ rfl (.plain (.num 2 0 99 0)) HV.out HA.out ?_)
  intro w2 hs2 hg2
  replace HS := Lib.hid hs2
  replace HB := Lib.hid (HU.out.trans (below_of_grown hg2 HM.out.1 HU.out.size))
  clear hs2 hg2 HT HA HV HU
  go_wp2_with (refine wpList_insert_S (rr_stays B) rfl _ _ _ 131 163 (.inl rfl) Tryz.underlying131 mb 20 _ rfl HS.out (by have := hmax.out; omega) 115 (by omega) rfl _ rfl (.plain (.secs)) rfl rfl ?_)
  intro w2 hs2 hg2
  replace HS := Lib.hid hs2
  replace HB := Lib.hid (HB.out.trans (below_of_grown hg2 HM.out.1 HB.out.size))
  clear hs2 hg2
  go_wp2_with fail
  refine (readMany_any false B mb _ (Nat.le_trans HZ.out.1 HB.out.size) HS.out.lt).mono ?_
  rintro e w1 ⟨⟨v, rfl, hv, ha⟩, hb⟩
  have HT := Lib.hid (HS.out.below (rr_stays B) hb)
  have HA := Lib.hid ha
  have HV := Lib.hid hv
  have HU := Lib.hid (HB.out.trans (hb.mono HB.out.size))
  clear ha hv hb
  go_wp2_with (refine wpList_insert_S (rr_stays B) rfl _ _ _ 131 163 (.inl rfl) Tryz.underlying131 mb 21 _ rfl HT.out (by have := hmax.out; omega) 110 (by omega) rfl _ rfl (.plain (.many false)) HV.out HA.out ?_)
  intro w2 hs2 hg2
  replace HS := Lib.hid hs2
  replace HB := Lib.hid (HU.out.trans (below_of_grown hg2 HM.out.1 HU.out.size))
  clear hs2 hg2 HT HA HV HU
  go_wp2_with fail
  refine (readMany_any false B mb _ (Nat.le_trans HZ.out.1 HB.out.size) HS.out.lt).mono ?_
  rintro e w1 ⟨⟨v, rfl, hv, ha⟩, hb⟩
  have HT := Lib.hid (HS.out.below (rr_stays B) hb)
  have HA := Lib.hid ha
  have HV := Lib.hid hv
  have HU := Lib.hid (HB.out.trans (hb.mono HB.out.size))
  clear ha hv hb
  go_wp2_with (refine wpList_insert_S (rr_stays B) rfl _ _ _ 131 163 (.inl rfl) Tryz.underlying131 mb 22 _ rfl HT.out (by have := hmax.out; omega) 116 (by omega) rfl _ rfl (.plain (.many false)) HV.out HA.out ?_)
  intro w2 hs2 hg2
  replace HS := Lib.hid hs2
  replace HB := Lib.hid (HU.out.trans (below_of_grown hg2 HM.out.1 HU.out.size))
  clear hs2 hg2 HT HA HV HU
  go_wp2_with (refine wpList_insert_S (rr_stays B) rfl _ _ _ 131 163 (.inl rfl) Tryz.underlying131 mb 23 _ rfl HS.out (by have := hmax.out; omega) 37 (by omega) rfl _ rfl (.plain (.percent)) rfl rfl ?_)
  intro w2 hs2 hg2
  replace HS := Lib.hid hs2
  replace HB := Lib.hid (HB.out.trans (below_of_grown hg2 HM.out.1 HB.out.size))
  clear hs2 hg2
  go_wp2_with fail
  refine (readMany_any true B mb _ (Nat.le_trans HZ.out.1 HB.out.size) HS.out.lt).mono ?_
  rintro e w1 ⟨⟨v, rfl, hv, ha⟩, hb⟩
  have HT := Lib.hid (HS.out.below (rr_stays B) hb)
  have HA := Lib.hid ha
  have HV := Lib.hid hv
  have HU := Lib.hid (HB.out.trans (hb.mono HB.out.size))
  clear ha hv hb
  go_wp2_with (refine wpList_insert_S (rr_stays B) rfl _ _ _ 131 163 (.inl rfl) Tryz.underlying131 mb 24 _ rfl HT.out (by have := hmax.out; omega) 90 (by omega) rfl _ rfl (.plain (.many true)) HV.out HA.out ?_)
  intro w2 hs2 hg2
  replace HS := Lib.hid hs2
  replace HB := Lib.hid (HU.out.trans (below_of_grown hg2 HM.out.1 HU.out.size))
  clear hs2 hg2 HT HA HV HU
  go_wp2_with (refine wpList_insert_S (rr_stays B) rfl _ _ _ 131 163 (.inl rfl) Tryz.underlying131 mb 25 _ rfl HS.out (by have := hmax.out; omega) 122 (by omega) rfl _ rfl (.plain (.zone)) rfl rfl ?_)
  intro w2 hs2 hg2
  replace HS := Lib.hid hs2
  replace HB := Lib.hid (HB.out.trans (below_of_grown hg2 HM.out.1 HB.out.size))
  clear hs2 hg2
  go_wp2_with fail
  have hb0 := (Below.refl w2.heap.size w2).alloc (Nat.le_refl _) (.cells #[.map (some mb)] 131)
  have hs3 := HS.out.below (rr_stays B) hb0
  have hb3 : BoxB B (w2.alloc (.cells #[.map (some mb)] 131)) mb w2.heap.size (.map (some mb)) 131 := ⟨Nat.le_trans HZ.out.1 HB.out.size, by have := HS.out.lt; omega, heap_alloc_new w2 _⟩
  have hu3 := HB.out.alloc HB.out.size (.cells #[.map (some mb)] 131)
  obtain ⟨b3, hb3e⟩ : ∃ b3, w2.heap.size = b3 := ⟨_, rfl⟩
  rw [hb3e] at hb3 ⊢
  generalize w2.alloc (.cells #[.map (some mb)] 131) = X3 at hs3 hb3 hu3 ⊢
  have HS3 := Lib.hid hs3
  have HX := Lib.hid hb3
  have HU := Lib.hid hu3
  clear hb0 hs3 hb3 hu3 hb3e HS HB
  refine (addNames_any B mb 26 (by omega) _ _ (Nat.le_trans HZ.out.1 HU.out.size) HS3.out).mono ?_
  rintro e w4 ⟨rfl, hs4, hg4⟩
  have HS4 := Lib.hid hs4
  have HX4 := Lib.hid (HX.out.stay fun k hk hne => hg4.block k hk fun e => hne (Option.some.inj e))
  have HU4 := Lib.hid (HU.out.trans (below_of_grown hg4 HM.out.1 HU.out.size))
  clear hs4 hg4 HS3 HX HU
  have hc4 := box_cell HX4.out.2
  go_wp2_with fail
  refine (addFormsR_any B mb 33 b3 (by omega) _ _ HS4.out (Nat.le_trans HZ.out.1 HU4.out.size) HX4.out).mono ?_
  rintro e w5 ⟨rfl, hs5, hg5⟩
  have HS5 := Lib.hid hs5
  have HX5 := Lib.hid (HX4.out.stay fun k hk hne => hg5.block k hk fun e => hne (Option.some.inj e))
  have HU5 := Lib.hid (HU4.out.trans (below_of_grown hg5 HM.out.1 HU4.out.size))
  clear hs5 hg5 HS4 HX4 HU4 hc4
  have hc5 := box_cell HX5.out.2
  go_wp2_with fail
  go_ret
  refine ⟨⟨mb, HM.out.2, rfl, ?_⟩, HU5.out.mono HZ.out.1⟩
  rw [← funext all_specR]
  exact HS5.out.more (by omega)
end Go.Proofs.YtpjncnoejdaplaaGreatDoor

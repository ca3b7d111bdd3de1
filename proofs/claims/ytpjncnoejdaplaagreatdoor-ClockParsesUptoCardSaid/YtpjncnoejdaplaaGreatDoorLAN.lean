/- The writers of numbers, put into the map. -/
import Derived.Test.YtpjncnoejdaplaaGreatDoorLAM
import Derived.Lib.BufferOwn
import Derived.Deep.RegionWith
import Derived.Deep.RegionHeld3
import Derived.Deep.RegionLaw
namespace Go.Proofs.YtpjncnoejdaplaaGreatDoor
open Go Go.RowKit Go.Shelf

theorem below_of_grown {w w' : World} {b B : Nat} (h : w.grownBy w' (some b)) (hb : B ≤ b) (hB : B ≤ w.heap.size) : Below B w w' := by
  obtain ⟨h1, h2, h3, h4, h5⟩ := h
  exact ⟨h1, h2, h3, h4, fun k hk => h5 k (by omega) (fun e => by have := Option.some.inj e; omega)⟩
theorem _root_.Go.World.grownBy.andBelow {a w w' : World} {r : Option Nat} (h : a.grownBy w r) (hb : Below w.heap.size w w') : a.grownBy w' r := Lib.grownBy_below h hb
theorem grown_of_below {w w' : World} {r : Option Nat} (h : Below w.heap.size w w') : w.grownBy w' r := ⟨h.os, h.tape, h.output, h.size, fun k hk _ => h.block k hk⟩
def W64 : TypeId := 64
/-- What is put in. -/
def numG (g : Nat → Option WS) : Nat → Option WS :=
  updG (updG (updG (updG (updG (updG (updG (updG (updG (updG (updG (updG (updG (updG (updG (updG (updG (updG (updG (updG (updG (g) 89 (.plain (.pad 1 z0 .year))) 67 (.plain (.pad 2 z0 .hun))) 121 (.plain (.pad 2 z0 .yin))) 109 (.plain (.pad 2 z0 .month))) 100 (.plain (.pad 2 z0 .day))) 101 (.plain (.pad 2 bl .day))) 72 (.plain (.pad 2 z0 .hour))) 107 (.plain (.pad 2 bl .hour))) 73 (.plain (.pad 2 z0 .twelfth))) 108 (.plain (.pad 2 bl .twelfth))) 77 (.plain (.pad 2 z0 .minute))) 83 (.plain (.pad 2 z0 .second))) 106 (.plain (.pad 3 z0 .yday))) 117 (.plain (.pad 1 z0 .wdayU))) 119 (.plain (.pad 1 z0 .wday))) 85 (.plain (.pad 2 z0 .sunday))) 87 (.plain (.pad 2 z0 .monday))) 86 (.plain (.pad 2 z0 .week))) 71 (.plain (.pad 1 z0 .iso))) 103 (.plain (.pad 2 z0 .isoIn))) 115 (.plain (.pad 1 z0 .all))
set_option maxRecDepth 100000 in
set_option maxHeartbeats 4000000 in
theorem addNumbers_any (mb n : Nat) (hn : n ≤ 1000) (g : Nat → Option WS) (w : World) (hS : SpG WrAt w mb n g) : Calls Tryz.prog 73 #[.map (some mb)] w fun e w' => e = .returned (.tuple #[]) ∧ SpG WrAt w' mb (n + 21) (numG g) ∧ w.grownBy w' (some mb) := by
  have HS0 := Lib.hid hS
  have HG0 := Lib.hid (World.grownBy.refl w (some mb))
  have hmax : Hid (n + 30 < maxLen) := Lib.hid (by unfold maxLen; omega)
  clear hS
  go_enter Tryz.func73, Tryz.ntmps73
  go_wp2_with fail
  refine (padded_any 1 z0 .year mb _ HS0.out.lt).mono ?_
  rintro e w1 ⟨⟨v, rfl, hv, ha⟩, hb⟩
  have HT := Lib.hid (HS0.out.below wr_stays hb)
  have HA := Lib.hid ha
  have HV := Lib.hid hv
  have HB := Lib.hid (HG0.out.andBelow hb)
  clear ha hv hb
  go_wp2_with (refine wpList_insert_S wr_stays rfl _ _ _ 64 108 (.inr rfl) Tryz.underlying64 mb (n + 0) _ rfl HT.out (by have := hmax.out; omega) 89 (by omega) rfl _ rfl (.plain (.pad 1 z0 .year)) HV.out HA.out ?_)
  intro w2 hs2 hg2
  have HS1 := Lib.hid hs2
  have HG1 := Lib.hid (Lib.grownBy_trans HB.out hg2)
  clear hs2 hg2 HT HA HV HB HS0 HG0
  go_wp2_with fail
  refine (padded_any 2 z0 .hun mb _ HS1.out.lt).mono ?_
  rintro e w1 ⟨⟨v, rfl, hv, ha⟩, hb⟩
  have HT := Lib.hid (HS1.out.below wr_stays hb)
  have HA := Lib.hid ha
  have HV := Lib.hid hv
  have HB := Lib.hid (HG1.out.andBelow hb)
  clear ha hv hb
  go_wp2_with (refine wpList_insert_S wr_stays rfl _ _ _ 64 108 (.inr rfl) Tryz.underlying64 mb (n + 1) _ rfl HT.out (by have := hmax.out; omega) 67 (by omega) rfl _ rfl (.plain (.pad 2 z0 .hun)) HV.out HA.out ?_)
  intro w2 hs2 hg2
  have HS2 := Lib.hid hs2
  have HG2 := Lib.hid (Lib.grownBy_trans HB.out hg2)
  clear hs2 hg2 HT HA HV HB HS1 HG1
  go_wp2_with fail
  refine (padded_any 2 z0 .yin mb _ HS2.out.lt).mono ?_
  rintro e w1 ⟨⟨v, rfl, hv, ha⟩, hb⟩
  have HT := Lib.hid (HS2.out.below wr_stays hb)
  have HA := Lib.hid ha
  have HV := Lib.hid hv
  have HB := Lib.hid (HG2.out.andBelow hb)
  clear ha hv hb
  go_wp2_with (refine wpList_insert_S wr_stays rfl _ _ _ 64 108 (.inr rfl) Tryz.underlying64 mb (n + 2) _ rfl HT.out (by have := hmax.out; omega) 121 (by omega) rfl _ rfl (.plain (.pad 2 z0 .yin)) HV.out HA.out ?_)
  intro w2 hs2 hg2
  have HS3 := Lib.hid hs2
  have HG3 := Lib.hid (Lib.grownBy_trans HB.out hg2)
  clear hs2 hg2 HT HA HV HB HS2 HG2
  go_wp2_with fail
  refine (padded_any 2 z0 .month mb _ HS3.out.lt).mono ?_
  rintro e w1 ⟨⟨v, rfl, hv, ha⟩, hb⟩
  have HT := Lib.hid (HS3.out.below wr_stays hb)
  have HA := Lib.hid ha
  have HV := Lib.hid hv
  have HB := Lib.hid (HG3.out.andBelow hb)
  clear ha hv hb
  go_wp2_with (refine wpList_insert_S wr_stays rfl _ _ _ 64 108 (.inr rfl) Tryz.underlying64 mb (n + 3) _ rfl HT.out (by have := hmax.out; omega) 109 (by omega) rfl _ rfl (.plain (.pad 2 z0 .month)) HV.out HA.out ?_)
  intro w2 hs2 hg2
  have HS4 := Lib.hid hs2
  have HG4 := Lib.hid (Lib.grownBy_trans HB.out hg2)
  clear hs2 hg2 HT HA HV HB HS3 HG3
  go_wp2_with fail
  refine (padded_any 2 z0 .day mb _ HS4.out.lt).mono ?_
  rintro e w1 ⟨⟨v, rfl, hv, ha⟩, hb⟩
  have HT := Lib.hid (HS4.out.below wr_stays hb)
  have HA := Lib.hid ha
  have HV := Lib.hid hv
  have HB := Lib.hid (HG4.out.andBelow hb)
  clear ha hv hb
  go_wp2_with (refine wpList_insert_S wr_stays rfl _ _ _ 64 108 (.inr rfl) Tryz.underlying64 mb (n + 4) _ rfl HT.out (by have := hmax.out; omega) 100 (by omega) rfl _ rfl (.plain (.pad 2 z0 .day)) HV.out HA.out ?_)
  intro w2 hs2 hg2
  have HS5 := Lib.hid hs2
  have HG5 := Lib.hid (Lib.grownBy_trans HB.out hg2)
  clear hs2 hg2 HT HA HV HB HS4 HG4
  go_wp2_with fail
  refine (padded_any 2 bl .day mb _ HS5.out.lt).mono ?_
  rintro e w1 ⟨⟨v, rfl, hv, ha⟩, hb⟩
  have HT := Lib.hid (HS5.out.below wr_stays hb)
  have HA := Lib.hid ha
  have HV := Lib.hid hv
  have HB := Lib.hid (HG5.out.andBelow hb)
  clear ha hv hb
  go_wp2_with (refine wpList_insert_S wr_stays rfl _ _ _ 64 108 (.inr rfl) Tryz.underlying64 mb (n + 5) _ rfl HT.out (by have := hmax.out; omega) 101 (by omega) rfl _ rfl (.plain (.pad 2 bl .day)) HV.out HA.out ?_)
  intro w2 hs2 hg2
  have HS6 := Lib.hid hs2
  have HG6 := Lib.hid (Lib.grownBy_trans HB.out hg2)
  clear hs2 hg2 HT HA HV HB HS5 HG5
  go_wp2_with fail
  refine (padded_any 2 z0 .hour mb _ HS6.out.lt).mono ?_
  rintro e w1 ⟨⟨v, rfl, hv, ha⟩, hb⟩
  have HT := Lib.hid (HS6.out.below wr_stays hb)
  have HA := Lib.hid ha
  have HV := Lib.hid hv
  have HB := Lib.hid (HG6.out.andBelow hb)
  clear ha hv hb
  go_wp2_with (refine wpList_insert_S wr_stays rfl _ _ _ 64 108 (.inr rfl) Tryz.underlying64 mb (n + 6) _ rfl HT.out (by have := hmax.out; omega) 72 (by omega) rfl _ rfl (.plain (.pad 2 z0 .hour)) HV.out HA.out ?_)
  intro w2 hs2 hg2
  have HS7 := Lib.hid hs2
  have HG7 := Lib.hid (Lib.grownBy_trans HB.out hg2)
  clear hs2 hg2 HT HA HV HB HS6 HG6
  go_wp2_with fail
  refine (padded_any 2 bl .hour mb _ HS7.out.lt).mono ?_
  rintro e w1 ⟨⟨v, rfl, hv, ha⟩, hb⟩
  have HT := Lib.hid (HS7.out.below wr_stays hb)
  have HA := Lib.hid ha
  have HV := Lib.hid hv
  have HB := Lib.hid (HG7.out.andBelow hb)
  clear ha hv hb
  go_wp2_with (refine wpList_insert_S wr_stays rfl _ _ _ 64 108 (.inr rfl) Tryz.underlying64 mb (n + 7) _ rfl HT.out (by have := hmax.out; omega) 107 (by omega) rfl _ rfl (.plain (.pad 2 bl .hour)) HV.out HA.out ?_)
  intro w2 hs2 hg2
  have HS8 := Lib.hid hs2
  have HG8 := Lib.hid (Lib.grownBy_trans HB.out hg2)
  clear hs2 hg2 HT HA HV HB HS7 HG7
  go_wp2_with fail
  refine (padded_any 2 z0 .twelfth mb _ HS8.out.lt).mono ?_
  rintro e w1 ⟨⟨v, rfl, hv, ha⟩, hb⟩
  have HT := Lib.hid (HS8.out.below wr_stays hb)
  have HA := Lib.hid ha
  have HV := Lib.hid hv
  have HB := Lib.hid (HG8.out.andBelow hb)
  clear ha hv hb
  go_wp2_with (refine wpList_insert_S wr_stays rfl _ _ _ 64 108 (.inr rfl) Tryz.underlying64 mb (n + 8) _ rfl HT.out (by have := hmax.out; omega) 73 (by omega) rfl _ rfl (.plain (.pad 2 z0 .twelfth)) HV.out HA.out ?_)
  intro w2 hs2 hg2
  have HS9 := Lib.hid hs2
  have HG9 := Lib.hid (Lib.grownBy_trans HB.out hg2)
  clear hs2 hg2 HT HA HV HB HS8 HG8
  go_wp2_with fail
  refine (padded_any 2 bl .twelfth mb _ HS9.out.lt).mono ?_
  rintro e w1 ⟨⟨v, rfl, hv, ha⟩, hb⟩
  have HT := Lib.hid (HS9.out.below wr_stays hb)
  have HA := Lib.hid ha
  have HV := Lib.hid hv
  have HB := Lib.hid (HG9.out.andBelow hb)
  clear ha hv hb
  go_wp2_with (refine wpList_insert_S wr_stays rfl _ _ _ 64 108 (.inr rfl) Tryz.underlying64 mb (n + 9) _ rfl HT.out (by have := hmax.out; omega) 108 (by omega) rfl _ rfl (.plain (.pad 2 bl .twelfth)) HV.out HA.out ?_)
  intro w2 hs2 hg2
  have HS10 := Lib.hid hs2
  have HG10 := Lib.hid (Lib.grownBy_trans HB.out hg2)
  clear hs2 hg2 HT HA HV HB HS9 HG9
  go_wp2_with fail
  refine (padded_any 2 z0 .minute mb _ HS10.out.lt).mono ?_
  rintro e w1 ⟨⟨v, rfl, hv, ha⟩, hb⟩
  have HT := Lib.hid (HS10.out.below wr_stays hb)
  have HA := Lib.hid ha
  have HV := Lib.hid hv
  have HB := Lib.hid (HG10.out.andBelow hb)
  clear ha hv hb
  go_wp2_with (refine wpList_insert_S wr_stays rfl _ _ _ 64 108 (.inr rfl) Tryz.underlying64 mb (n + 10) _ rfl HT.out (by have := hmax.out; omega) 77 (by omega) rfl _ rfl (.plain (.pad 2 z0 .minute)) HV.out HA.out ?_)
  intro w2 hs2 hg2
  have HS11 := Lib.hid hs2
  have HG11 := Lib.hid (Lib.grownBy_trans HB.out hg2)
  clear hs2 hg2 HT HA HV HB HS10 HG10
  go_wp2_with fail
  refine (padded_any 2 z0 .second mb _ HS11.out.lt).mono ?_
  rintro e w1 ⟨⟨v, rfl, hv, ha⟩, hb⟩
  have HT := Lib.hid (HS11.out.below wr_stays hb)
  have HA := Lib.hid ha
  have HV := Lib.hid hv
  have HB := Lib.hid (HG11.out.andBelow hb)
  clear ha hv hb
  go_wp2_with (refine wpList_insert_S wr_stays rfl _ _ _ 64 108 (.inr rfl) Tryz.underlying64 mb (n + 11) _ rfl HT.out (by have := hmax.out; omega) 83 (by omega) rfl _ rfl (.plain (.pad 2 z0 .second)) HV.out HA.out ?_)
  intro w2 hs2 hg2
  have HS12 := Lib.hid hs2
  have HG12 := Lib.hid (Lib.grownBy_trans HB.out hg2)
  clear hs2 hg2 HT HA HV HB HS11 HG11
  go_wp2_with fail
  refine (padded_any 3 z0 .yday mb _ HS12.out.lt).mono ?_
  rintro e w1 ⟨⟨v, rfl, hv, ha⟩, hb⟩
  have HT := Lib.hid (HS12.out.below wr_stays hb)
  have HA := Lib.hid ha
  have HV := Lib.hid hv
  have HB := Lib.hid (HG12.out.andBelow hb)
  clear ha hv hb
  go_wp2_with (refine wpList_insert_S wr_stays rfl _ _ _ 64 108 (.inr rfl) Tryz.underlying64 mb (n + 12) _ rfl HT.out (by have := hmax.out; omega) 106 (by omega) rfl _ rfl (.plain (.pad 3 z0 .yday)) HV.out HA.out ?_)
  intro w2 hs2 hg2
  have HS13 := Lib.hid hs2
  have HG13 := Lib.hid (Lib.grownBy_trans HB.out hg2)
  clear hs2 hg2 HT HA HV HB HS12 HG12
  go_wp2_with fail
  refine (padded_any 1 z0 .wdayU mb _ HS13.out.lt).mono ?_
  rintro e w1 ⟨⟨v, rfl, hv, ha⟩, hb⟩
  have HT := Lib.hid (HS13.out.below wr_stays hb)
  have HA := Lib.hid ha
  have HV := Lib.hid hv
  have HB := Lib.hid (HG13.out.andBelow hb)
  clear ha hv hb
  go_wp2_with (refine wpList_insert_S wr_stays rfl _ _ _ 64 108 (.inr rfl) Tryz.underlying64 mb (n + 13) _ rfl HT.out (by have := hmax.out; omega) 117 (by omega) rfl _ rfl (.plain (.pad 1 z0 .wdayU)) HV.out HA.out ?_)
  intro w2 hs2 hg2
  have HS14 := Lib.hid hs2
  have HG14 := Lib.hid (Lib.grownBy_trans HB.out hg2)
  clear hs2 hg2 HT HA HV HB HS13 HG13
  go_wp2_with fail
  refine (padded_any 1 z0 .wday mb _ HS14.out.lt).mono ?_
  rintro e w1 ⟨⟨v, rfl, hv, ha⟩, hb⟩
  have HT := Lib.hid (HS14.out.below wr_stays hb)
  have HA := Lib.hid ha
  have HV := Lib.hid hv
  have HB := Lib.hid (HG14.out.andBelow hb)
  clear ha hv hb
  go_wp2_with (refine wpList_insert_S wr_stays rfl _ _ _ 64 108 (.inr rfl) Tryz.underlying64 mb (n + 14) _ rfl HT.out (by have := hmax.out; omega) 119 (by omega) rfl _ rfl (.plain (.pad 1 z0 .wday)) HV.out HA.out ?_)
  intro w2 hs2 hg2
  have HS15 := Lib.hid hs2
  have HG15 := Lib.hid (Lib.grownBy_trans HB.out hg2)
  clear hs2 hg2 HT HA HV HB HS14 HG14
  go_wp2_with fail
  refine (padded_any 2 z0 .sunday mb _ HS15.out.lt).mono ?_
  rintro e w1 ⟨⟨v, rfl, hv, ha⟩, hb⟩
  have HT := Lib.hid (HS15.out.below wr_stays hb)
  have HA := Lib.hid ha
  have HV := Lib.hid hv
  have HB := Lib.hid (HG15.out.andBelow hb)
  clear ha hv hb
  go_wp2_with (refine wpList_insert_S wr_stays rfl _ _ _ 64 108 (.inr rfl) Tryz.underlying64 mb (n + 15) _ rfl HT.out (by have := hmax.out; omega) 85 (by omega) rfl _ rfl (.plain (.pad 2 z0 .sunday)) HV.out HA.out ?_)
  intro w2 hs2 hg2
  have HS16 := Lib.hid hs2
  have HG16 := Lib.hid (Lib.grownBy_trans HB.out hg2)
  clear hs2 hg2 HT HA HV HB HS15 HG15
  go_wp2_with fail
  refine (padded_any 2 z0 .monday mb _ HS16.out.lt).mono ?_
  rintro e w1 ⟨⟨v, rfl, hv, ha⟩, hb⟩
  have HT := Lib.hid (HS16.out.below wr_stays hb)
  have HA := Lib.hid ha
  have HV := Lib.hid hv
  have HB := Lib.hid (HG16.out.andBelow hb)
  clear ha hv hb
  go_wp2_with (refine wpList_insert_S wr_stays rfl _ _ _ 64 108 (.inr rfl) Tryz.underlying64 mb (n + 16) _ rfl HT.out (by have := hmax.out; omega) 87 (by omega) rfl _ rfl (.plain (.pad 2 z0 .monday)) HV.out HA.out ?_)
  intro w2 hs2 hg2
  have HS17 := Lib.hid hs2
  have HG17 := Lib.hid (Lib.grownBy_trans HB.out hg2)
  clear hs2 hg2 HT HA HV HB HS16 HG16
  go_wp2_with fail
  refine (padded_any 2 z0 .week mb _ HS17.out.lt).mono ?_
  rintro e w1 ⟨⟨v, rfl, hv, ha⟩, hb⟩
  have HT := Lib.hid (HS17.out.below wr_stays hb)
  have HA := Lib.hid ha
  have HV := Lib.hid hv
  have HB := Lib.hid (HG17.out.andBelow hb)
  clear ha hv hb
  go_wp2_with (refine wpList_insert_S wr_stays rfl _ _ _ 64 108 (.inr rfl) Tryz.underlying64 mb (n + 17) _ rfl HT.out (by have := hmax.out; omega) 86 (by omega) rfl _ rfl (.plain (.pad 2 z0 .week)) HV.out HA.out ?_)
  intro w2 hs2 hg2
  have HS18 := Lib.hid hs2
  have HG18 := Lib.hid (Lib.grownBy_trans HB.out hg2)
  clear hs2 hg2 HT HA HV HB HS17 HG17
  go_wp2_with fail
  refine (padded_any 1 z0 .iso mb _ HS18.out.lt).mono ?_
  rintro e w1 ⟨⟨v, rfl, hv, ha⟩, hb⟩
  have HT := Lib.hid (HS18.out.below wr_stays hb)
  have HA := Lib.hid ha
  have HV := Lib.hid hv
  have HB := Lib.hid (HG18.out.andBelow hb)
  clear ha hv hb
  go_wp2_with (refine wpList_insert_S wr_stays rfl _ _ _ 64 108 (.inr rfl) Tryz.underlying64 mb (n + 18) _ rfl HT.out (by have := hmax.out; omega) 71 (by omega) rfl _ rfl (.plain (.pad 1 z0 .iso)) HV.out HA.out ?_)
  intro w2 hs2 hg2
  have HS19 := Lib.hid hs2
  have HG19 := Lib.hid (Lib.grownBy_trans HB.out hg2)
  clear hs2 hg2 HT HA HV HB HS18 HG18
  go_wp2_with fail
  refine (padded_any 2 z0 .isoIn mb _ HS19.out.lt).mono ?_
  rintro e w1 ⟨⟨v, rfl, hv, ha⟩, hb⟩
  have HT := Lib.hid (HS19.out.below wr_stays hb)
  have HA := Lib.hid ha
  have HV := Lib.hid hv
  have HB := Lib.hid (HG19.out.andBelow hb)
  clear ha hv hb
  go_wp2_with (refine wpList_insert_S wr_stays rfl _ _ _ 64 108 (.inr rfl) Tryz.underlying64 mb (n + 19) _ rfl HT.out (by have := hmax.out; omega) 103 (by omega) rfl _ rfl (.plain (.pad 2 z0 .isoIn)) HV.out HA.out ?_)
  intro w2 hs2 hg2
  have HS20 := Lib.hid hs2
  have HG20 := Lib.hid (Lib.grownBy_trans HB.out hg2)
  clear hs2 hg2 HT HA HV HB HS19 HG19
  go_wp2_with fail
  refine (padded_any 1 z0 .all mb _ HS20.out.lt).mono ?_
  rintro e w1 ⟨⟨v, rfl, hv, ha⟩, hb⟩
  have HT := Lib.hid (HS20.out.below wr_stays hb)
  have HA := Lib.hid ha
  have HV := Lib.hid hv
  have HB := Lib.hid (HG20.out.andBelow hb)
  clear ha hv hb
  go_wp2_with (refine wpList_insert_S wr_stays rfl _ _ _ 64 108 (.inr rfl) Tryz.underlying64 mb (n + 20) _ rfl HT.out (by have := hmax.out; omega) 115 (by omega) rfl _ rfl (.plain (.pad 1 z0 .all)) HV.out HA.out ?_)
  intro w2 hs2 hg2
  have HS21 := Lib.hid hs2
  have HG21 := Lib.hid (Lib.grownBy_trans HB.out hg2)
  clear hs2 hg2 HT HA HV HB HS20 HG20
  go_wp2_with fail
  go_end0
  exact ⟨rfl, HS21.out, HG21.out⟩
end Go.Proofs.YtpjncnoejdaplaaGreatDoor
namespace Go.Proofs.YtpjncnoejdaplaaGreatDoor
open Go Go.RowKit Go.Shelf

theorem formed_any (f : ByteArray) (mb b : Nat) (w : World) (hm : mb < w.heap.size) (hB : BoxAt w mb b (.map (some mb)) 64) : Calls Tryz.prog 75 #[.string f, .pointer (some ⟨b, 0, none⟩)] w fun e w' => (∃ v, e = .returned v ∧ isFn v = true ∧ WrAt w' mb v (.form f)) ∧ Below w.heap.size w w' := by
  have HM := Lib.hid hm
  have HB := Lib.hid hB
  have h := hmf
  clear hm hB
  go_enter Tryz.func75, Tryz.ntmps75
  go_wp2_with fail
  go_ret
  exact ⟨⟨_, rfl, rfl, w.heap.size, b, rfl, ⟨by have := HM.out; omega, heap_alloc_new w _⟩, HB.out.stay fun k hk _ => ((Below.refl w.heap.size w).alloc (Nat.le_refl _) _).block k hk⟩, (Below.refl _ _).alloc (Nat.le_refl _) _⟩
/-- The forms, and the bytes that stand for each. -/
def formsL : List (ByteArray × ByteArray) := [(⟨#[68, 120]⟩, ⟨#[37, 109, 47, 37, 100, 47, 37, 121]⟩), (⟨#[70]⟩, ⟨#[37, 89, 45, 37, 109, 45, 37, 100]⟩), (⟨#[82]⟩, ⟨#[37, 72, 58, 37, 77]⟩), (⟨#[84, 88]⟩, ⟨#[37, 72, 58, 37, 77, 58, 37, 83]⟩), (⟨#[114]⟩, ⟨#[37, 73, 58, 37, 77, 58, 37, 83, 32, 37, 112]⟩), (⟨#[99]⟩, ⟨#[37, 97, 32, 37, 98, 32, 37, 101, 32, 37, 72, 58, 37, 77, 58, 37, 83, 32, 37, 89]⟩)]
def formAt (j : Nat) : ByteArray × ByteArray := formsL.getD j (⟨#[]⟩, ⟨#[]⟩)
def signG (g : Nat → Option WS) (s : ByteArray) (f : ByteArray) : Nat → Nat → Option WS
  | 0 => g
  | i + 1 => updG (signG g s f i) (s.data.toList.getD i 0).toNat (.form f)
def formsG (g : Nat → Option WS) : Nat → Nat → Option WS
  | 0 => g
  | j + 1 => signG (formsG g j) (formAt j).1 (formAt j).2 (formAt j).1.size
theorem sign_next {w : World} {mb k i : Nat} {g : Nat → Option WS} {s f : ByteArray} {hi : i < s.size} (h : SpG WrAt w mb (k + 1) (updG (signG g s f i) (s[i]).toNat (.form f))) : SpG WrAt w mb (k + 1) (signG g s f (i + 1)) := by
  have e : (s.data.toList.getD i 0) = s[i] := by
    rw [List.getD_eq_getElem?_getD, List.getElem?_eq_getElem (by simpa using hi)]
    rfl
  rw [signG, e]
  exact h
def formCells : Array Value := #[.string ⟨#[68, 120]⟩, .string ⟨#[37, 109, 47, 37, 100, 47, 37, 121]⟩, .string ⟨#[70]⟩, .string ⟨#[37, 89, 45, 37, 109, 45, 37, 100]⟩, .string ⟨#[82]⟩, .string ⟨#[37, 72, 58, 37, 77]⟩, .string ⟨#[84, 88]⟩, .string ⟨#[37, 72, 58, 37, 77, 58, 37, 83]⟩, .string ⟨#[114]⟩, .string ⟨#[37, 73, 58, 37, 77, 58, 37, 83, 32, 37, 112]⟩, .string ⟨#[99]⟩, .string ⟨#[37, 97, 32, 37, 98, 32, 37, 101, 32, 37, 72, 58, 37, 77, 58, 37, 83, 32, 37, 89]⟩]
theorem formCells_at : ∀ j : Fin 6, formCells[j.val * 2]? = some (.string (formAt j.val).1) ∧ formCells[j.val * 2 + 1]? = some (.string (formAt j.val).2) ∧ (formAt j.val).1.size ≤ 2 := by
  rintro ⟨j, hj⟩
  match j, hj with
  | 0, _ => exact ⟨rfl, rfl, by show (formAt 0).1.size ≤ 2; decide⟩
  | 1, _ => exact ⟨rfl, rfl, by show (formAt 1).1.size ≤ 2; decide⟩
  | 2, _ => exact ⟨rfl, rfl, by show (formAt 2).1.size ≤ 2; decide⟩
  | 3, _ => exact ⟨rfl, rfl, by show (formAt 3).1.size ≤ 2; decide⟩
  | 4, _ => exact ⟨rfl, rfl, by show (formAt 4).1.size ≤ 2; decide⟩
  | 5, _ => exact ⟨rfl, rfl, by show (formAt 5).1.size ≤ 2; decide⟩
set_option maxRecDepth 100000 in
set_option maxHeartbeats 4000000 in
theorem addFormsW_any (mb n b : Nat) (hn : n ≤ 1000) (g : Nat → Option WS) (w : World) (hS : SpG WrAt w mb n g) (hB : BoxAt w mb b (.map (some mb)) 64) :
    Calls Tryz.prog 74 #[.map (some mb), .func (.func 75) #[] #[.pointer (some ⟨b, 0, none⟩)]] w fun e w' => e = .returned (.tuple #[]) ∧ SpG WrAt w' mb (n + 20) (formsG g 6) ∧ w.grownBy w' (some mb) := by
  have HS := Lib.hid hS
  have HB := Lib.hid hB
  have hmax : Hid (n + 30 < maxLen) := Lib.hid (by unfold maxLen; omega)
  clear hS hB
  go_enter Tryz.func74, Tryz.ntmps74
  go_wp2_with fail
  go_loopw [15] (fun i wr => ∃ j : Nat, j ≤ 6 ∧ i = .int .i64 j ∧ Hid (SpG WrAt wr mb (n + 2 * j) (formsG g j)) ∧ Hid (w.grownBy wr (some mb)) ∧ Hid (wr.heap[w.heap.size]? = some (.cells formCells 155 (0, 0)))) (fun i _ => 6 - (intOf i).toNat)
  case atStart =>
    refine ⟨0, by omega, rfl, Lib.hid (HS.out.below wr_stays ((Below.refl _ _).alloc (Nat.le_refl _) _)), Lib.hid (World.grownBy_alloc _ _ _), Lib.hid (heap_alloc_new w _)⟩
  case round =>
    obtain ⟨j, hj, rfl, HJ, HG, HR⟩ := hrel
    by_cases hlt : j < 6
    · have hf := formCells_at ⟨j, hlt⟩
      simp only at hf
      obtain ⟨f1, f2, f3⟩ := hf
      obtain ⟨⟨s, f⟩, hsf⟩ : ∃ q, formAt j = q := ⟨_, rfl⟩
      rw [hsf] at f1 f2 f3
      simp only at f1 f2 f3
      have HF := Lib.hid hsf
      have hc1 : wr.cell? ⟨w.heap.size, j * 2, none⟩ = some (.string s) := by simp [World.cell?, HR.out, f1]
      have hc2 : wr.cell? ⟨w.heap.size, j * 2 + 1, none⟩ = some (.string f) := by simp [World.cell?, HR.out, f2]
      have hd6 : decide ((j : Int) < 6) = true := decide_eq_true (by omega)
      clear f1 f2 hsf
      go_wp2_with fail
      have hr1 := heap_alloc_new wr (.cells #[.string s, .string f] 155)
      have hJ1 := HJ.out.below wr_stays ((Below.refl wr.heap.size wr).alloc (Nat.le_refl _) (.cells #[.string s, .string f] 155))
      have hG1 := HG.out.andBelow ((Below.refl wr.heap.size wr).alloc (Nat.le_refl _) (.cells #[.string s, .string f] 155))
      have hR1 := row_alloc3 HR.out (.cells #[.string s, .string f] 155)
      have hz1 : wr.heap.size < (wr.alloc (.cells #[.string s, .string f] 155)).heap.size := by simp
      have hn1 : wr.heap.size ≠ mb := by have := HJ.out.lt; omega
      have hn2 : w.heap.size ≠ mb := by have := HS.out.lt; omega
      obtain ⟨Z, hZ⟩ : ∃ Z, wr.heap.size = Z := ⟨_, rfl⟩
      rw [hZ] at hr1 hz1 hn1 ⊢
      generalize wr.alloc (.cells #[.string s, .string f] 155) = X1 at hr1 hJ1 hG1 hR1 hz1 ⊢
      have R1 := Lib.hid hr1
      have J1 := Lib.hid hJ1
      have G1 := Lib.hid hG1
      have P1 := Lib.hid hR1
      have Z1 := Lib.hid hz1
      have N1 := Lib.hid hn1
      have N2 := Lib.hid hn2
      clear hr1 hJ1 hG1 hR1 hz1 hn1 hn2 hZ hc1 hc2 HJ HG HR
      go_loopw [22] (fun i wx => ∃ i' : Nat, i' ≤ s.size ∧ i = .int .i64 i' ∧ Hid (SpG WrAt wx mb (n + 2 * j + i') (signG (formsG g j) s f i')) ∧ Hid (w.grownBy wx (some mb)) ∧ Hid (wx.heap[w.heap.size]? = some (.cells formCells 155 (0, 0))) ∧ Hid (wx.heap[Z]? = some (.cells #[.string s, .string f] 155 (0, 0)))) (fun i _ => s.size - (intOf i).toNat)
      case atStart => exact ⟨0, by omega, rfl, J1, G1, P1, R1⟩
      case round =>
        obtain ⟨i, hi, rfl, HJ, HG, HP, HR⟩ := hrel
        by_cases hlt2 : i < s.size
        · have hb1 : BoxAt wr mb b (.map (some mb)) 64 := HB.out.stay fun k hk hne => HG.out.block k hk (fun e => hne (Option.some.inj e))
          have hm1 := HJ.out.lt
          have hc3 : wr.cell? ⟨Z, 0, none⟩ = some (.string s) := by simp [World.cell?, HR.out]
          have hc4 : wr.cell? ⟨Z, 1, none⟩ = some (.string f) := by simp [World.cell?, HR.out]
          obtain ⟨c, hc⟩ : ∃ c, s[i] = c := ⟨_, rfl⟩
          have hc8 := c.toNat_lt
          have HB1 := Lib.hid hb1
          have HC3 := Lib.hid hc3
          have HM1 := Lib.hid hm1
          clear hb1 hm1
          go_wp2_with fail
          go_region_law ((go_simp; go_at_call 75; refine (formed_any f mb b _ (by exact HM1.out) (by exact HB1.out)).mono ?_; rintro e w2 ⟨⟨v, rfl, hv, ha⟩, hb0⟩; have hb : Below wr.heap.size wr w2 := ((Below.refl wr.heap.size wr).drew).trans hb0; have hk3 : w2.cell? ⟨Z, 0, none⟩ = some (.string s) := (hb.cell (p := ⟨Z, 0, none⟩) (Array.getElem?_eq_some_iff.1 HR.out).1).trans HC3.out; obtain ⟨w3, hrun, hs3, hg3⟩ := SpG.store wr_stays (SpG.below wr_stays HJ.out hb) Tryz.underlying64 (by have := hmax.out; omega) (c := c.toNat) (by omega) hv ha; have h3 := Lib.hid hs3; have h4 := Lib.hid hg3; have h5 := Lib.hid hb; clear hs3 hg3 hb hb0 hv ha))
          all_goals (try go_wp2_with fail)
          all_goals
            go_roundw
            case rel => exact ⟨i + 1, by omega, by go_num, Lib.hid (by have := h3.out; rw [← hc] at this; exact sign_next this), Lib.hid (Lib.grownBy_trans (HG.out.andBelow h5.out) h4.out), Lib.hid (by rw [h4.out.block _ (Nat.lt_of_lt_of_le (Array.getElem?_eq_some_iff.1 HP.out).1 h5.out.size) (fun e => N2.out (Option.some.inj e)), h5.out.block _ (Array.getElem?_eq_some_iff.1 HP.out).1]; exact HP.out), Lib.hid (by rw [h4.out.block _ (Nat.lt_of_lt_of_le (Array.getElem?_eq_some_iff.1 HR.out).1 h5.out.size) (fun e => N1.out (Option.some.inj e)), h5.out.block _ (Array.getElem?_eq_some_iff.1 HR.out).1]; exact HR.out)⟩
            case measure => simp [intOf]; omega
        · have hii : i = s.size := by omega
          subst hii
          go_wp2_with fail
          go_roundw
          case rel => exact ⟨j + 1, by omega, by go_num, Lib.hid (by have h := HJ.out.more (m := n + 2 * (j + 1)) (by omega); rw [formsG, HF.out]; exact h), HG, HP⟩
          case measure => simp [intOf]; omega
    · have hjj : j = 6 := by omega
      subst hjj
      go_wp2_with fail
      go_end0
      exact ⟨rfl, HJ.out.more (by omega), HG.out⟩
end Go.Proofs.YtpjncnoejdaplaaGreatDoor

/- errors.Is of a *strconv.NumError that holds the very sentinel. -/
import Derived.Test.YtamgdmmijlbjjaaGreatDoorNAtof
import Derived.LaidEql
import Derived.Stop.Asserts
import Derived.RowKitTokens
namespace Go.Proofs.YtamgdmmijlbjjaaGreatDoor
open Go Go.RowKit Go.Extern.Stop Go.Stop Go.Extern

/- 486: the number of the translation's types, 386, and 100. -/
theorem isTypeOf (v : Value) (w : World) : (Extern.ReflectliteType.typeOf #[.iface 285 v]).run Tryz.prog w = .ok (.iface 233 (.agg #[.pointer (some ⟨17, 285, none⟩)])) w := by kernel_rfl
noncomputable def cmpE : Array Value → Sem Value := Extern.ReflectliteType.method fun t => do Extern.Rtype.noPackHeld "Comparable" t; pure (.bool (← typeInfo t).comparable)
theorem isComparable (w : World) : (cmpE #[.agg #[.pointer (some ⟨17, 285, none⟩)]]).run Tryz.prog w = .ok (.bool true) w := by kernel_rfl
theorem isMethodComparable (v : Value) (w : World) : (Go.method 486 233 v "Comparable").run Tryz.prog w = .ok (392, v) w := by kernel_rfl
theorem isComp : (Tryz.prog.info? 285).map (·.comparable) = some true := by kernel_rfl
theorem isSize : (Tryz.prog.info? 287).map (·.size) = some 1 := by kernel_rfl
theorem noIsN (v : Value) (xT : TypeId) (w : World) : (Instr.typeAssert (.iface 152 v) xT 235 true).run Tryz.prog w = .ok (.tuple #[.nilIface, .bool false]) w := run_typeAssert_lacksB Tryz.underlying235 (by kernel_rfl) (by kernel_rfl) v xT w
theorem hasUnwrapN (v : Value) (xT : TypeId) (w : World) : (Instr.typeAssert (.iface 152 v) xT 238 true).run Tryz.prog w = .ok (.tuple #[.iface 152 v, .bool true]) w := run_typeAssert_hasB Tryz.underlying238 (by kernel_rfl) v xT w
theorem methodUnwrap (v : Value) (w : World) : (Go.method 486 152 v "Unwrap").run Tryz.prog w = .ok (387, v) w := by kernel_rfl
set_option maxRecDepth 100000 in
set_option maxHeartbeats 2000000 in
theorem is_num (pb : Nat) (b : Addr) (w : World) (h1 : w.cell? ⟨pb, 2, none⟩ = some (.iface 285 (.pointer (some b)))) :
    Calls Tryz.prog 125 #[.iface 152 (.pointer (some ⟨pb, 0, none⟩)), .iface 285 (.pointer (some b))] w fun e w' => e = .returned (.bool true) ∧ w = w' := by
  obtain ⟨i, hi, hcmp⟩ := Option.map_eq_some_iff.1 isComp
  obtain ⟨j, hj, hjs⟩ := Option.map_eq_some_iff.1 isSize
  have h8 := @run_callFunc_extern Tryz.prog 182 _ Extern.ReflectliteType.typeOf Tryz.func182 (by kernel_rfl) (by kernel_rfl) (by kernel_rfl) (by kernel_rfl)
  have h32 := @run_callFunc_extern Tryz.prog 392 _ cmpE Tryz.func392 (by kernel_rfl) (by kernel_rfl) (by kernel_rfl) (by kernel_rfl)
  have tT := isTypeOf
  have cT := isComparable
  have mR := isMethodComparable
  have nW := noIsN
  have uW := hasUnwrapN
  have mU := methodUnwrap
  have heq := run_eql_iface_ptr_same (P := Tryz.prog) w b Tryz.underlying60 Tryz.underlying285 hi hcmp hj
  have hty := run_eql_iface_types (P := Tryz.prog) 152 285 (.pointer (some ⟨pb, 0, none⟩)) (.pointer (some b)) Tryz.underlying60 (by decide) w
  go_enter Tryz.func125, Tryz.ntmps125
  go_wp2
  refine wp_loop_rounds 2 ?_
  rw [rounds_succ]
  go_wp2
  rw [rounds_succ]
  go_wp2
  go_ret
  exact ⟨rfl, rfl⟩
end Go.Proofs.YtamgdmmijlbjjaaGreatDoor

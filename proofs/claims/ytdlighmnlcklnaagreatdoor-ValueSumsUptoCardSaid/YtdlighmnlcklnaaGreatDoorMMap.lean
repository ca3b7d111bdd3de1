/- The places of keys, in a map. -/
import Derived.Test.YtdlighmnlcklnaaGreatDoorUBase
import Derived.Test.YtdlighmnlcklnaaGreatDoorMPlain
import Derived.Maps.OwnSet
namespace Go.Proofs.YtdlighmnlcklnaaGreatDoor
open Go Go.RowKit

theorem lawS : Go.Maps.Keyed Tryz.prog 9 := Go.Maps.string_keyed Tryz.underlying9
theorem zeroI (w : World) : (zeroValue 3).run Tryz.prog w = .ok (.int .i64 0) w := by kernel_rfl
def litK (k : ByteArray) : Lit := .string k.data.toList
theorem litK_ok (k : ByteArray) (h : k.size ≤ 1048576) : keyOf Tryz.prog 9 (.string k) = some (litK k) := WideMaps.keyOf_string_mk Tryz.underlying9 (by unfold maxLen; omega)
theorem litK_ne {a b : ByteArray} (h : a ≠ b) : litK a ≠ litK b := fun e => h (by
  have e1 : a.data.toList = b.data.toList := by injection e
  cases a; cases b
  simpa using e1)
/-- The places of the first t keys. -/
def plTo (ks : List ByteArray) : Nat → DataW Unit
  | 0 => .map []
  | t + 1 => (plTo ks t).put (litK (ks.getD t default)) (.lit (.int .i64 t))
theorem plTo_map (ks : List ByteArray) : ∀ t, Maps.IsMap (plTo ks t)
  | 0 => Maps.isMap_empty
  | t + 1 => (plTo_map ks t).put _ _
theorem plTo_step {ks : List ByteArray} {t : Nat} (h : t < ks.length) : plTo ks (t + 1) = (plTo ks t).put (litK ks[t]) (.lit (.int .i64 t)) := by
  show (plTo ks t).put (litK (ks.getD t default)) _ = _
  rw [getD_at _ h]
theorem plTo_no (ks : List ByteArray) (k : ByteArray) (hk : k ∉ ks) : ∀ t, t ≤ ks.length → Maps.has (plTo ks t) (litK k) = false
  | 0, _ => rfl
  | t + 1, h => by
    have hne : litK k ≠ litK ks[t] := litK_ne fun e => hk (by rw [e]; exact List.getElem_mem _)
    rw [plTo_step (by omega), Maps.has_put_other hne]
    exact plTo_no ks k hk t (by omega)
theorem plTo_at {ks : List ByteArray} (hn : ks.Nodup) {i : Nat} (hi : i < ks.length) (z : DataW Unit) : ∀ t, i < t → t ≤ ks.length → Maps.has (plTo ks t) (litK ks[i]) = true ∧ (plTo ks t).atKey (litK ks[i]) z = .lit (.int .i64 i)
  | 0, h, _ => absurd h (by omega)
  | t + 1, h, h2 => by
    rw [plTo_step (by omega)]
    by_cases e : i = t
    · subst e
      have hl : WideAt.IsKeyLit (litK ks[i]) := trivial
      exact ⟨Maps.has_put_same (plTo_map ks i) hl _, Maps.atKey_put_same (plTo_map ks i) hl _ _⟩
    · have hne : litK ks[i] ≠ litK ks[t] := litK_ne (nodup_ne hn hi (by omega) e)
      rw [Maps.has_put_other hne, Maps.atKey_put_other hne]
      exact plTo_at hn hi z t (by omega) (by omega)
end Go.Proofs.YtdlighmnlcklnaaGreatDoor

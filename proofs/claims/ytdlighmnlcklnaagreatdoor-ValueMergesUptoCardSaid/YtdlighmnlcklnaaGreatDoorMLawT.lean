/- ValueMerges: every two values. -/
import Derived.Test.YtdlighmnlcklnaaGreatDoorMLawW
namespace Go.Proofs.YtdlighmnlcklnaaGreatDoor
open Go Go.RowKit

theorem bulk_lev {w : World} {B : Nat} {m : Nat} {v : V} {lv kv : Value} (h : At w B m v lv kv) : ∀ n, bulkV (m + n) v = bulkV m v
  | 0 => rfl
  | n + 1 => (bulk_up (m + n) v lv kv (atP_levM m (m + n) _ _ _ (by omega) h)).trans (bulk_lev h n)
theorem valueMerges_true (a : V) (m : Nat) (la ka : Value) (b : V) (m2 : Nat) (lb kb : Value) (w : World) (hN : NumW w) (ha : At w w.heap.size m a la ka) (hb : At w w.heap.size m2 b lb kb) (hbulk : bulkV m a + bulkV m2 b ≤ 1048576) :
    Calls Tryz.prog 3 #[.agg (cellsV a la ka), .agg (cellsV b lb kb)] w fun e w' => e = .returned (.bool true) ∧ Below w.heap.size w w' := by
  have h1 := bulk_lev ha (m2 + 1)
  have h2 := bulk_lev hb (m + 1)
  have ha' : At w w.heap.size (m + m2 + 1) a la ka := atP_levM m _ _ _ _ (by omega) ha
  have hb' : At w w.heap.size (m + m2 + 1) b lb kb := atP_levM m2 _ _ _ _ (by omega) hb
  have e1 : m + (m2 + 1) = m + m2 + 1 := by omega
  have e2 : m2 + (m + 1) = m + m2 + 1 := by omega
  rw [e1] at h1
  rw [e2] at h2
  obtain ⟨a1, n1, c1, a2, n2, c2, rfl, rfl⟩ := ha.slices
  obtain ⟨a3, n3, c3, a4, n4, c4, rfl, rfl⟩ := hb.slices
  by_cases hg : rightV 10000 a = true ∧ rightV 10000 b = true ∧ a.k = 6 ∧ b.k = 6
  · exact merges_good a (m + m2) a1 n1 c1 a2 n2 c2 b a3 n3 c3 a4 n4 c4 w hN ha' hb' hg.1 hg.2.1 hg.2.2.1 hg.2.2.2 (by omega)
  · exact merges_bad a (m + m2 + 1) a1 n1 c1 a2 n2 c2 b a3 n3 c3 a4 n4 c4 w hN ha' hb' hg
end Go.Proofs.YtdlighmnlcklnaaGreatDoor

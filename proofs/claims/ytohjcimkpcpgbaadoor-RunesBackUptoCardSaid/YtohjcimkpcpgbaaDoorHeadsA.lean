/- The document's answers at the inputs of the calls that must come at any rate. -/
import Derived.Test.YtohjcimkpcpgbaaDoorFind
import Derived.Test.YtohjcimkpcpgbaaDoorRep
import Derived.Test.YtohjcimkpcpgbaaDoorClean
import Derived.Test.YtohjcimkpcpgbaaDoorOf
import Derived.Test.YtohjcimkpcpgbaaDoorCase
import Derived.Test.YtohjcimkpcpgbaaDoorTrim
import Derived.Test.YtohjcimkpcpgbaaDoorRange
namespace Go.Proofs.YtohjcimkpcpgbaaDoor
open Go Go.RowKit Go.WideShapes Go.Shelf

theorem hOf : ofS [104, 233] = (⟨#[104, 195, 169]⟩, 0) := by kernel_rfl
theorem hOf2 : (ofS [55296]).2 = 2 := by kernel_rfl
theorem hRep : repS ⟨#[97, 98]⟩ 2 = (⟨#[97, 98, 97, 98]⟩, 0) := by kernel_rfl
theorem hClean : cleanS ⟨#[97, 255, 98]⟩ = ⟨#[97, 239, 191, 189, 98]⟩ := by kernel_rfl
theorem hCount : (st ⟨#[97, 195, 169]⟩ 0).length = 2 := by kernel_rfl
theorem hSlice : sliceS ⟨#[104, 195, 169, 108, 108, 111]⟩ 1 3 = ⟨#[195, 169, 108]⟩ := by kernel_rfl
theorem hFind : findS ⟨#[97, 97, 97]⟩ ⟨#[97, 97]⟩ = [0, 1] := by kernel_rfl
theorem hSplit : splitS ⟨#[97, 44, 98, 44]⟩ ⟨#[44]⟩ = [⟨#[97]⟩, ⟨#[98]⟩, ⟨#[]⟩] := by kernel_rfl
theorem hValid : allGood ⟨#[]⟩ 0 = true := by kernel_rfl
theorem hValid2 : allGood ⟨#[255]⟩ 0 = false := by kernel_rfl
theorem hTrim : trimmed true false (⟨#[32, 97, 32]⟩ : ByteArray).data.toList = [97, 32] := by kernel_rfl
theorem hCase : (⟨#[97, 66]⟩ : ByteArray).data.toList.map (caseB true) = [65, 66] := by kernel_rfl
theorem arr_lit (w : World) (cs : Array Value) (e : TypeId) (n : Nat) (hn : n = cs.toList.length) : Arr (w.alloc (.cells cs e)) (w.heap.size + 1) (.slice (some ⟨w.heap.size, 0, none⟩) n n) cs.toList := by
  subst hn
  refine ⟨some ⟨w.heap.size, 0, none⟩, _, rfl, fun _ => ⟨_, rfl, by simp, ?_⟩⟩
  exact World.news_of_block (cs := cs) (t := e) (fr := (0, 0)) (heap_alloc_new w _)
end Go.Proofs.YtohjcimkpcpgbaaDoor

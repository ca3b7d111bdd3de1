/- What must come at any rate. -/
import Derived.Test.YtjhghhjnccjhmaaGreatDoorRPrint2
namespace Go.Proofs.YtjhghhjnccjhmaaGreatDoor
open Go Go.RowKit

def y1 : Sty := ⟨2, false, false, false, false⟩
def y2 : Sty := ⟨0, false, false, false, true⟩
def y3 : Sty := ⟨8, false, false, false, false⟩
def inV : V := .mk 6 0 ⟨#[]⟩ [.mk 5 0 ⟨#[]⟩ [] []] [⟨#[97]⟩]
def headV : V := .mk 5 0 ⟨#[]⟩ [numV 4607182418800017408, inV] []
theorem out1 : outS (prT y1 3 headV) = (⟨#[91, 10, 32, 32, 49, 44, 10, 32, 32, 123, 10, 32, 32, 32, 32, 34, 97, 34, 58, 32, 91, 93, 10, 32, 32, 125, 10, 93]⟩, 0) := by kernel_rfl
theorem out2 : outS (prT y2 1 (leafV 0 0 ⟨#[]⟩)) = (⟨#[27, 91, 49, 59, 51, 48, 109, 110, 117, 108, 108, 27, 91, 48, 109]⟩, 0) := by kernel_rfl
theorem esc1 : (⟨(escT true ⟨#[240, 159, 152, 128]⟩).toArray⟩ : ByteArray) = ⟨#[34, 92, 117, 100, 56, 51, 100, 92, 117, 100, 101, 48, 48, 34]⟩ := by kernel_rfl
theorem good1 : allGood ⟨#[240, 159, 152, 128]⟩ 0 = true := by kernel_rfl
end Go.Proofs.YtjhghhjnccjhmaaGreatDoor

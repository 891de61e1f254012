/- What the rows' list of variables gives: the premises of the library's contracts. -/
import Derived.Test.YtbcnngjcggddbaaDoorRows
import Derived.Test.YtbcnngjcggddbaaDoorText
import Derived.Deep.DeepHandedRow
import Derived.Deep.DeepWitnessRowRef
import Derived.Deep.DeepLaidRun
import Derived.Lib.LaidTab
import Derived.LaidMore
import Derived.Stop.LaidErr
import Derived.MakeChecks
namespace Go.Proofs.YtbcnngjcggddbaaDoor
open Go.ChangeShapes Go.WideShapes Go.ChangeAt Go.RowKit

theorem gSyn : Tryd.prog.globalNamed "strconv.ErrSyntax" = some 2 := by kernel_rfl
theorem gRng : Tryd.prog.globalNamed "strconv.ErrRange" = some 3 := by kernel_rfl
theorem gTabType : (Tryd.prog.globals[0]?).map (·.type) = some 95 := by kernel_rfl
theorem gSynType : (Tryd.prog.globals[2]?).map (·.type) = some 44 := by kernel_rfl
theorem gRngType : (Tryd.prog.globals[3]?).map (·.type) = some 44 := by kernel_rfl
theorem cellsTab : Tryd.prog.cellsOf 95 = 20 := by kernel_rfl
theorem cellsU64 : Tryd.prog.cellsOf 51 = 1 := by kernel_rfl
theorem cellsErr : Tryd.prog.cellsOf 113 = 1 := by kernel_rfl
theorem cellsStr : Tryd.prog.cellsOf 9 = 1 := by kernel_rfl
theorem starErr : "*" ++ "errors.errorString" = "*errors.errorString" := by decide
theorem rowErr (u : TypeId) (h : Tryd.prog.typeName? 3 u = some "*errors.errorString") : u = 111 :=
  typeName_ptr_named (nm := "errors.errorString") (by rw [starErr]; kernel_rfl) (by kernel_rfl) (by decide) u (by rw [starErr]; exact h)
theorem tabData_eq : Rows.laid_internal_strconv_uint64pow10 (H := Unit) = Lib.tabData .u64 Lib.pow10Tab := by kernel_rfl

theorem env_of_laid {W : World} (h : laidMetH Tryd.prog Rows.ratioTextsRow.laid W) (hsh : W.ShapedOpen Tryd.prog) : Env W := by
  rw [MakeChecks.laidMetH_plain _ _ _ (by kernel_rfl)] at h
  have h2 := h.tail.tail
  have h3 := h2.tail
  have h4 := h3.tail
  have h2' : laidMet Tryd.prog (("internal/strconv.uint64pow10", Lib.tabData .u64 Lib.pow10Tab) :: [("strconv.ErrRange", Rows.laid_strconv_ErrRange), ("strconv.ErrSyntax", Rows.laid_strconv_ErrSyntax)]) W := by
    rw [← tabData_eq]; exact h2
  have tab := Lib.tabIs_of_head gTab gTabType Tryd.underlying95 Tryd.underlying51 cellsU64 cellsTab h2'
  obtain ⟨a1, s1, hv1, _, _, _⟩ := laid_sentinel h3 gRng gRngType Tryd.underlying44 rowErr Tryd.underlying111 Tryd.underlying113 rfl rfl Tryd.underlying9 cellsErr cellsStr
  obtain ⟨a2, s2, hv2, _, _, _⟩ := laid_sentinel h4 gSyn gSynType Tryd.underlying44 rowErr Tryd.underlying111 Tryd.underlying113 rfl rfl Tryd.underlying9 cellsErr cellsStr
  have r1 := World.var?_cell gRng hv1 0
  have r2 := World.var?_cell gSyn hv2 0
  have r0 := World.var?_cell gTab tab 0
  refine ⟨tab, ?_, ⟨_, _, by simpa using r2⟩, ⟨_, _, by simpa using r1⟩, Tryd.laysM145.s1_3 W hsh⟩
  exact World.block_lt_of_cell? W _ (u := .int .u64 1) (by rw [r0]; rfl)
end Go.Proofs.YtbcnngjcggddbaaDoor

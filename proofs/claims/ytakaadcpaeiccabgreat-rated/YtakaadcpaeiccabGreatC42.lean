import Derived.Test.YtakaadcpaeiccabGreatC06
namespace Go.Proofs.YtakaadcpaeiccabGreat
open Go.ChangeShapes Go.WideShapes Go.RowKit Go.Deep

theorem rc4 : Tryz.prog.cellsOf 4 = 1 := by kernel_rfl
theorem rc23 : Tryz.prog.cellsOf 34 = 1 := by kernel_rfl

end Go.Proofs.YtakaadcpaeiccabGreat

/- The table of powers of ten out of a row's list of variables. -/
import Derived.Test.YtboagdmjibdlhaaDoorValP
import Derived.Stop.LaidErr
namespace Go.Proofs.YtboagdmjibdlhaaDoor
open Go.RowKit

theorem pow_type : (Tryd.prog.globals[0]?).map (·.type) = some 103 := by kernel_rfl
theorem pows_laid {W : World} {x y : String × DataW Unit} (h : laidMet Tryd.prog [x, y, ("internal/strconv.uint64pow10", Rows.laid_internal_strconv_uint64pow10)] W) : Pows W :=
  Lib.tabIs_of_head (rest := []) pows_global pow_type Tryd.underlying103 Tryd.underlying97 (by kernel_rfl) (by kernel_rfl)
    (show laidMet Tryd.prog (("internal/strconv.uint64pow10", Lib.tabData .u64 Lib.pow10Tab) :: []) W from h.tail.tail)
end Go.Proofs.YtboagdmjibdlhaaDoor

/- What the rows' lists of package-level variables give: the table of powers of ten that FormatInt reads. -/
import Derived.Test.YtcphhcnomaociabDoorRows
import Derived.Test.YtcphhcnomaociabDoorMeas
import Derived.WalkKit
import Derived.ProofKit
import Derived.Lib.LaidTab
import Derived.LaidSub
import Derived.MakeChecks
namespace Go.Proofs.YtcphhcnomaociabDoor

theorem tPow : (Tryd.prog.globals[0]?).map (·.type) = some 91 := by kernel_rfl
theorem cPow : Tryd.prog.cellsOf 91 = 20 := by kernel_rfl
theorem cU64 : Tryd.prog.cellsOf 79 = 1 := by kernel_rfl
theorem pow_data : (Rows.laid_internal_strconv_uint64pow10 : DataW Unit) = Go.Lib.tabData .u64 Go.Lib.pow10Tab := by kernel_rfl

def isPow (x : String × DataW Unit) : Bool := x.1 == "internal/strconv.uint64pow10"
theorem tab_of_laid {W : World} {l : List (String × DataW Unit)} (hf : l.filter isPow = [("internal/strconv.uint64pow10", Rows.laid_internal_strconv_uint64pow10)]) (hp : (l.all fun x => x.2.handleName?.isNone) = true)
    (h : laidMetH Tryd.prog l W) : Tab W := by
  rw [MakeChecks.laidMetH_plain _ _ _ hp] at h
  have h2 := h.filter isPow
  rw [hf, pow_data] at h2
  exact Go.Lib.tabIs_of_head (rest := []) gPow tPow Tryd.underlying91 Tryd.underlying79 cU64 cPow h2
end Go.Proofs.YtcphhcnomaociabDoor

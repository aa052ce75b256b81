/- The answers of chapter 3. No program. -/
import Derived.Test.YtcphhcnomaociaaPlainCos
namespace Go.Proofs.Ytcphhcnomaociaa
def cosA (n : Int) : Int × Int := if stepsB n then (cosI n, 0) else (0, 2)
def sinA (n : Int) : Int × Int := if stepsB n then (cosI (180 - n), 0) else (0, 2)
def pointA (r n : Int) : Int × Int × Int := if radB r && stepsB n then (nrm (r * cosI n), nrm (r * cosI (180 - n)), 0) else (0, 0, 2)
def okB (a b n : Int) : Bool := radB a && radB b && stepsB n
def sqA (a b n : Int) : Int × Int := if okB a b n then (sqI a b n, 0) else (0, 2)
def distA (a b n : Int) : Int × Int := if okB a b n then (distI a b n, 0) else (0, 2)
def seekA (a b z : Int) : Int × Int :=
  if radB a && radB b && (decide (0 ≤ z) && decide (z ≤ 20000)) then (match seekI a b z with | some k => ((k : Int), 0) | none => (0, 4)) else (0, 2)
end Go.Proofs.Ytcphhcnomaociaa

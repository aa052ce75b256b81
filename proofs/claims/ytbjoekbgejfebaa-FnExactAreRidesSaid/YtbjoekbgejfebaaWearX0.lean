/- AreRides, model and program, in the form that the exact law wants. -/
import Derived.Test.YtbjoekbgejfebaaRides
import Derived.Test.YtbjoekbgejfebaaWearS0
import Derived.Test.YtbjoekbgejfebaaWearI1
namespace Go.Proofs.Ytbjoekbgejfebaa
open Go.RowKit
set_option linter.unusedVariables false
theorem xsAreRides (xs : List Rid) (B : Option Addr) (d : Nat) (w : World) (lo hi : Nat) (h : RdR w lo hi B xs) (hz : xs.length ≤ 1048576) (hc : xs.length ≤ d) : Calls Try.prog 38 #[.slice B xs.length d] w (IsB w (ridesB xs)) := specAreRides xs B d w (Lr.of h hc hz)
theorem xiAreRides (xs : List Rid) (B : Option Addr) (d : Nat) (w : World) (lo hi : Nat) (h : RdR w lo hi B xs) (hz : xs.length ≤ 1048576) (hc : xs.length ≤ d) : Calls Try.prog 29 #[.slice B xs.length d] w (IsB w (ridesB xs)) := implAreRides xs B d w (Lr.of h hc hz)
end Go.Proofs.Ytbjoekbgejfebaa

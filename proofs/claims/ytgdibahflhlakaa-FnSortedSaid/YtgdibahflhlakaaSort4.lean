/- impl.SortNumbers of a nil list. -/
import Derived.Test.YtgdibahflhlakaaSort3
namespace Go.Proofs.Ytgdibahflhlakaa
open Go.RowKit
theorem implSort_nil (w : World) : Calls Try.prog 9 #[.slice none 0 0] w (SortEnd w []) := by
  have hk := checkList none 0 0 [] 0 0 w (Rd.nil_ _ _ _ _) (by omega)
  rw [show codeB [] = 0 from rfl] at hk
  have HK := Go.Lib.hid hk
  clear hk
  go_enter Try.func9, Try.ntmps9
  go_wp2_with fail
  refine HK.out.mono ?_
  rintro e w' ⟨rfl, rfl⟩
  go_wp2_with fail
  refine (Try.slices_Sort_int_none none 0 w).mono ?_
  rintro e w2 ⟨rfl, rfl⟩
  go_wp2_with fail
  go_ret2
  exact SortEnd.good (ys := []) rfl (by simp) rfl ⟨World.ownsRow_nil _ _ _ _, fun g hg => by cases hg⟩ (Below.refl _ _)
end Go.Proofs.Ytgdibahflhlakaa

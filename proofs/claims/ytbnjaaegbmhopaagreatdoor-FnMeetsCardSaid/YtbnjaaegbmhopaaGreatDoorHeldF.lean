/- heldFeatureS of the laws: the marks are found again. -/
import Derived.Test.YtbnjaaegbmhopaaGreatDoorMarkW
namespace Go.Proofs.YtbnjaaegbmhopaaGreatDoor
open Go.ChangeShapes Go.WideShapes Go.ChangeAt Go.RowKit
set_option linter.unusedVariables false

/-- The mark of one feature: its points alone. -/
def MarkF1Held (lo hi : Nat) (A : Option Addr) (m c k0 : Nat) (w : World) (e : Ending) (w' : World) : Prop :=
  ∃ q : Nat, Hid (q = k0 + m * 2) ∧ e = .returned (.int .i64 q) ∧ HeldE 2 encPoint w' lo hi 33 (.slice A m c) (mkPoint k0 m) ∧ Within lo hi w w'
set_option maxRecDepth 100000 in
theorem markFeature_held (a k r : Int) (s : ByteArray) (A : Option Addr) (m c k0 lo hi : Nat) (ps : List (Int × Int)) (w : World) (ho : HeldE 2 encPoint w lo hi 33 (.slice A m c) ps) (hm : ps.length = m) (hl : m ≤ 1099511627776) (hk : k0 ≤ 1099511627776) :
    Calls Tryz.prog 31 #[FtV a k r s A m c, .int .i64 k0] w (MarkF1Held lo hi A m c k0 w) := by
  have HV := Lib.hid (Vars.of1 w (FtC a k r s A m c) 41)
  have HO := Lib.hid (ho.belowAll HV.out.1)
  have HO0 := Lib.hid ho
  clear ho
  go_enter Tryz.func31, Tryz.ntmps31
  go_wp2_with fail
  refine (markPoint_z A m c k0 lo _ rfl ps _ hm HO.out.1 hl hk).mono ?_
  rintro e w1 ⟨q, hq, rfl, h2, h3⟩
  have HQ := hq
  have H2 := Lib.hid h2
  have H3 := Lib.hid h3
  clear hq h2 h3
  go_wp2
  go_ret
  exact ⟨q, HQ, rfl, ⟨H2.out, HO0.out.2.1, Nat.le_trans HO.out.2.2 H3.out.size⟩, (Within.of lo hi HV.out.1).trans (Within.grown H3.out fun g hg => ⟨(HO0.out.1.lt g hg).1, HO0.out.2.1 g hg⟩)⟩
end Go.Proofs.YtbnjaaegbmhopaaGreatDoor

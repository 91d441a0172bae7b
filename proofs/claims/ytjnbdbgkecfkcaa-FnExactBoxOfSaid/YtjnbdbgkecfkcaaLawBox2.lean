/- The exact law of JoinBoxes. -/
import Derived.Test.YtjnbdbgkecfkcaaBoxS
import Derived.Test.YtjnbdbgkecfkcaaBox3
import Derived.Test.YtjnbdbgkecfkcaaBoxI
import Derived.Test.YtjnbdbgkecfkcaaLawSegTo
import Derived.Test.YtjnbdbgkecfkcaaOneVar
import Derived.Test.YtjnbdbgkecfkcaaOpenPts
import Derived.Test.YtjnbdbgkecfkcaaHelpE
namespace Go.Proofs.Ytjnbdbgkecfkcaa
open Go.ChangeShapes Go.WideShapes Go.ChangeAt Go.RowKit
set_option linter.unusedVariables false

theorem capsB {α : Type} {n : Nat} {enc : α → List Value} {w : World} {B m c : Nat} {e : TypeId} {A : Option Addr} {L : List α} (h : OwnE n enc w B e (.slice A m c) L) : L.length ≤ c ∧ (c : Int) ≤ 9223372036854775807 := by
  obtain ⟨A', c', hv, hc, hl⟩ := h.form
  simp only [Value.slice.injEq] at hv
  unfold maxLen at hc
  omega
set_option maxRecDepth 100000 in
set_option maxHeartbeats 2000000 in
theorem law_FnExactBoxOf (pa0 : Option Addr) (len0 cap0 : Nat) (l0 : List (Int × Int)) (w : World) (ws0 : ShowsP w pa0 len0 l0) :
    Calls Try.prog 16 #[.slice pa0 len0 cap0] w fun e w' => e = .returned (.bool true) ∧ Below w.heap.size w w' := by
  obtain ⟨rfl, hs0, hm0⟩ := ws0
  have HS0 := Lib.hid hs0; clear hs0
  obtain ⟨z, hz⟩ : ∃ z, boxOfV l0 = z := ⟨_, rfl⟩
  have HZ := Lib.hid hz
  clear hz
  obtain ⟨⟨z0, z1, z2, z3⟩, zb⟩ := z
  go_enter Try.func16, Try.ntmps16
  by_cases hc0 : (l0.length : Int) ≤ 1048576
  · skip
    go_wp2_with fail
    refine (szPointS_yes pa0 l0.length cap0 1048576 _ hc0 (by omega)).mono ?_
    rintro e w9 ⟨rfl, rfl⟩
    have hlt0 : ¬ ((1048576 : Int) - (l0.length : Int) < 0) := by omega
    have hl : l0.length ≤ 1099511627776 := by omega
    have HB := Lib.hid (Below.refl w.heap.size w)
    go_wp2_with fail
    refine (toPointS_any pa0 cap0 l0 w ((HS0.out.below HB.out).mono HB.out.size) hl).mono ?_
    rintro e w1 ⟨At, ct, Lt, HLt, rfl, hot, hb1⟩
    obtain rfl : l0 = Lt := HLt.out.symm
    have HB1 := Lib.hid (HB.out.trans (hb1.mono HB.out.size))
    have HOt := Lib.hid (hot.sees elPoint)
    clear hb1 hot HB
    go_wp2_with fail
    refine (sBoxOf_is At ct l0 _ w1 HOt.out hl HZ.out).mono ?_
    rintro e w2 ⟨rfl, hb2⟩
    have HB2 := Lib.hid ((HB1.out.trans (hb2.mono HB1.out.size)).alloc (Nat.le_trans HB1.out.size hb2.size) (.cells (SegC z0 z1 z2 z3) 48))
    have HX2 := Lib.hid (OneV.new (m := 0) w2 (Nat.zero_le _) (SegC z0 z1 z2 z3) 48)
    clear hb2 HB1 HOt
    go_wp2_with fail
    refine (toPointS_any pa0 cap0 l0 _ ((HS0.out.below HB2.out).mono HB2.out.size) hl).mono ?_
    rintro e w3 ⟨Ax, cx, Lx, HLx, rfl, hox, hb3⟩
    obtain rfl : l0 = Lx := HLx.out.symm
    have HB3 := Lib.hid (HB2.out.trans (hb3.mono HB2.out.size))
    have HX3 := Lib.hid (HX2.out.next hb3)
    have HO3 := Lib.hid hox
    clear hb3 hox HB2 HX2
    go_wp2_with fail
    refine (boxOf_is Ax cx l0 _ w3 (HO3.out.sees elPoint) hl (capsB HO3.out).1 (capsB HO3.out).2 HZ.out).mono ?_
    rintro e w4 ⟨rfl, hb4⟩
    have HB4 := Lib.hid ((HB3.out.trans (hb4.mono HB3.out.size)).alloc (Nat.le_trans HB3.out.size hb4.size) (.cells (SegC z0 z1 z2 z3) 48))
    have HX4 := Lib.hid ((HX3.out.next hb4).al (.cells (SegC z0 z1 z2 z3) 48))
    have HY4 := Lib.hid (OneV.new (m := 0) w4 (Nat.zero_le _) (SegC z0 z1 z2 z3) 48)
    have HO4 := Lib.hid ((HO3.out.belowAll hb4).alloc (.cells (SegC z0 z1 z2 z3) 48))
    obtain ⟨j0, j1, j2, j3⟩ := HX4.out.c4
    obtain ⟨i0, i1, i2, i3⟩ := HY4.out.c4
    clear hb4 HB3 HX3 HO3
    go_wp2_with fail
    refine (eqBox_yes _ _ _ _ _).mono ?_
    rintro e w5 ⟨rfl, hb5⟩
    have HB5 := Lib.hid (HB4.out.trans (hb5.mono HB4.out.size))
    have HO5 := Lib.hid (HO4.out.belowAll hb5)
    clear hb5 HB4 HX4 HY4 HO4 j0 j1 j2 j3 i0 i1 i2 i3
    cases zb
    all_goals
      go_wp2_with fail
      refine (toPointS_any pa0 cap0 l0 _ ((HS0.out.below HB5.out).mono HB5.out.size) hl).mono ?_
      rintro e w6 ⟨Ay, cy, Ly, HLy, rfl, hoy, hb6⟩
      obtain rfl : l0 = Ly := HLy.out.symm
      have HB6 := Lib.hid (HB5.out.trans (hb6.mono HB5.out.size))
      have HO6 := Lib.hid (HO5.out.belowAll hb6)
      have HY6 := Lib.hid hoy
      clear hb6 hoy
      go_wp2_with fail
      refine (eqPointS_yes Ax Ay cx cy l0 l0 w6 (HO6.out.sees elPoint) (HY6.out.sees elPoint) rfl hl).mono ?_
      rintro e w7 ⟨rfl, hb7⟩
      go_wp2
      go_ret
      exact ⟨rfl, HB6.out.trans (hb7.mono HB6.out.size)⟩
  · go_wp2_with fail
    refine (szPointS_no pa0 l0.length cap0 1048576 _ (by omega) (by omega) hm0).mono ?_
    rintro e w9 ⟨rfl, rfl⟩
    go_wp2
    go_ret
    exact ⟨rfl, Below.refl _ _⟩
end Go.Proofs.Ytjnbdbgkecfkcaa

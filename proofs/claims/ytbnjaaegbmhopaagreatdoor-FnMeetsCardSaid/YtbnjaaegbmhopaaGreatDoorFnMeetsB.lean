/- For every code, the features that are drawn from it meet both ways, and every meeting of the source that is drawn from it is told. -/
import Derived.Test.YtbnjaaegbmhopaaGreatDoorFnMeetsB2
import Derived.Test.YtbnjaaegbmhopaaGreatDoorTabs
import Derived.Deep.RegionHeld3
import Derived.Deep.DeepCutAuto
import Derived.Test.YtbnjaaegbmhopaaGreatDoorOneVar
import Derived.Deep.LoopGhost
import Derived.Test.YtbnjaaegbmhopaaGreatDoorFeatC
import Derived.Test.YtbnjaaegbmhopaaGreatDoorHelpE
import Derived.LoopTactic
import Derived.Shelf.Abstract
import Derived.Laws.StructEq
import Derived.Test.YtbnjaaegbmhopaaGreatDoorRows
import Derived.Stop.LaidErr
import Derived.LaidMore
import Derived.Test.YtbnjaaegbmhopaaGreatDoorTie
import Derived.Test.YtbnjaaegbmhopaaGreatDoorCards
import Derived.WalkKit
import Derived.ProofKit
import Derived.OpenShut
import Derived.ShutString
import Derived.SizedLaws
import Derived.Stop.Joined
import Derived.SevenTiedAt
import Derived.Below
section
/- Features: IsFeature of package impl. -/
namespace Go.Proofs.YtbnjaaegbmhopaaGreatDoor
open Go.ChangeShapes Go.WideShapes Go.ChangeAt Go.RowKit
set_option linter.unusedVariables false

set_option maxRecDepth 100000 in
theorem pointValid_is (A : Option Addr) (c : Nat) (ps : List (Int × Int)) (z : Bool) (w : World) (hs : SeesE 2 encPoint w w.heap.size A ps) (hz : onePt ps = z) :
    Calls Tryz.prog 200 #[.slice A ps.length c] w fun e w' => e = .returned (.bool z) ∧ Below w.heap.size w w' := by
  have HS := Lib.hid hs; have HZ := Lib.hid hz
  clear hs hz
  go_enter Tryz.func200, Tryz.ntmps200
  by_cases hl1 : ps.length = 1
  · obtain ⟨⟨x, y⟩, rfl⟩ : ∃ p, ps = [p] := by
      match ps, hl1 with
      | [p], _ => exact ⟨p, rfl⟩
    obtain ⟨b, off, rfl, -, -⟩ := HS.out 0 _ rfl
    obtain ⟨q0, q1⟩ := cellsPoint0 HS.out rfl
    clear hl1
    go_wp2_with fail
    refine (isPoint_is x y z _ HZ.out).mono ?_
    rintro e w1 ⟨rfl, hb1⟩
    have HB := Lib.hid hb1
    clear hb1
    go_wp2
    go_ret
    exact ⟨rfl, HB.out⟩
  · have hl1' : ¬ (ps.length : Int) = 1 := by omega
    obtain rfl : false = z := (one_no hl1).symm.trans HZ.out
    clear hl1
    go_wp2
    go_ret
    exact ⟨rfl, Below.refl _ _⟩
theorem lineValid_is (A : Option Addr) (c : Nat) (ps : List (Int × Int)) (z : Bool) (w : World) (hs : SeesE 2 encPoint w w.heap.size A ps) (hl : ps.length ≤ 274877906944) (hz : smpV ps = z) :
    Calls Tryz.prog 201 #[.slice A ps.length c] w fun e w' => e = .returned (.bool z) ∧ Below w.heap.size w w' := by
  go_enter Tryz.func201, Tryz.ntmps201
  go_wp2_with fail
  refine (isSimple_is A c ps w hs (by omega) z hz).mono ?_
  rintro e w1 ⟨rfl, hb1⟩
  go_wp2
  go_ret
  exact ⟨rfl, hb1⟩
theorem areaValid_is (a0 : Addr) (A : Option Addr) (c : Nat) (ps : List (Int × Int)) (z : Bool) (w : World) (hE : ErrAt a0 w) (hs : SeesE 2 encPoint w w.heap.size A ps) (hl : ps.length ≤ 274877906944) (hlc : ps.length ≤ c) (hc : (c : Int) ≤ 9223372036854775807) (hz : isRg ps = z) :
    Calls Tryz.prog 203 #[.slice A ps.length c] w fun e w' => e = .returned (.bool z) ∧ Below w.heap.size w w' := by
  go_enter Tryz.func203, Tryz.ntmps203
  go_wp2_with fail
  refine (isRing_is a0 A c ps w hE hs hl hlc hc z hz).mono ?_
  rintro e w1 ⟨rfl, hb1⟩
  go_wp2
  go_ret
  exact ⟨rfl, hb1⟩
theorem noValid_is (z : Bool) (w : World) (hz : false = z) :
    Calls Tryz.prog 204 #[.agg #[]] w fun e w' => e = .returned (.bool z) ∧ Below w.heap.size w w' := by
  subst hz
  go_enter Tryz.func204, Tryz.ntmps204
  go_wp2
  go_ret
  first | exact ⟨rfl, Below.refl _ _⟩ | exact ⟨rfl, (Below.refl _ _).alloc (Nat.le_refl _) _⟩
theorem variantOf_point (a r : Int) (s : ByteArray) (A : Option Addr) (n c : Nat) (w : World) :
    Calls Tryz.prog 100 #[FtV a 1 r s A n c] w fun e w' => e = .returned (.iface 180 (.slice A n c)) ∧ Below w.heap.size w w' := by
  go_enter Tryz.func100, Tryz.ntmps100
  go_wp2
  go_ret
  exact ⟨rfl, (Below.refl _ _).alloc (Nat.le_refl _) _⟩
theorem variantOf_line (a r : Int) (s : ByteArray) (A : Option Addr) (n c : Nat) (w : World) :
    Calls Tryz.prog 100 #[FtV a 2 r s A n c] w fun e w' => e = .returned (.iface 181 (.slice A n c)) ∧ Below w.heap.size w w' := by
  go_enter Tryz.func100, Tryz.ntmps100
  go_wp2
  go_ret
  exact ⟨rfl, (Below.refl _ _).alloc (Nat.le_refl _) _⟩
theorem variantOf_area (a r : Int) (s : ByteArray) (A : Option Addr) (n c : Nat) (w : World) :
    Calls Tryz.prog 100 #[FtV a 3 r s A n c] w fun e w' => e = .returned (.iface 182 (.slice A n c)) ∧ Below w.heap.size w w' := by
  go_enter Tryz.func100, Tryz.ntmps100
  go_wp2
  go_ret
  exact ⟨rfl, (Below.refl _ _).alloc (Nat.le_refl _) _⟩
theorem variantOf_no (a k r : Int) (s : ByteArray) (A : Option Addr) (n c : Nat) (w : World) (e1 : ¬ k = 1) (e2 : ¬ k = 2) (e3 : ¬ k = 3) :
    Calls Tryz.prog 100 #[FtV a k r s A n c] w fun e w' => e = .returned (.iface 184 (.agg #[])) ∧ Below w.heap.size w w' := by
  go_enter Tryz.func100, Tryz.ntmps100
  go_wp2
  go_ret
  exact ⟨rfl, (Below.refl _ _).alloc (Nat.le_refl _) _⟩
set_option maxRecDepth 100000 in
set_option maxHeartbeats 8000000 in
theorem isFeature_is (a0 : Addr) (a k r : Int) (s : ByteArray) (A : Option Addr) (c : Nat) (ps : List (Int × Int)) (z : Bool) (w : World) (hE : ErrAt a0 w) (hs : SeesE 2 encPoint w w.heap.size A ps) (hl : ps.length ≤ 274877906944) (hlc : ps.length ≤ c) (hc : (c : Int) ≤ 9223372036854775807) (hm : s.size ≤ maxLen) (hz : featV (a, k, r, s, ps) = z) :
    Calls Tryz.prog 60 #[FtV a k r s A ps.length c] w fun e w' => e = .returned (.bool z) ∧ Below w.heap.size w w' := by
  have hmpoint : ∀ (v : Value) (w : World), (Go.method 358 180 v "loop.example/g03005/impl.isValid").run Tryz.prog w = .ok (200, v) w := fun _ _ => by kernel_rfl
  have hmline : ∀ (v : Value) (w : World), (Go.method 358 181 v "loop.example/g03005/impl.isValid").run Tryz.prog w = .ok (201, v) w := fun _ _ => by kernel_rfl
  have hmarea : ∀ (v : Value) (w : World), (Go.method 358 182 v "loop.example/g03005/impl.isValid").run Tryz.prog w = .ok (203, v) w := fun _ _ => by kernel_rfl
  have hmno : ∀ (v : Value) (w : World), (Go.method 358 184 v "loop.example/g03005/impl.isValid").run Tryz.prog w = .ok (204, v) w := fun _ _ => by kernel_rfl
  have HV := Lib.hid (Vars.of1 w (FtC a k r s A ps.length c) 41)
  have HS := Lib.hid hs; have HE := Lib.hid hE; have HZ := Lib.hid hz; have HM := Lib.hid hm
  clear hs hE hz hm
  go_enter Tryz.func60, Tryz.ntmps60
  cases h1 : inB a 1 99
  · obtain rfl : false = z := (feat_1 h1).symm.trans HZ.out
    go_wp2_with fail
    refine (in_is _ _ _ false _ h1).mono ?_
    rintro e9 w9 ⟨rfl, rfl⟩
    go_wp2
    go_ret
    exact ⟨rfl, HV.out.1⟩
  cases h2 : inB r 0 9
  · obtain rfl : false = z := (feat_2 h2).symm.trans HZ.out
    go_wp2_with fail
    refine (in_is _ _ _ true _ h1).mono ?_
    rintro e9 w9 ⟨rfl, rfl⟩
    go_wp2_with fail
    refine (in_is _ _ _ false _ h2).mono ?_
    rintro e9 w9 ⟨rfl, rfl⟩
    go_wp2
    go_ret
    exact ⟨rfl, HV.out.1⟩
  obtain ⟨n, hn⟩ : ∃ n, nameV s = n := ⟨_, rfl⟩
  obtain ⟨m, hm⟩ : ∃ m, decide (s.size = 0) = m := ⟨_, rfl⟩
  have he := empty_is s hm
  by_cases hbad : m = false ∧ n = false
  · obtain ⟨rfl, rfl⟩ := hbad
    obtain rfl : false = z := (feat_3 (of_decide_eq_false hm) hn).symm.trans HZ.out
    clear hm
    go_wp2_with fail
    refine (in_is _ _ _ true _ h1).mono ?_
    rintro e9 w9 ⟨rfl, rfl⟩
    go_wp2_with fail
    refine (in_is _ _ _ true _ h2).mono ?_
    rintro e9 w9 ⟨rfl, rfl⟩
    go_wp2_with fail
    refine (isName_is s false _ HM.out hn).mono ?_
    rintro e9 w9 ⟨rfl, hb9⟩
    have HV := Lib.hid (HV.out.next hb9)
    clear hb9
    obtain ⟨k0, k1, k2, k3, k4⟩ := HV.out.c50
    go_wp2
    go_ret
    exact ⟨rfl, HV.out.1⟩
  have HX : Hid (shapeV k ps = z) := Lib.hid (by
    rw [← feat_4 (s := s) h1 h2 ?_]; exact HZ.out
    cases m
    · cases n
      · exact absurd ⟨rfl, rfl⟩ hbad
      · exact .inr hn
    · exact .inl (of_decide_eq_true hm))
  clear HZ
  cases m
  · cases n
    · exact absurd ⟨rfl, rfl⟩ hbad
    clear hm hbad
    by_cases e1 : k = 1
    · subst e1
      rw [shape_1] at HX
      go_wp2_with fail
      refine (in_is _ _ _ true _ h1).mono ?_
      rintro e9 w9 ⟨rfl, rfl⟩
      go_wp2_with fail
      refine (in_is _ _ _ true _ h2).mono ?_
      rintro e9 w9 ⟨rfl, rfl⟩
      go_wp2_with fail
      refine (isName_is s true _ HM.out hn).mono ?_
      rintro e9 w9 ⟨rfl, hb9⟩
      have HV := Lib.hid (HV.out.next hb9)
      clear hb9
      obtain ⟨k0, k1, k2, k3, k4⟩ := HV.out.c50
      go_wp2_with fail
      refine (variantOf_point a r s A ps.length c _).mono ?_
      rintro e9 w9 ⟨rfl, hb9⟩
      have HV := Lib.hid (HV.out.next hb9)
      clear hb9
      obtain ⟨k0, k1, k2, k3, k4⟩ := HV.out.c50
      go_wp2_with fail
      refine (pointValid_is A c ps z _ ((HS.out.below HV.out.1).mono HV.out.1.size) HX.out).mono ?_
      rintro e9 w9 ⟨rfl, hb9⟩
      have HV := Lib.hid (HV.out.next hb9)
      clear hb9
      obtain ⟨k0, k1, k2, k3, k4⟩ := HV.out.c50
      go_wp2
      go_ret
      exact ⟨rfl, HV.out.1⟩
    by_cases e2 : k = 2
    · subst e2
      rw [shape_2] at HX
      go_wp2_with fail
      refine (in_is _ _ _ true _ h1).mono ?_
      rintro e9 w9 ⟨rfl, rfl⟩
      go_wp2_with fail
      refine (in_is _ _ _ true _ h2).mono ?_
      rintro e9 w9 ⟨rfl, rfl⟩
      go_wp2_with fail
      refine (isName_is s true _ HM.out hn).mono ?_
      rintro e9 w9 ⟨rfl, hb9⟩
      have HV := Lib.hid (HV.out.next hb9)
      clear hb9
      obtain ⟨k0, k1, k2, k3, k4⟩ := HV.out.c50
      go_wp2_with fail
      refine (variantOf_line a r s A ps.length c _).mono ?_
      rintro e9 w9 ⟨rfl, hb9⟩
      have HV := Lib.hid (HV.out.next hb9)
      clear hb9
      obtain ⟨k0, k1, k2, k3, k4⟩ := HV.out.c50
      go_wp2_with fail
      refine (lineValid_is A c ps z _ ((HS.out.below HV.out.1).mono HV.out.1.size) hl HX.out).mono ?_
      rintro e9 w9 ⟨rfl, hb9⟩
      have HV := Lib.hid (HV.out.next hb9)
      clear hb9
      obtain ⟨k0, k1, k2, k3, k4⟩ := HV.out.c50
      go_wp2
      go_ret
      exact ⟨rfl, HV.out.1⟩
    by_cases e3 : k = 3
    · subst e3
      rw [shape_3] at HX
      go_wp2_with fail
      refine (in_is _ _ _ true _ h1).mono ?_
      rintro e9 w9 ⟨rfl, rfl⟩
      go_wp2_with fail
      refine (in_is _ _ _ true _ h2).mono ?_
      rintro e9 w9 ⟨rfl, rfl⟩
      go_wp2_with fail
      refine (isName_is s true _ HM.out hn).mono ?_
      rintro e9 w9 ⟨rfl, hb9⟩
      have HV := Lib.hid (HV.out.next hb9)
      clear hb9
      obtain ⟨k0, k1, k2, k3, k4⟩ := HV.out.c50
      go_wp2_with fail
      refine (variantOf_area a r s A ps.length c _).mono ?_
      rintro e9 w9 ⟨rfl, hb9⟩
      have HV := Lib.hid (HV.out.next hb9)
      clear hb9
      obtain ⟨k0, k1, k2, k3, k4⟩ := HV.out.c50
      go_wp2_with fail
      refine (areaValid_is a0 A c ps z _ (HE.out.all HV.out.1) ((HS.out.below HV.out.1).mono HV.out.1.size) hl hlc hc HX.out).mono ?_
      rintro e9 w9 ⟨rfl, hb9⟩
      have HV := Lib.hid (HV.out.next hb9)
      clear hb9
      obtain ⟨k0, k1, k2, k3, k4⟩ := HV.out.c50
      go_wp2
      go_ret
      exact ⟨rfl, HV.out.1⟩
    rw [shape_0 ps e1 e2 e3] at HX
    go_wp2_with fail
    refine (in_is _ _ _ true _ h1).mono ?_
    rintro e9 w9 ⟨rfl, rfl⟩
    go_wp2_with fail
    refine (in_is _ _ _ true _ h2).mono ?_
    rintro e9 w9 ⟨rfl, rfl⟩
    go_wp2_with fail
    refine (isName_is s true _ HM.out hn).mono ?_
    rintro e9 w9 ⟨rfl, hb9⟩
    have HV := Lib.hid (HV.out.next hb9)
    clear hb9
    obtain ⟨k0, k1, k2, k3, k4⟩ := HV.out.c50
    go_wp2_with fail
    refine (variantOf_no a k r s A ps.length c _ e1 e2 e3).mono ?_
    rintro e9 w9 ⟨rfl, hb9⟩
    have HV := Lib.hid (HV.out.next hb9)
    clear hb9
    obtain ⟨k0, k1, k2, k3, k4⟩ := HV.out.c50
    go_wp2_with fail
    refine (noValid_is z _ HX.out).mono ?_
    rintro e9 w9 ⟨rfl, hb9⟩
    have HV := Lib.hid (HV.out.next hb9)
    clear hb9
    obtain ⟨k0, k1, k2, k3, k4⟩ := HV.out.c50
    go_wp2
    go_ret
    exact ⟨rfl, HV.out.1⟩
  · clear hm hbad
    by_cases e1 : k = 1
    · subst e1
      rw [shape_1] at HX
      go_wp2_with fail
      refine (in_is _ _ _ true _ h1).mono ?_
      rintro e9 w9 ⟨rfl, rfl⟩
      go_wp2_with fail
      refine (in_is _ _ _ true _ h2).mono ?_
      rintro e9 w9 ⟨rfl, rfl⟩
      go_wp2_with fail
      refine (variantOf_point a r s A ps.length c _).mono ?_
      rintro e9 w9 ⟨rfl, hb9⟩
      have HV := Lib.hid (HV.out.next hb9)
      clear hb9
      obtain ⟨k0, k1, k2, k3, k4⟩ := HV.out.c50
      go_wp2_with fail
      refine (pointValid_is A c ps z _ ((HS.out.below HV.out.1).mono HV.out.1.size) HX.out).mono ?_
      rintro e9 w9 ⟨rfl, hb9⟩
      have HV := Lib.hid (HV.out.next hb9)
      clear hb9
      obtain ⟨k0, k1, k2, k3, k4⟩ := HV.out.c50
      go_wp2
      go_ret
      exact ⟨rfl, HV.out.1⟩
    by_cases e2 : k = 2
    · subst e2
      rw [shape_2] at HX
      go_wp2_with fail
      refine (in_is _ _ _ true _ h1).mono ?_
      rintro e9 w9 ⟨rfl, rfl⟩
      go_wp2_with fail
      refine (in_is _ _ _ true _ h2).mono ?_
      rintro e9 w9 ⟨rfl, rfl⟩
      go_wp2_with fail
      refine (variantOf_line a r s A ps.length c _).mono ?_
      rintro e9 w9 ⟨rfl, hb9⟩
      have HV := Lib.hid (HV.out.next hb9)
      clear hb9
      obtain ⟨k0, k1, k2, k3, k4⟩ := HV.out.c50
      go_wp2_with fail
      refine (lineValid_is A c ps z _ ((HS.out.below HV.out.1).mono HV.out.1.size) hl HX.out).mono ?_
      rintro e9 w9 ⟨rfl, hb9⟩
      have HV := Lib.hid (HV.out.next hb9)
      clear hb9
      obtain ⟨k0, k1, k2, k3, k4⟩ := HV.out.c50
      go_wp2
      go_ret
      exact ⟨rfl, HV.out.1⟩
    by_cases e3 : k = 3
    · subst e3
      rw [shape_3] at HX
      go_wp2_with fail
      refine (in_is _ _ _ true _ h1).mono ?_
      rintro e9 w9 ⟨rfl, rfl⟩
      go_wp2_with fail
      refine (in_is _ _ _ true _ h2).mono ?_
      rintro e9 w9 ⟨rfl, rfl⟩
      go_wp2_with fail
      refine (variantOf_area a r s A ps.length c _).mono ?_
      rintro e9 w9 ⟨rfl, hb9⟩
      have HV := Lib.hid (HV.out.next hb9)
      clear hb9
      obtain ⟨k0, k1, k2, k3, k4⟩ := HV.out.c50
      go_wp2_with fail
      refine (areaValid_is a0 A c ps z _ (HE.out.all HV.out.1) ((HS.out.below HV.out.1).mono HV.out.1.size) hl hlc hc HX.out).mono ?_
      rintro e9 w9 ⟨rfl, hb9⟩
      have HV := Lib.hid (HV.out.next hb9)
      clear hb9
      obtain ⟨k0, k1, k2, k3, k4⟩ := HV.out.c50
      go_wp2
      go_ret
      exact ⟨rfl, HV.out.1⟩
    rw [shape_0 ps e1 e2 e3] at HX
    go_wp2_with fail
    refine (in_is _ _ _ true _ h1).mono ?_
    rintro e9 w9 ⟨rfl, rfl⟩
    go_wp2_with fail
    refine (in_is _ _ _ true _ h2).mono ?_
    rintro e9 w9 ⟨rfl, rfl⟩
    go_wp2_with fail
    refine (variantOf_no a k r s A ps.length c _ e1 e2 e3).mono ?_
    rintro e9 w9 ⟨rfl, hb9⟩
    have HV := Lib.hid (HV.out.next hb9)
    clear hb9
    obtain ⟨k0, k1, k2, k3, k4⟩ := HV.out.c50
    go_wp2_with fail
    refine (noValid_is z _ HX.out).mono ?_
    rintro e9 w9 ⟨rfl, hb9⟩
    have HV := Lib.hid (HV.out.next hb9)
    clear hb9
    obtain ⟨k0, k1, k2, k3, k4⟩ := HV.out.c50
    go_wp2
    go_ret
    exact ⟨rfl, HV.out.1⟩
end Go.Proofs.YtbnjaaegbmhopaaGreatDoor
end
section
/- PartsOf and FeaturesMeet of package impl. -/
namespace Go.Proofs.YtbnjaaegbmhopaaGreatDoor
open Go.ChangeShapes Go.WideShapes Go.ChangeAt Go.RowKit
set_option linter.unusedVariables false

theorem maxW_is (a b z : Int) (w : World) (hz : extV true a b = z) :
    Calls Tryz.prog 94 #[.int .i64 a, .int .i64 b] w fun e w' => e = .returned (.int .i64 z) ∧ Below w.heap.size w w' := by
  subst hz
  go_enter Tryz.func94, Tryz.ntmps94
  go_wp2_with (go_at_call 128; refine (ext_any _ _ b _ _ (by simp [go_sem])).mono ?_; rintro e w' ⟨rfl, rfl⟩)
  go_ret
  exact ⟨rfl, by repeat (first | exact Below.refl _ _ | apply Below.drew | (refine Below.alloc ?_ (Nat.le_refl _) _))⟩
set_option maxRecDepth 100000 in
set_option maxHeartbeats 1000000 in
theorem partsOf_any (a0 : Addr) (a k r : Int) (s : ByteArray) (A : Option Addr) (c : Nat) (ps : List (Int × Int)) (w : World) (hE : ErrAt a0 w) (hs : SeesE 2 encPoint w w.heap.size A ps) (hl : ps.length ≤ 274877906944) (hlc : ps.length ≤ c) (hc : (c : Int) ≤ 9223372036854775807) (hm : s.size ≤ maxLen) :
    Calls Tryz.prog 28 #[FtV a k r s A ps.length c] w (GivesE 4 encSegment 78 (partsV (a, k, r, s, ps)) w) := by
  have HV := Lib.hid (Vars.of1 w (FtC a k r s A ps.length c) 41)
  have HS := Lib.hid ((hs.below HV.out.1).mono HV.out.1.size)
  have HE := Lib.hid (hE.all HV.out.1)
  clear hs hE
  go_enter Tryz.func28, Tryz.ntmps28
  cases hq : featV (a, k, r, s, ps)
  · have HP := Lib.hid (parts_no hq)
    go_wp2_with fail
    refine (isFeature_is a0 a k r s A c ps _ _ HE.out HS.out hl hlc hc hm hq).mono ?_
    rintro e w1 ⟨rfl, hb1⟩
    have HV := Lib.hid (HV.out.next hb1)
    clear hb1
    go_wp2
    go_ret
    exact ⟨_, _, [], Lib.hid HP.out.symm, rfl, (OwnE.lit w1 w1.heap.size 78 (Nat.le_refl _)).mono HV.out.1.size, HV.out.1.alloc HV.out.1.size _⟩
  · by_cases e2 : k = 2
    · subst e2
      have HP := Lib.hid (parts_2 hq)
      go_wp2_with fail
      refine (isFeature_is a0 a 2 r s A c ps _ _ HE.out HS.out hl hlc hc hm hq).mono ?_
      rintro e w1 ⟨rfl, hb1⟩
      have HS1 := Lib.hid (HS.out.belowAll hb1)
      have HV := Lib.hid (HV.out.next hb1)
      clear hb1
      obtain ⟨k0, k1, k2, k3, k4⟩ := HV.out.c50
      go_wp2_with fail
      refine (segmentsOf_any A c ps _ HS1.out (by omega)).mono ?_
      rintro e w2 ⟨A2, c2, L, hL, rfl, ho2, hb2⟩
      have HO := Lib.hid (ho2.mono HV.out.1.size)
      have HV := Lib.hid (HV.out.next hb2)
      clear ho2 hb2
      go_wp2
      go_ret
      exact ⟨A2, c2, L, Lib.hid (by rw [hL.out, HP.out]), rfl, HO.out, HV.out.1⟩
    by_cases e3 : k = 3
    · subst e3
      have HP := Lib.hid (parts_3 hq)
      go_wp2_with fail
      refine (isFeature_is a0 a 3 r s A c ps _ _ HE.out HS.out hl hlc hc hm hq).mono ?_
      rintro e w1 ⟨rfl, hb1⟩
      have HS1 := Lib.hid (HS.out.belowAll hb1)
      have HE1 := Lib.hid (HE.out.all hb1)
      have HV := Lib.hid (HV.out.next hb1)
      clear hb1
      obtain ⟨k0, k1, k2, k3, k4⟩ := HV.out.c50
      go_wp2_with fail
      refine (ringSegments_any a0 A c ps _ HE1.out HS1.out hl hlc hc).mono ?_
      rintro e w2 ⟨A2, c2, L, hL, rfl, ho2, hb2⟩
      have HO := Lib.hid (ho2.mono HV.out.1.size)
      have HV := Lib.hid (HV.out.next hb2)
      clear ho2 hb2
      go_wp2
      go_ret
      exact ⟨A2, c2, L, Lib.hid (by rw [hL.out, HP.out]), rfl, HO.out, HV.out.1⟩
    have HP := Lib.hid (parts_0 (a := a) (r := r) (s := s) (ps := ps) e2 e3)
    go_wp2_with fail
    refine (isFeature_is a0 a k r s A c ps _ _ HE.out HS.out hl hlc hc hm hq).mono ?_
    rintro e w1 ⟨rfl, hb1⟩
    have HV := Lib.hid (HV.out.next hb1)
    clear hb1
    obtain ⟨k0, k1, k2, k3, k4⟩ := HV.out.c50
    go_wp2
    go_ret
    exact ⟨_, _, [], Lib.hid HP.out.symm, rfl, (OwnE.lit w1 w1.heap.size 78 (Nat.le_refl _)).mono HV.out.1.size, HV.out.1.alloc HV.out.1.size _⟩
theorem mxS_st {n : Int} {s : Sg} {T : List Sg} {j : Nat} {x : Sg} (hx : T[j]? = some x) : extV true (mxS n s (T.take j)) (howS s x) = mxS n s (T.take (j + 1)) := by
  rw [List.take_add_one, hx]; exact (mxS_snoc _ _ _ _).symm
theorem mtV_st {S T : List Sg} {i : Nat} {u : Sg} (hu : S[i]? = some u) : mxS (mtV (S.take i) T) u T = mtV (S.take (i + 1)) T := by
  rw [List.take_add_one, hu]; exact (mtV_snoc _ _ _).symm
set_option maxRecDepth 100000 in
set_option maxHeartbeats 4000000 in
theorem greatest_is (A A' : Option Addr) (c c' : Nat) (L L' : List Sg) (z : Int) (w : World) (hs : SeesE 4 encSegment w w.heap.size A L) (hs' : SeesE 4 encSegment w w.heap.size A' L') (hl : L.length ≤ 1000) (hl' : L'.length ≤ 1000) (hz : mtV L L' = z) :
    Calls Tryz.prog 56 #[.slice A L.length c, .slice A' L'.length c'] w fun e w' => e = .returned (.int .i64 z) ∧ Below w.heap.size w w' := by
  have HS := Lib.hid hs; have HS' := Lib.hid hs'; have HZ := Lib.hid hz
  clear hs hs' hz
  go_enter Tryz.func56, Tryz.ntmps56
  go_wp2
  go_loopw [5, 12] (fun n i wr => ∃ j : Nat, j ≤ L.length ∧ n = .int .i64 (mtV (L.take j) L') ∧ i = .int .i64 j ∧ Hid (Below w.heap.size w wr)) (fun _ i _ => L.length - (intOf i).toNat)
  case atStart => exact ⟨0, Nat.zero_le _, rfl, rfl, Lib.hid (Below.refl _ _)⟩
  case round =>
    obtain ⟨i, hi, rfl, rfl, HB⟩ := hrel
    by_cases hlt : i < L.length
    · have hli : (i : Int) < (L.length : Int) := by omega
      obtain ⟨b, off, u, rfl, hbl, hu, -⟩ := (HS.out.below HB.out).lt hlt
      obtain ⟨k0, k1, k2, k3⟩ := cells4 (HS.out.below HB.out) hu
      obtain ⟨N, hN⟩ : ∃ N, mtV (L.take i) L' = N := ⟨_, rfl⟩
      have HT : Hid (mxS N u L' = mtV (L.take (i + 1)) L') := Lib.hid (by rw [← hN]; exact mtV_st hu)
      rw [hN]
      have HB1 := Lib.hid (HB.out.alloc HB.out.size (.cells (sC u) 78))
      have HU := Lib.hid (OneV.new (m := 0) wr (Nat.zero_le _) (sC u) 78)
      clear hu hN
      go_wp2
      go_loopw [5, 18] (fun n k wx => ∃ j : Nat, j ≤ L'.length ∧ n = .int .i64 (mxS N u (L'.take j)) ∧ k = .int .i64 j ∧ Hid (OneV 0 wx wr.heap.size (sC u)) ∧ Hid (Below w.heap.size w wx)) (fun _ k _ => L'.length - (intOf k).toNat)
      case atStart => exact ⟨0, Nat.zero_le _, rfl, rfl, HU, HB1⟩
      case round =>
        obtain ⟨j, hj, rfl, rfl, HU2, HB2⟩ := hrel
        by_cases hlj : j < L'.length
        · have hlj' : (j : Int) < (L'.length : Int) := by omega
          obtain ⟨b', off', v, rfl, hbl', hv, -⟩ := (HS'.out.below HB2.out).lt hlj
          obtain ⟨k4, k5, k6, k7⟩ := cells4 (HS'.out.below HB2.out) hv
          obtain ⟨M, hM⟩ : ∃ M, mxS N u (L'.take j) = M := ⟨_, rfl⟩
          obtain ⟨m, hm⟩ : ∃ m, howS u v = m := ⟨_, rfl⟩
          have HX : Hid (extV true M m = mxS N u (L'.take (j + 1))) := Lib.hid (by rw [← hM, ← hm]; exact mxS_st hv)
          rw [hM]
          obtain ⟨x, hx⟩ : ∃ x, extV true M m = x := ⟨_, rfl⟩
          rw [hx] at HX
          have HU3 := Lib.hid (HU2.out.al (.cells (sC v) 78))
          have HB3 := Lib.hid (HB2.out.alloc HB2.out.size (.cells (sC v) 78))
          obtain ⟨q0, q1, q2, q3⟩ := HU3.out.c4
          clear hv hM
          go_wp2_with (first
            | (go_at_call 95; refine (howS_is u v _ _ hm).mono ?_; rintro e w9 ⟨rfl, hb9⟩; have HB9 := Lib.hid (HB3.out.trans (hb9.mono HB3.out.size)); have HU9 := Lib.hid (HU3.out.next hb9))
            | (go_at_call 94; refine (maxW_is M m x _ hx).mono ?_; rintro e w8 ⟨rfl, hb8⟩; have HB8 := Lib.hid (HB9.out.trans (hb8.mono HB9.out.size)); have HU8 := Lib.hid (HU9.out.next hb8)) | fail)
          go_roundw
          case rel => exact ⟨j + 1, by omega, by rw [← HX.out], by go_num, HU8, HB8⟩
          case measure => simp [intOf]; omega
        · obtain rfl : j = L'.length := by omega
          rw [List.take_length]
          go_wp2
          go_roundw
          case rel => exact ⟨i + 1, by omega, by rw [← HT.out], by go_num, HB2⟩
          case measure => simp [intOf]; omega
    · obtain rfl : i = L.length := by omega
      rw [List.take_length]
      go_wp2
      go_ret
      exact ⟨by rw [← HZ.out]; rfl, HB.out⟩
set_option maxRecDepth 100000 in
set_option maxHeartbeats 4000000 in
theorem featuresMeet_is (a0 : Addr) (a k r : Int) (s : ByteArray) (A : Option Addr) (c : Nat) (ps : List (Int × Int)) (a' k' r' : Int) (s' : ByteArray) (A' : Option Addr) (c' : Nat) (ps' : List (Int × Int)) (z : Int) (w : World) (hE : ErrAt a0 w)
    (hs : SeesE 2 encPoint w w.heap.size A ps) (hl : ps.length ≤ 274877906944) (hlc : ps.length ≤ c) (hc : (c : Int) ≤ 9223372036854775807) (hm : s.size ≤ maxLen)
    (hs' : SeesE 2 encPoint w w.heap.size A' ps') (hl' : ps'.length ≤ 274877906944) (hlc' : ps'.length ≤ c') (hc' : (c' : Int) ≤ 9223372036854775807) (hm' : s'.size ≤ maxLen) (hz : meetF (a, k, r, s, ps) (a', k', r', s', ps') = z) :
    Calls Tryz.prog 19 #[FtV a k r s A ps.length c, FtV a' k' r' s' A' ps'.length c'] w fun e w' => e = .returned (.int .i64 z) ∧ Below w.heap.size w w' := by
  have HV := Lib.hid ((Vars.of2 w (FtC a k r s A ps.length c) (FtC a' k' r' s' A' ps'.length c') 41 41).drew)
  have HQ : Hid (∀ W, Vars w W [FtC a k r s A ps.length c, FtC a' k' r' s' A' ps'.length c'] → (W.cell? ⟨w.heap.size, 0, none⟩ = some (.int .i64 a) ∧ W.cell? ⟨w.heap.size, 1, none⟩ = some (.int .i64 k) ∧ W.cell? ⟨w.heap.size, 2, none⟩ = some (.int .i64 r) ∧ W.cell? ⟨w.heap.size, 3, none⟩ = some (.string s) ∧ W.cell? ⟨w.heap.size, 4, none⟩ = some (.slice A ps.length c)) ∧
      (W.cell? ⟨w.heap.size + 1, 0, none⟩ = some (.int .i64 a') ∧ W.cell? ⟨w.heap.size + 1, 1, none⟩ = some (.int .i64 k') ∧ W.cell? ⟨w.heap.size + 1, 2, none⟩ = some (.int .i64 r') ∧ W.cell? ⟨w.heap.size + 1, 3, none⟩ = some (.string s') ∧ W.cell? ⟨w.heap.size + 1, 4, none⟩ = some (.slice A' ps'.length c'))) := Lib.hid fun W hW => ⟨hW.c50, hW.cell _ 1 0 rfl rfl rfl, hW.cell _ 1 1 rfl rfl rfl, hW.cell _ 1 2 rfl rfl rfl, hW.cell _ 1 3 rfl rfl rfl, hW.cell _ 1 4 rfl rfl rfl⟩
  have HS := Lib.hid ((hs.below HV.out.1).mono HV.out.1.size)
  have HS' := Lib.hid ((hs'.below HV.out.1).mono HV.out.1.size)
  have HE := Lib.hid (hE.all HV.out.1)
  have HZ := Lib.hid hz
  have HQ0 := Lib.hid (HQ.out _ (Vars.of2 w (FtC a k r s A ps.length c) (FtC a' k' r' s' A' ps'.length c') 41 41))
  have HQd := Lib.hid (HQ.out _ HV.out)
  clear hs hs' hE hz
  go_enter Tryz.func19, Tryz.ntmps19
  go_upto_region 1 with fail
  go_region_held3 (fun w' => (w'.cell? ⟨w.heap.size, 0, none⟩ = some (.int .i64 a) ∧ w'.cell? ⟨w.heap.size, 1, none⟩ = some (.int .i64 k) ∧ w'.cell? ⟨w.heap.size, 2, none⟩ = some (.int .i64 r) ∧ w'.cell? ⟨w.heap.size, 3, none⟩ = some (.string s) ∧ w'.cell? ⟨w.heap.size, 4, none⟩ = some (.slice A ps.length c)) ∧
      (w'.cell? ⟨w.heap.size + 1, 0, none⟩ = some (.int .i64 a') ∧ w'.cell? ⟨w.heap.size + 1, 1, none⟩ = some (.int .i64 k') ∧ w'.cell? ⟨w.heap.size + 1, 2, none⟩ = some (.int .i64 r') ∧ w'.cell? ⟨w.heap.size + 1, 3, none⟩ = some (.string s') ∧ w'.cell? ⟨w.heap.size + 1, 4, none⟩ = some (.slice A' ps'.length c')))
    (first | with_reducible exact HQ0.out | with_reducible exact HQd.out | with_reducible exact hQ1.out | with_reducible exact hQ2.out | with_reducible exact hQ3.out) (first
    | (go_at_call 56; (with_reducible refine (greatest_is A1 A2 c1 c2 L1 L2 z _ (HO1.out.sees elSegment) (HO2.out.sees elSegment) H1 H2 HZ2.out).mono ?_); rintro e w3 ⟨rfl, hb3⟩; have HV3 := Lib.hid (HV2.out.next hb3); have hQ3 := Lib.hid (HQ.out _ HV3.out))
    | (go_at_call 28; (with_reducible refine (partsOf_any a0 a' k' r' s' A' c' ps' _ HE1.out HS1.out hl' hlc' hc' hm').mono ?_); rintro e w2 ⟨A2, c2, L2, hL2, rfl, ho2, hb2⟩; have HV2 := Lib.hid (HV1.out.next hb2); have HO1 := Lib.hid (HO1.out.belowAll hb2); have HO2 := Lib.hid ho2; have hQ2 := Lib.hid (HQ.out _ HV2.out); have H2 : L2.length ≤ 1000 := (by rw [hL2.out]; exact Nat.le_trans (parts_len _) (by decide)); have HZ2 : Hid (mtV L1 L2 = z) := Lib.hid (by rw [hL1.out, hL2.out]; exact HZ.out))
    | (go_at_call 28; (with_reducible refine (partsOf_any a0 a k r s A c ps _ HE.out HS.out hl hlc hc hm).mono ?_); rintro e w1 ⟨A1, c1, L1, hL1, rfl, ho1, hb1⟩; have HV1 := Lib.hid (HV.out.next hb1); have HS1 := Lib.hid (HS'.out.belowAll hb1); have HE1 := Lib.hid (HE.out.all hb1); have HO1 := Lib.hid ho1; have hQ1 := Lib.hid (HQ.out _ HV1.out); have H1 : L1.length ≤ 1000 := (by rw [hL1.out]; exact Nat.le_trans (parts_len _) (by decide)))
    | fail)
  all_goals
    go_wp2
    go_ret
    exact ⟨rfl, HV3.out.1⟩
end Go.Proofs.YtbnjaaegbmhopaaGreatDoor
end
section
/- Features: IsSource of package impl. -/
namespace Go.Proofs.YtbnjaaegbmhopaaGreatDoor
open Go.ChangeShapes Go.WideShapes Go.ChangeAt Go.RowKit
set_option linter.unusedVariables false

def isSrcIT : List (Nat × Nat × Nat) := [(0, 16, 16), (1, 17, 32768), (2, 18, 65536), (6, 19, 131072), (8, 20, 262152), (24, 21, 786432), (40, 22, 1310720), (64, 23, 2097153), (64, 24, 2097160), (320, 25, 10485760), (704, 26, 23068672), (1088, 27, 35651584), (2112, 28, 69206016), (64, 29, 2097168), (8256, 30, 270532608), (20544, 31, 673185792), (32840, 32, 1076101120), (65544, 33, 2147745792)]
def isSrcIS : List (Nat × Bool) := [(0, true), (1, false), (2, true), (3, true), (4, true), (5, true), (6, true), (7, true), (8, true), (9, true), (10, true), (11, true), (12, true), (13, true), (14, true), (15, true), (16, true), (17, true)]
set_option maxRecDepth 100000 in
set_option maxHeartbeats 40000000 in
theorem isSource_is (a0 : Addr) (A : Option Addr) (c : Nat) (l : List Feat) (w : World) (hE : ErrAt a0 w) (hs : SeesF w w.heap.size A l) (hl : l.length ≤ 1099511627776) (hp : SmallF l) (z : Bool) (hz : srcV l = z) :
    Calls Tryz.prog 24 #[.slice A l.length c] w fun e w' => e = .returned (.bool z) ∧ Below w.heap.size w w' := by
  have HS := Lib.hid hs; clear hs
  have HE := Lib.hid hE; clear hE
  have HZ := Lib.hid hz; clear hz
  have HPs := Lib.hid hp; clear hp
  go_enter Tryz.func24, Tryz.ntmps24
  by_cases h16 : 16 < l.length
  · have h16' : (16 : Int) < (l.length : Int) := by omega
    obtain rfl : false = z := by
      rw [← HZ.out]
      cases hh : srcV l
      · rfl
      · have := src_len hh; omega
    clear h16
    go_wp2
    go_ret
    exact ⟨rfl, Below.refl _ _⟩
  have h16' : ¬ (16 : Int) < (l.length : Int) := by omega
  have HL16 := Lib.hid (show l.length ≤ 16 by omega)
  clear h16
  go_wp2
  go_loopw [10] (fun i wr => ∃ j : Nat, j ≤ l.length ∧ i = .int .i64 j ∧ Hid (SeenUp l j) ∧ Hid (Below w.heap.size w wr)) (fun i _ => l.length - (intOf i).toNat)
  case atStart => exact ⟨0, Nat.zero_le _, rfl, Lib.hid (seen_zero l), Lib.hid (Below.refl _ _)⟩
  case round =>
    obtain ⟨j, hj, rfl, HU, HB⟩ := hrel
    by_cases hlt : j < l.length
    · obtain ⟨⟨a, kd, rk, s, ps⟩, hf⟩ : ∃ f, l[j]? = some f := ⟨_, List.getElem?_eq_getElem hlt⟩
      obtain ⟨b, off, A', c', rfl, hbl, hss, hcap, hcell⟩ := HS.out.at_ hf
      obtain ⟨q0, q1, q2, q3, q4⟩ : _ ∧ _ ∧ _ ∧ _ ∧ _ := ⟨(HB.out.cell (p := ⟨b, off + j * 5, none⟩) hbl).trans hcell.1, (HB.out.cell (p := ⟨b, off + j * 5 + 1, none⟩) hbl).trans hcell.2.1, (HB.out.cell (p := ⟨b, off + j * 5 + 2, none⟩) hbl).trans hcell.2.2.1, (HB.out.cell (p := ⟨b, off + j * 5 + 3, none⟩) hbl).trans hcell.2.2.2.1, (HB.out.cell (p := ⟨b, off + j * 5 + 4, none⟩) hbl).trans hcell.2.2.2.2⟩
      have HSS := Lib.hid hss
      obtain ⟨hcap1, hcap2⟩ := hcap
      obtain ⟨hpl, hsz⟩ := HPs.out j _ hf
      dsimp only at hpl hsz
      have hji : (j : Int) < (l.length : Int) := by omega
      have HV := Lib.hid ((Vars.of1 wr (FtC a kd rk s A' ps.length c') 41).drew)
      have HF := Lib.hid hf
      clear hss hcell hf
      cases hq : featV (a, kd, rk, s, ps)
      · obtain rfl : false = z := (src_no1 HF.out hq).symm.trans HZ.out
        have HQ : Hid (∀ W, Vars wr W [FtC a kd rk s A' ps.length c'] → (W.cell? ⟨wr.heap.size, 0, none⟩ = some (.int .i64 a) ∧ W.cell? ⟨wr.heap.size, 1, none⟩ = some (.int .i64 kd) ∧ W.cell? ⟨wr.heap.size, 2, none⟩ = some (.int .i64 rk) ∧ W.cell? ⟨wr.heap.size, 3, none⟩ = some (.string s) ∧ W.cell? ⟨wr.heap.size, 4, none⟩ = some (.slice A' ps.length c'))) := Lib.hid fun W hW => hW.c50
        go_upto_region 6 with fail
        refine wp_region_held_drew (S := (fun w' => (w'.cell? ⟨wr.heap.size, 0, none⟩ = some (.int .i64 a) ∧ w'.cell? ⟨wr.heap.size, 1, none⟩ = some (.int .i64 kd) ∧ w'.cell? ⟨wr.heap.size, 2, none⟩ = some (.int .i64 rk) ∧ w'.cell? ⟨wr.heap.size, 3, none⟩ = some (.string s) ∧ w'.cell? ⟨wr.heap.size, 4, none⟩ = some (.slice A' ps.length c')))) (by kernel_rfl) (HQ.out _ HV.out) (fun hHeld => ?_)
        refine to_lin (T := isSrcIT) (n := 18) isSrcIS ⟨by kernel_rfl, by kernel_rfl, by kernel_rfl⟩ (by kernel_rfl) (fun hTag => ?_)
        (refine lin_on (v := ?_) rfl (fun _ _ _ h => h) (by rfl) ?_ (by assumption) ?_; rotate_left; (· (intro wq hSw; go_simp; try with_reducible rfl)); try simp only [Act.put, List.setIfInBounds_toArray, List.set_cons_zero, List.set_cons_succ])
        refine lin_call rfl (by rfl) (fun K hK => ?_)
        go_simp
        go_at_call 60
        refine (isFeature_is a0 a kd rk s A' c' ps _ _ (HE.out.all (HB.out.trans (HV.out.1.mono HB.out.size))) ((HSS.out.below (HB.out.trans (HV.out.1.mono HB.out.size))).mono (HB.out.trans (HV.out.1.mono HB.out.size)).size) hpl hcap1 hcap2 hsz hq).mono ?_
        rintro e w9 ⟨rfl, hb9⟩
        have HV := Lib.hid (HV.out.next hb9)
        clear hb9
        go_wp2_with fail
        refine hK.out _ _ ?_ (fun hHeld => ?_)
        · exact HQ.out _ HV.out
        clear hK K
        try simp only [Act.put, List.setIfInBounds_toArray, List.set_cons_zero, List.set_cons_succ]
        iterate 2 (refine lin_on (v := ?_) rfl (fun _ _ _ h => h) (by rfl) ?_ (by assumption) ?_; rotate_left; (· (intro wq hSw; go_simp; try with_reducible rfl)); try simp only [Act.put, List.setIfInBounds_toArray, List.set_cons_zero, List.set_cons_succ])
        iterate 13 (refine lin_off rfl (fun _ _ _ h => h) (by rfl) (by assumption) ?_; try simp only [Act.put, List.setIfInBounds_toArray, List.set_cons_zero, List.set_cons_succ])
        (refine lin_on (v := ?_) rfl (fun _ _ _ h => h) (by rfl) ?_ (by assumption) ?_; rotate_left; (· (intro wq hSw; go_simp; try with_reducible rfl)); try simp only [Act.put, List.setIfInBounds_toArray, List.set_cons_zero, List.set_cons_succ])
        refine lin_done ?_
        go_wp2
        go_ret
        exact ⟨rfl, HB.out.trans (HV.out.1.mono HB.out.size)⟩
      · cases j with
        | zero =>
          have HNx := Lib.hid (seen_step HU.out HF.out hq (fun g h0 => by omega))
          rw [Nat.zero_mul, Nat.add_zero] at q0 q1 q2 q3 q4
          have HQ : Hid (∀ W, Vars wr W [FtC a kd rk s A' ps.length c'] → (W.cell? ⟨wr.heap.size, 0, none⟩ = some (.int .i64 a) ∧ W.cell? ⟨wr.heap.size, 1, none⟩ = some (.int .i64 kd) ∧ W.cell? ⟨wr.heap.size, 2, none⟩ = some (.int .i64 rk) ∧ W.cell? ⟨wr.heap.size, 3, none⟩ = some (.string s) ∧ W.cell? ⟨wr.heap.size, 4, none⟩ = some (.slice A' ps.length c'))) := Lib.hid fun W hW => hW.c50
          go_upto_region 6 with fail
          refine wp_region_held_drew (S := (fun w' => (w'.cell? ⟨wr.heap.size, 0, none⟩ = some (.int .i64 a) ∧ w'.cell? ⟨wr.heap.size, 1, none⟩ = some (.int .i64 kd) ∧ w'.cell? ⟨wr.heap.size, 2, none⟩ = some (.int .i64 rk) ∧ w'.cell? ⟨wr.heap.size, 3, none⟩ = some (.string s) ∧ w'.cell? ⟨wr.heap.size, 4, none⟩ = some (.slice A' ps.length c')))) (by kernel_rfl) (HQ.out _ HV.out) (fun hHeld => ?_)
          refine to_lin (T := isSrcIT) (n := 18) isSrcIS ⟨by kernel_rfl, by kernel_rfl, by kernel_rfl⟩ (by kernel_rfl) (fun hTag => ?_)
          (refine lin_on (v := ?_) rfl (fun _ _ _ h => h) (by rfl) ?_ (by assumption) ?_; rotate_left; (· (intro wq hSw; go_simp; try with_reducible rfl)); try simp only [Act.put, List.setIfInBounds_toArray, List.set_cons_zero, List.set_cons_succ])
          refine lin_call rfl (by rfl) (fun K hK => ?_)
          go_simp
          go_at_call 60
          refine (isFeature_is a0 a kd rk s A' c' ps _ _ (HE.out.all (HB.out.trans (HV.out.1.mono HB.out.size))) ((HSS.out.below (HB.out.trans (HV.out.1.mono HB.out.size))).mono (HB.out.trans (HV.out.1.mono HB.out.size)).size) hpl hcap1 hcap2 hsz hq).mono ?_
          rintro e w9 ⟨rfl, hb9⟩
          have HV := Lib.hid (HV.out.next hb9)
          clear hb9
          go_wp2_with fail
          refine hK.out _ _ ?_ (fun hHeld => ?_)
          · exact HQ.out _ HV.out
          clear hK K
          try simp only [Act.put, List.setIfInBounds_toArray, List.set_cons_zero, List.set_cons_succ]
          iterate 5 (refine lin_on (v := ?_) rfl (fun _ _ _ h => h) (by rfl) ?_ (by assumption) ?_; rotate_left; (· (intro wq hSw; go_simp; try with_reducible rfl)); try simp only [Act.put, List.setIfInBounds_toArray, List.set_cons_zero, List.set_cons_succ])
          iterate 9 (refine lin_off rfl (fun _ _ _ h => h) (by rfl) (by assumption) ?_; try simp only [Act.put, List.setIfInBounds_toArray, List.set_cons_zero, List.set_cons_succ])
          iterate 2 (refine lin_on (v := ?_) rfl (fun _ _ _ h => h) (by rfl) ?_ (by assumption) ?_; rotate_left; (· (intro wq hSw; go_simp; try with_reducible rfl)); try simp only [Act.put, List.setIfInBounds_toArray, List.set_cons_zero, List.set_cons_succ])
          refine lin_done ?_
          go_wp2
          go_roundw
          case rel => exact ⟨0 + 1, by omega, by go_num, HNx, Lib.hid (HB.out.trans (HV.out.1.mono HB.out.size))⟩
          case measure => simp [intOf]; omega
        | succ k =>
          obtain ⟨⟨g0, g1, g2, g3, g4⟩, hg⟩ : ∃ f, l[k]? = some f := ⟨_, List.getElem?_eq_getElem (by omega)⟩
          obtain ⟨b2, off2, -, -, e, hbl2, -, -, hgc, -⟩ := HS.out.at_ hg
          simp only [Option.some.injEq, Addr.mk.injEq, and_true] at e
          obtain ⟨rfl, rfl⟩ := e
          have HG := Lib.hid hg
          have HGC := Lib.hid hgc
          clear hg hgc
          have HQ : Hid (∀ W, Vars wr W [FtC a kd rk s A' ps.length c'] → (W.cell? ⟨wr.heap.size, 0, none⟩ = some (.int .i64 a) ∧ W.cell? ⟨wr.heap.size, 1, none⟩ = some (.int .i64 kd) ∧ W.cell? ⟨wr.heap.size, 2, none⟩ = some (.int .i64 rk) ∧ W.cell? ⟨wr.heap.size, 3, none⟩ = some (.string s) ∧ W.cell? ⟨wr.heap.size, 4, none⟩ = some (.slice A' ps.length c')) ∧ W.cell? ⟨b, off + k * 5, none⟩ = some (.int .i64 g0)) := Lib.hid fun W hW => ⟨hW.c50, (hW.1.cell (p := ⟨b, off + k * 5, none⟩) (Nat.lt_of_lt_of_le hbl HB.out.size)).trans ((HB.out.cell (p := ⟨b, off + k * 5, none⟩) hbl).trans HGC.out)⟩
          have e1 : ((k + 1 : Nat) : Int) = (k : Int) + 1 := by omega
          rw [e1] at hji ⊢
          have hw : IntKind.i64.wrap (k : Int) = k := IntWalk.i64_in _ (by omega)
          have hpos : (0 : Int) < (k : Int) + 1 := by omega
          have hnn : (0 : Int) ≤ (k : Int) + 1 := by omega
          have hkl : (k : Int) < (l.length : Int) := by omega
          by_cases hle : a ≤ g0
          · obtain rfl : false = z := (src_no2 (j := k + 1) (by omega) (by rw [Nat.add_sub_cancel]; exact HG.out) HF.out hle).symm.trans HZ.out
            go_upto_region 6 with fail
            refine wp_region_held_drew (S := (fun w' => (w'.cell? ⟨wr.heap.size, 0, none⟩ = some (.int .i64 a) ∧ w'.cell? ⟨wr.heap.size, 1, none⟩ = some (.int .i64 kd) ∧ w'.cell? ⟨wr.heap.size, 2, none⟩ = some (.int .i64 rk) ∧ w'.cell? ⟨wr.heap.size, 3, none⟩ = some (.string s) ∧ w'.cell? ⟨wr.heap.size, 4, none⟩ = some (.slice A' ps.length c')) ∧ w'.cell? ⟨b, off + k * 5, none⟩ = some (.int .i64 g0))) (by kernel_rfl) (HQ.out _ HV.out) (fun hHeld => ?_)
            refine to_lin (T := isSrcIT) (n := 18) isSrcIS ⟨by kernel_rfl, by kernel_rfl, by kernel_rfl⟩ (by kernel_rfl) (fun hTag => ?_)
            (refine lin_on (v := ?_) rfl (fun _ _ _ h => h) (by rfl) ?_ (by assumption) ?_; rotate_left; (· (intro wq hSw; go_simp; try with_reducible rfl)); try simp only [Act.put, List.setIfInBounds_toArray, List.set_cons_zero, List.set_cons_succ])
            refine lin_call rfl (by rfl) (fun K hK => ?_)
            go_simp
            go_at_call 60
            refine (isFeature_is a0 a kd rk s A' c' ps _ _ (HE.out.all (HB.out.trans (HV.out.1.mono HB.out.size))) ((HSS.out.below (HB.out.trans (HV.out.1.mono HB.out.size))).mono (HB.out.trans (HV.out.1.mono HB.out.size)).size) hpl hcap1 hcap2 hsz hq).mono ?_
            rintro e w9 ⟨rfl, hb9⟩
            have HV := Lib.hid (HV.out.next hb9)
            clear hb9
            go_wp2_with fail
            refine hK.out _ _ ?_ (fun hHeld => ?_)
            · exact HQ.out _ HV.out
            clear hK K
            try simp only [Act.put, List.setIfInBounds_toArray, List.set_cons_zero, List.set_cons_succ]
            iterate 16 (refine lin_on (v := ?_) rfl (fun _ _ _ h => h) (by rfl) ?_ (by assumption) ?_; rotate_left; (· (intro wq hSw; go_simp; try with_reducible rfl)); try simp only [Act.put, List.setIfInBounds_toArray, List.set_cons_zero, List.set_cons_succ])
            refine lin_done ?_
            go_wp2
            go_ret
            exact ⟨rfl, HB.out.trans (HV.out.1.mono HB.out.size)⟩
          · have HNx := Lib.hid (seen_step HU.out HF.out hq (fun g h0 hg => by
              rw [Nat.add_sub_cancel] at hg
              obtain rfl : g = (g0, g1, g2, g3, g4) := Option.some.inj (hg.symm.trans HG.out)
              show g0 < a
              omega))
            go_upto_region 6 with fail
            refine wp_region_held_drew (S := (fun w' => (w'.cell? ⟨wr.heap.size, 0, none⟩ = some (.int .i64 a) ∧ w'.cell? ⟨wr.heap.size, 1, none⟩ = some (.int .i64 kd) ∧ w'.cell? ⟨wr.heap.size, 2, none⟩ = some (.int .i64 rk) ∧ w'.cell? ⟨wr.heap.size, 3, none⟩ = some (.string s) ∧ w'.cell? ⟨wr.heap.size, 4, none⟩ = some (.slice A' ps.length c')) ∧ w'.cell? ⟨b, off + k * 5, none⟩ = some (.int .i64 g0))) (by kernel_rfl) (HQ.out _ HV.out) (fun hHeld => ?_)
            refine to_lin (T := isSrcIT) (n := 18) isSrcIS ⟨by kernel_rfl, by kernel_rfl, by kernel_rfl⟩ (by kernel_rfl) (fun hTag => ?_)
            (refine lin_on (v := ?_) rfl (fun _ _ _ h => h) (by rfl) ?_ (by assumption) ?_; rotate_left; (· (intro wq hSw; go_simp; try with_reducible rfl)); try simp only [Act.put, List.setIfInBounds_toArray, List.set_cons_zero, List.set_cons_succ])
            refine lin_call rfl (by rfl) (fun K hK => ?_)
            go_simp
            go_at_call 60
            refine (isFeature_is a0 a kd rk s A' c' ps _ _ (HE.out.all (HB.out.trans (HV.out.1.mono HB.out.size))) ((HSS.out.below (HB.out.trans (HV.out.1.mono HB.out.size))).mono (HB.out.trans (HV.out.1.mono HB.out.size)).size) hpl hcap1 hcap2 hsz hq).mono ?_
            rintro e w9 ⟨rfl, hb9⟩
            have HV := Lib.hid (HV.out.next hb9)
            clear hb9
            go_wp2_with fail
            refine hK.out _ _ ?_ (fun hHeld => ?_)
            · exact HQ.out _ HV.out
            clear hK K
            try simp only [Act.put, List.setIfInBounds_toArray, List.set_cons_zero, List.set_cons_succ]
            iterate 16 (refine lin_on (v := ?_) rfl (fun _ _ _ h => h) (by rfl) ?_ (by assumption) ?_; rotate_left; (· (intro wq hSw; go_simp; try with_reducible rfl)); try simp only [Act.put, List.setIfInBounds_toArray, List.set_cons_zero, List.set_cons_succ])
            refine lin_done ?_
            go_wp2
            go_roundw
            case rel => exact ⟨(k + 1) + 1, by omega, by go_num, HNx, Lib.hid (HB.out.trans (HV.out.1.mono HB.out.size))⟩
            case measure => simp [intOf]; omega
    · obtain rfl : j = l.length := by omega
      obtain rfl : true = z := by rw [← HZ.out, seen_all HU.out, decide_eq_true HL16.out]
      go_wp2
      go_ret
      exact ⟨rfl, HB.out⟩
end Go.Proofs.YtbnjaaegbmhopaaGreatDoor
end
section
/- fillMatrix of package impl: arrays of arrays by value. -/
namespace Go.Proofs.YtbnjaaegbmhopaaGreatDoor
open Go.ChangeShapes Go.WideShapes Go.ChangeAt Go.RowKit
set_option linter.unusedVariables false

theorem zMat : (Tryz.prog.info? 90).map (fun i => (i.zero, i.size)) = some (some (.agg (Array.replicate 256 (.int .i64 0))), 256) := by kernel_rfl
theorem zPar : (Tryz.prog.info? 133).map (fun i => (i.zero, i.size)) = some (some (.agg (Array.replicate 16 (.slice none 0 0))), 16) := by kernel_rfl
set_option maxRecDepth 100000 in
set_option maxHeartbeats 8000000 in
theorem fillMatrix_any (a0 : Addr) (A : Option Addr) (c : Nat) (l : List Feat) (w : World) (hE : ErrAt a0 w) (hs : SeesF w w.heap.size A l) (hl : l.length ≤ 16) (hp : SmallF l) :
    Calls Tryz.prog 58 #[.slice A l.length c] w fun e w' => ∃ C, e = .returned (.agg C) ∧ MatAt l l.length 0 C ∧ Below w.heap.size w w' := by
  obtain ⟨Z, hZs, hZ1, hZ0, z1, z2⟩ : ∃ Z : Array Value, Z.size = 256 ∧ Z.all (·.oneCell') = true ∧ (∀ i : Nat, i < 256 → ∃ x : Int, Z[i]? = some (.int .i64 x)) ∧ (∀ w, (zeroValue 90).run Tryz.prog w = .ok (.agg Z) w) ∧ (Tryz.prog.info? 90).map (·.size) = some 256 :=
    ⟨Array.replicate 256 (.int .i64 0), by simp, by kernel_rfl, fun i hi => ⟨0, by simp [hi]⟩, (zero_of_info zMat).1, (zero_of_info zMat).2⟩
  obtain ⟨Y, hYs, hY1, y1, y2⟩ : ∃ Z : Array Value, Z.size = 16 ∧ Z.all (·.oneCell') = true ∧ (∀ w, (zeroValue 133).run Tryz.prog w = .ok (.agg Z) w) ∧ (Tryz.prog.info? 133).map (·.size) = some 16 :=
    ⟨Array.replicate 16 (.slice none 0 0), by simp, by kernel_rfl, (zero_of_info zPar).1, (zero_of_info zPar).2⟩
  have s1 : (storeCells ⟨w.heap.size + 1, 0, none⟩ Y.toList).run Tryz.prog ((w.alloc (.cells Z 90)).alloc (.cells Y 133)) = .ok () ((w.alloc (.cells Z 90)).alloc (.cells Y 133)) := by
    have := run_storeCells_new (P := Tryz.prog) (w.alloc (.cells Z 90)) 133 Y Y (by rw [y2, hYs]) rfl hY1
    simpa using this
  have s2 : (storeCells ⟨w.heap.size + 1 + 1, 0, none⟩ Z.toList).run Tryz.prog (((w.alloc (.cells Z 90)).alloc (.cells Y 133)).alloc (.cells Z 90)) = .ok () (((w.alloc (.cells Z 90)).alloc (.cells Y 133)).alloc (.cells Z 90)) := by
    have := run_storeCells_new (P := Tryz.prog) ((w.alloc (.cells Z 90)).alloc (.cells Y 133)) 90 Z Z (by rw [z2, hZs]) rfl hZ1
    simpa using this
  have HV := Lib.hid (Vars.of3 w Z Y Z 90 133 90)
  have HS := Lib.hid hs; have HE := Lib.hid hE; have HP := Lib.hid hp
  have HZ0 := Lib.hid (MatAt.zero (l := l) hZs hZ0)
  have HY0 := Lib.hid (PartsAt.zero (l := l) (w := (((w.alloc (.cells Z 90)).alloc (.cells Y 133)).alloc (.cells Z 90))) (lo := w.heap.size + 3) hYs)
  have HZs := Lib.hid hZs; have HZ2 := Lib.hid z2
  clear hs hE hp hZ0 hZ1 hY1 y2 z2
  go_enter Tryz.func58, Tryz.ntmps58
  go_wp2
  clear s1 s2 z1 y1 hYs hZs
  go_loopw [12] (fun i wr => ∃ (j : Nat) (Pc Mc : Array Value), j ≤ l.length ∧ i = .int .i64 j ∧ Hid (Vars w wr [Z, Pc, Mc]) ∧ Hid (PartsAt l wr (w.heap.size + 3) j Pc) ∧ Hid (MatAt l j 0 Mc)) (fun i _ => l.length - (intOf i).toNat)
  case atStart => exact ⟨0, Y, Z, Nat.zero_le _, rfl, HV, HY0, HZ0⟩
  case round =>
    obtain ⟨j, Pc, Mc, hj, rfl, HV, HPt, HMt⟩ := hrel
    by_cases hlt : j < l.length
    · have hlt' : (j : Int) < (l.length : Int) := by omega
      have hj16 : j < 16 := by omega
      have hj16' : (j : Int) < 16 := by omega
      obtain ⟨⟨fa, fk, fr, fs, fp⟩, hf⟩ : ∃ f, l[j]? = some f := ⟨_, List.getElem?_eq_getElem hlt⟩
      obtain ⟨b, off, A', c', rfl, hbl, hss, hcap, hcell⟩ := HS.out.at_ hf
      have HB := Lib.hid HV.out.1
      obtain ⟨q0, q1, q2, q3, q4⟩ : _ ∧ _ ∧ _ ∧ _ ∧ _ := ⟨(HB.out.cell (p := ⟨b, off + j * 5, none⟩) hbl).trans hcell.1, (HB.out.cell (p := ⟨b, off + j * 5 + 1, none⟩) hbl).trans hcell.2.1, (HB.out.cell (p := ⟨b, off + j * 5 + 2, none⟩) hbl).trans hcell.2.2.1, (HB.out.cell (p := ⟨b, off + j * 5 + 3, none⟩) hbl).trans hcell.2.2.2.1, (HB.out.cell (p := ⟨b, off + j * 5 + 4, none⟩) hbl).trans hcell.2.2.2.2⟩
      obtain ⟨hpl, hsz⟩ := HP.out j _ hf
      dsimp only at hpl hsz
      obtain ⟨hcap1, hcap2⟩ := hcap
      have HF := Lib.hid hf
      have HVa := Lib.hid (HV.out.al (.cells (FtC fa fk fr fs A' fp.length c') 41))
      have HSS := Lib.hid ((hss.below HVa.out.1).mono HVa.out.1.size)
      have HEa := Lib.hid (HE.out.all HVa.out.1)
      have HPa := Lib.hid (HPt.out.all (Below.alloc (Below.refl _ _) (Nat.le_refl _) (.cells (FtC fa fk fr fs A' fp.length c') 41)))
      obtain ⟨uo, huo⟩ := HPt.out.has hj16
      have HUO := Lib.hid huo
      clear hss hcell hf huo
      go_wp2_with fail
      refine (partsOf_any a0 fa fk fr fs A' c' fp _ HEa.out HSS.out hpl hcap1 hcap2 hsz).mono ?_
      rintro e w1 ⟨A1, c1, L, hL, rfl, ho1, hb1⟩
      have HV1 := Lib.hid (HVa.out.next hb1)
      have HP1 := Lib.hid (HPa.out.all hb1)
      have HO1 := Lib.hid (ho1.mono (C := w.heap.size + 3) HVa.out.more3)
      have kp : w1.cell? ⟨w.heap.size + 1, j, none⟩ = some uo := HV1.out.cell _ 1 j rfl rfl HUO.out
      have fz : w1.frozen? ⟨w.heap.size + 1, j, none⟩ = false := HV1.out.frozen _ 1 j rfl rfl
      have HV2 := Lib.hid (HV1.out.setAt (w.heap.size + 1) 1 j rfl rfl (.slice A1 L.length c1))
      have HP2 := Lib.hid ((HP1.out.low (b := w.heap.size + 1) (i := j) (by omega) (.slice A1 L.length c1)).put hj16 (HO1.out.setLow (b := w.heap.size + 1) (i := j) (by omega) (.slice A1 L.length c1)) (fun f hf => by rw [hL.out]; rw [HF.out] at hf; rw [← Option.some.inj hf]))
      clear HV HVa HV1 HPt HPa HP1 HO1 HSS HEa HB ho1 hb1 q0 q1 q2 q3 q4
      go_wp2
      go_loopw [22] (fun k wx => ∃ (i : Nat) (Mc : Array Value), i ≤ j ∧ k = .int .i64 i ∧ Hid (Vars w wx [Z, Pc.setIfInBounds j (.slice A1 L.length c1), Mc]) ∧ Hid (PartsAt l wx (w.heap.size + 3) (j + 1) (Pc.setIfInBounds j (.slice A1 L.length c1))) ∧ Hid (MatAt l j i Mc)) (fun k _ => j - (intOf k).toNat)
      case atStart => exact ⟨0, Mc, Nat.zero_le _, rfl, HV2, HP2, HMt⟩
      case round =>
        clear kp fz HV2 HP2 HMt
        obtain ⟨i, Mc, hi, rfl, HV2, HP2, HMt⟩ := hrel
        by_cases hlk : i < j
        · have hlk' : (i : Int) < (j : Int) := by omega
          have hi16 : (i : Int) < 16 := by omega
          obtain ⟨⟨ga, gk, gr, gs, gp⟩, hg⟩ : ∃ f, l[i]? = some f := ⟨_, List.getElem?_eq_getElem (by omega)⟩
          obtain ⟨Ai, ci, Li, hLi, hci, hoi⟩ := HP2.out.2 i _ (by omega) hg
          obtain ⟨Aj, cj, Lj, hLj, hcj, hoj⟩ := HP2.out.2 j _ (by omega) HF.out
          obtain ⟨xo, hxo⟩ := HMt.out.2.1 (i * 16 + j) (by omega)
          obtain ⟨m, hm⟩ : ∃ m, mtV Li Lj = m := ⟨_, rfl⟩
          have HM := Lib.hid hm
          have HN := Lib.hid (HMt.out.put hl hlt hlk (v := m) (fun f g hf' hg' => by
            rw [hg] at hf'; rw [HF.out] at hg'
            rw [← Option.some.inj hf', ← Option.some.inj hg', ← hm, hLi, hLj]; rfl))
          have HOi := Lib.hid hoi; have HOj := Lib.hid hoj
          have h1 : Li.length ≤ 1000 := by rw [hLi]; exact Nat.le_trans (parts_len _) (by decide)
          have h2 : Lj.length ≤ 1000 := by rw [hLj]; exact Nat.le_trans (parts_len _) (by decide)
          have HQ : Hid (∀ W, Vars w W [Z, Pc.setIfInBounds j (.slice A1 L.length c1), Mc] → (W.cell? ⟨w.heap.size + 1, i, none⟩ = some (.slice Ai Li.length ci) ∧ W.cell? ⟨w.heap.size + 1, j, none⟩ = some (.slice Aj Lj.length cj)) ∧ (W.cell? ⟨w.heap.size + 1 + 1, i * 16 + j, none⟩ = some (.int .i64 xo) ∧ W.frozen? ⟨w.heap.size + 1 + 1, i * 16 + j, none⟩ = false)) := Lib.hid fun W hW =>
            ⟨⟨hW.cell _ 1 i rfl rfl hci, hW.cell _ 1 j rfl rfl hcj⟩, hW.cell _ 2 _ rfl rfl hxo, hW.frozen _ 2 _ rfl rfl⟩
          have HVd := Lib.hid HV2.out.drew
          have HQ0 := Lib.hid (HQ.out _ HV2.out); have HQd := Lib.hid (HQ.out _ HVd.out)
          have HOid := Lib.hid (HOi.out.drew.sees elSegment); have HOjd := Lib.hid (HOj.out.drew.sees elSegment)
          have HPd := Lib.hid (HP2.out.all (Below.refl _ _).drew)
          have HS2 : Hid (∀ W, Vars w W [Z, Pc.setIfInBounds j (.slice A1 L.length c1), Mc.setIfInBounds (i * 16 + j) (.int .i64 m)] → (W.cell? ⟨w.heap.size + 1, i, none⟩ = some (.slice Ai Li.length ci) ∧ W.cell? ⟨w.heap.size + 1, j, none⟩ = some (.slice Aj Lj.length cj))) := Lib.hid fun W hW => ⟨hW.cell _ 1 i rfl rfl hci, hW.cell _ 1 j rfl rfl hcj⟩
          clear hg hLi hci hoi hLj hcj hoj hxo hm
          go_upto_region 10 with fail
          go_region_held3 (fun w' => w'.cell? ⟨w.heap.size + 1, i, none⟩ = some (.slice Ai Li.length ci) ∧ w'.cell? ⟨w.heap.size + 1, j, none⟩ = some (.slice Aj Lj.length cj))
            (first | with_reducible exact HQ0.out.1 | with_reducible exact HQd.out.1 | with_reducible exact hQ1.out.1 | with_reducible exact hQ2.out) (first
            | (go_at_call 56; (with_reducible refine (greatest_is Ai Aj ci cj Li Lj m _ HOid.out HOjd.out h1 h2 HM.out).mono ?_); rintro e w9 ⟨rfl, hb9⟩; have HV9 := Lib.hid (HVd.out.next hb9); have HP9 := Lib.hid (HPd.out.all hb9); have hQ1 := Lib.hid (HQ.out _ HV9.out); have k9 := hQ1.out.2.1; have f9 := hQ1.out.2.2; have HV3 := Lib.hid (HV9.out.setAt (w.heap.size + 1 + 1) 2 (i * 16 + j) rfl rfl (.int .i64 m)); have HP3 := Lib.hid (HP9.out.low (b := w.heap.size + 1 + 1) (i := i * 16 + j) (by omega) (.int .i64 m)); have hQ2 := Lib.hid (HS2.out _ HV3.out)) | fail)
          all_goals
            go_wp2
            go_roundw
            case rel => exact ⟨i + 1, _, by omega, by go_num, HV3, HP3, HN⟩
            case measure => simp [intOf]; omega
        · obtain rfl : i = j := by omega
          have hlk' : ¬ (i : Int) < (i : Int) := by omega
          go_wp2
          go_roundw
          case rel => exact ⟨i + 1, _, Mc, by omega, by go_num, HV2, HP2, Lib.hid HMt.out.next⟩
          case measure => simp [intOf]; omega
    · obtain rfl : j = l.length := by omega
      have hlt' : ¬ (l.length : Int) < (l.length : Int) := by omega
      obtain ⟨T2, hg2⟩ := HV.out.2.2 2 Mc rfl
      obtain ⟨T0, hg0⟩ := HV.out.2.2 0 Z rfl
      have hMs := HMt.out.1
      have st0 := storeCells_row (P := Tryz.prog) wr (w.heap.size + 0) T0 90 Z Mc hg0 (by rw [HZ2.out, hMs]) (by rw [HZs.out, hMs]) HMt.out.one
      rw [Nat.add_zero] at st0
      have hgr := setRow_block (cells := Mc) hg0
      rw [Nat.add_zero] at hgr
      have HR := Lib.hid hgr
      have HBr := Lib.hid (Below.setRow HV.out.1 (g := w.heap.size) (Nat.le_refl _) Mc)
      have HG2 := Lib.hid hg2
      clear hg0 hg2 hgr
      go_wp2_with fail
      refine wp_load_row 90 _ rfl (w.heap.size + 2) rfl T2 Mc _ _ HG2.out Tryz.underlying90 rfl (by rw [HZ2.out, hMs]) ?_
      go_wp2
      refine bodyPost_ret (v := .agg Mc) (results_cell_row rfl _ _ _ _ Mc _ _ rfl HR.out Tryz.underlying90 rfl (by rw [HZ2.out, hMs])) rfl ?_
      exact ⟨Mc, rfl, HMt.out, HBr.out⟩
/-- append of a meeting as a step of a drawn region: which block it writes. -/
theorem stepMtG (w : World) {o : Oper} {a : Act} {K : Act → World → Prop} {Q : Exit → Act → World → Prop} (s x : Operand)
    (ho : o.op = .call { callee := .builtin .append, args := #[s, x], argTypes := #[47, 47] })
    (base : Nat) (v : Value) (l : List Mt3) (hv : a.eval s = v) (hown : OwnE 3 encMeet w base 93 v l)
    (B : Nat) (A : Option Addr) (m c : Nat) (l2 : List Mt3) (hx : a.eval x = .slice A m c) (hm : m = l2.length) (hs : SeesE 3 encMeet w B A l2) (h63 : l.length + l2.length ≤ 1099511627776) (hbase : base ≤ w.heap.size)
    (h : ∀ A' c' L w', Hid (L = l ++ l2) → L.length ≤ l.length + l2.length → l.length + l2.length ≤ L.length → OwnE 3 encMeet w' base 93 (.slice A' L.length c') L → Below base w w' → Hid (w.grownBy w' v.ownBlock) → Hid ((Value.slice A' L.length c').ownBlock = v.ownBlock ∨ (Value.slice A' L.length c').ownBlock = some w.heap.size) → K (a.put o.dst (.slice A' L.length c')) w') :
    o.wp Tryz.prog a w K Q := by
  obtain ⟨i, hi, hz, h1, h2⟩ := info_parts infoMeet
  obtain ⟨v', w', hrun, q2, q3, q4⟩ := run_appE (P := Tryz.prog) w elMeet 47 o.type 93 i _ 24 Tryz.underlying47 hi hz h1 h2 rfl base v l hown B A m c l2 hm hs h63 (by decide) hbase
  unfold Oper.wp execOp
  simp only [ho, resolve, invoke, builtin, Sem.run_bind, Sem.run_pure, Result.andThen_ok, List.map_toArray, List.map_cons, List.map_nil, hv, hx, hrun]
  obtain ⟨A', c', rfl, _, _⟩ := q2.form
  exact h A' c' _ w' (Lib.hid rfl) (by simp) (by simp) q2 ((Below.refl _ _).grown q3 hbase fun g hg => (World.ownsRow.lt hown g hg).1) (Lib.hid q3) (Lib.hid q4)
theorem OneV.grown {m b : Nat} {w w' : World} {cs : Array Value} {r : Option Nat} (h : OneV m w b cs) (hg : w.grownBy w' r) (hr : ∀ g, r = some g → ¬ g = b) : OneV m w' b cs := by
  obtain ⟨h1, T, h3⟩ := h
  refine ⟨h1, T, (hg.block b (Array.getElem?_eq_some_iff.1 h3).1 ?_).trans h3⟩
  first
    | exact fun e => hr b e rfl
    | exact fun e => hr b e.symm rfl
theorem keepMI {w : World} {p : Addr} {v : Value} (h : w.cell? p = some v) (o : Obj) : (w.alloc o).cell? p = some v :=
  (World.cell?_of_block (Below.heap_alloc _ _ _ (World.block_lt_of_cell? w p h))).trans h
theorem sizeMI (w : World) (o : Obj) : w.heap.size ≤ (w.alloc o).heap.size := by simp
set_option maxRecDepth 100000 in
set_option maxHeartbeats 8000000 in
theorem meetsOf_any (a0 : Addr) (A : Option Addr) (c : Nat) (l : List Feat) (w : World) (hE : ErrAt a0 w) (hs : SeesF w w.heap.size A l) (hl : l.length ≤ 1099511627776) (hp : SmallF l) :
    Calls Tryz.prog 21 #[.slice A l.length c] w (GivesE 3 encMeet 93 (meetsV l) w) := by
  obtain ⟨Z, hZs, z1, z2⟩ : ∃ Z : Array Value, Z.size = 256 ∧ (∀ w, (zeroValue 90).run Tryz.prog w = .ok (.agg Z) w) ∧ (Tryz.prog.info? 90).map (·.size) = some 256 :=
    ⟨Array.replicate 256 (.int .i64 0), by simp, (zero_of_info zMat).1, (zero_of_info zMat).2⟩
  have HB0 := Lib.hid (show Below w.heap.size w (w.alloc (.cells #[] 93)) from (Below.refl _ _).alloc (Nat.le_refl _) _)
  have HO0 := Lib.hid (OwnE.lit (n := 3) (enc := encMeet) w w.heap.size 93 (Nat.le_refl _))
  have HS0 := Lib.hid hs; have HE0 := Lib.hid (hE.all HB0.out); have HP := Lib.hid hp
  have HS1 := Lib.hid (hs.belowAll HB0.out)
  have HZ2 := Lib.hid z2
  clear hs hE hp z2
  go_enter Tryz.func21, Tryz.ntmps21
  cases hz : srcV l
  · have HN := Lib.hid (meets_no hz)
    go_wp2_with fail
    refine (isSource_is a0 A c l _ HE0.out HS1.out hl HP.out _ hz).mono ?_
    rintro e w1 ⟨rfl, hb1⟩
    go_wp2
    go_ret
    exact ⟨_, _, [], Lib.hid HN.out.symm, rfl, HO0.out.belowAll hb1, HB0.out.trans (hb1.mono HB0.out.size)⟩
  have HN := Lib.hid (meets_yes hz)
  have hl16 : l.length ≤ 16 := src_len hz
  have HL16 := Lib.hid hl16
  go_wp2_with fail
  refine (isSource_is a0 A c l _ HE0.out HS1.out hl HP.out _ hz).mono ?_
  rintro e w1 ⟨rfl, hb1⟩
  have HB1 := Lib.hid (HB0.out.trans (hb1.mono HB0.out.size))
  have HO1 := Lib.hid (HO0.out.belowAll hb1)
  have HS2 := Lib.hid (HS1.out.belowAll hb1)
  have HE1 := Lib.hid (HE0.out.all hb1)
  clear hb1 HO0 HS1 HE0 HB0
  go_wp2_with fail
  refine (fillMatrix_any a0 A c l _ HE1.out HS2.out hl16 HP.out).mono ?_
  rintro e w2 ⟨C, rfl, hC, hb2⟩
  have hCs := hC.1
  have s2 : (storeCells ⟨w2.heap.size, 0, none⟩ C.toList).run Tryz.prog (w2.alloc (.cells Z 90)) = .ok () (w2.alloc (.cells C 90)) :=
    run_storeCells_new (P := Tryz.prog) w2 90 Z C (by rw [HZ2.out, hCs]) (by rw [hZs, hCs]) hC.one
  have HC := Lib.hid hC
  have HM := Lib.hid (OneV.new (m := 0) w2 (Nat.zero_le _) C 90)
  have HB2 := Lib.hid ((HB1.out.trans (hb2.mono HB1.out.size)).alloc (Nat.le_trans HB1.out.size hb2.size) (.cells C 90))
  have HO2 := Lib.hid ((HO1.out.belowAll hb2).alloc (.cells C 90))
  have HR0 : Hid (∀ g, (Value.slice (some ⟨w.heap.size, 0, none⟩) ([] : List Mt3).length 0).ownBlock = some g → ¬ g = w2.heap.size) := Lib.hid fun g hg => by
    have := ((HO1.out.belowAll hb2).lt g hg).2
    omega
  clear hC hb2 HB1 HO1 HS2 HE1
  go_wp2
  clear s2 z1 hZs hCs hz hl16
  go_loopw [3, 17] (fun v i wr => ∃ (j : Nat) (A1 : Option Addr) (c1 : Nat) (L : List Mt3), j ≤ l.length ∧ v = .slice A1 L.length c1 ∧ i = .int .i64 j ∧ Hid (L = mAll l j) ∧ Hid (OwnE 3 encMeet wr w.heap.size 93 (.slice A1 L.length c1) L) ∧ Hid (OneV 0 wr w2.heap.size C) ∧ Hid (∀ g, (Value.slice A1 L.length c1).ownBlock = some g → ¬ g = w2.heap.size) ∧ Hid (Below w.heap.size w wr)) (fun _ i _ => l.length - (intOf i).toNat)
  case atStart => exact ⟨0, _, _, [], Nat.zero_le _, rfl, rfl, Lib.hid rfl, HO2, HM, HR0, HB2⟩
  case round =>
    clear HM HB2 HO2 HR0
    obtain ⟨j, A1, c1, L, hj, rfl, rfl, HL, HO, HM, HR, HB⟩ := hrel
    by_cases hlt : j < l.length
    · have hlt' : (j : Int) < (l.length : Int) := by omega
      have hw : IntKind.i64.wrap ((j : Int) + 1) = (j : Int) + 1 := IntWalk.i64_in _ (by have := HL16.out; omega)
      obtain ⟨⟨fa, fk, fr, fs, fp⟩, hf⟩ : ∃ f, l[j]? = some f := ⟨_, List.getElem?_eq_getElem hlt⟩
      have HF := Lib.hid hf
      clear hf
      go_wp2
      go_loopw [3, 6, 7] (fun v k _ wx => ∃ (d : Nat) (A2 : Option Addr) (c2 : Nat) (L2 : List Mt3), d ≤ l.length - (j + 1) ∧ v = .slice A2 L2.length c2 ∧ k = .int .i64 ((j + 1 + d : Nat) : Int) ∧ Hid (L2 = mAll l j ++ mRow l j d) ∧ Hid (OwnE 3 encMeet wx w.heap.size 93 (.slice A2 L2.length c2) L2) ∧ Hid (OneV 0 wx w2.heap.size C) ∧ Hid (∀ g, (Value.slice A2 L2.length c2).ownBlock = some g → ¬ g = w2.heap.size) ∧ Hid (Below w.heap.size w wx)) (fun _ k _ _ => l.length - (intOf k).toNat)
      case atStart => exact ⟨0, A1, c1, L, Nat.zero_le _, rfl, by go_num, Lib.hid (by rw [mRow_zero, List.append_nil]; exact HL.out), HO, HM, HR, HB⟩
      case round =>
        obtain ⟨d, A2, c2, L2, hd, rfl, rfl, HL2, HO2, HM2, HR2, HB2⟩ := hrel
        obtain ⟨k, hk⟩ : ∃ k, j + 1 + d = k := ⟨_, rfl⟩
        have HK := Lib.hid hk
        have hkd : k ≤ l.length := by omega
        have hjk : j < k := by omega
        rw [hk]
        by_cases hlk : k < l.length
        · have hlk' : (k : Int) < (l.length : Int) := by omega
          have hd1 : d + 1 ≤ l.length - (j + 1) := by omega
          have hj16 : (j : Int) < 16 := by have := HL16.out; omega
          have hk16 : (k : Int) < 16 := by have := HL16.out; omega
          obtain ⟨⟨ga, gk, gr, gs, gp⟩, hg⟩ : ∃ f, l[k]? = some f := ⟨_, List.getElem?_eq_getElem hlk⟩
          obtain ⟨b, off, A', c', rfl, hbl, -, -, hcell⟩ := HS0.out.at_ HF.out
          obtain ⟨b2, off2, A'', c'', e, hbl2, -, -, hcell2⟩ := HS0.out.at_ hg
          simp only [Option.some.injEq, Addr.mk.injEq, and_true] at e
          obtain ⟨rfl, rfl⟩ := e
          have HG := Lib.hid hg
          obtain ⟨m, hm⟩ : ∃ m, meetF (fa, fk, fr, fs, fp) (ga, gk, gr, gs, gp) = m := ⟨_, rfl⟩
          have HMm := Lib.hid hm
          have kc := HM2.out.cell (j * 16 + k) (by have := HC.out.2.2 j k _ _ hjk (.inl hlk) HF.out hg; rw [hm] at this; exact this)
          have q0 := (HB2.out.cell (p := ⟨b, off + j * 5, none⟩) hbl).trans hcell.1
          have q1 := (HB2.out.cell (p := ⟨b, off + k * 5, none⟩) hbl).trans hcell2.1
          clear hcell hcell2 hg hm
          by_cases h0 : m = 0
          · subst h0
            have HNx : Hid (L2 = mAll l j ++ mRow l j (d + 1)) := Lib.hid (by rw [HL2.out, mRow_step, HK.out, mOne_no HF.out HG.out HMm.out, List.append_nil])
            go_wp2
            go_roundw
            case rel => exact ⟨d + 1, A2, c2, L2, hd1, rfl, by have := HK.out; go_num, HNx, HO2, HM2, HR2, HB2⟩
            case measure => simp [intOf]; omega
          · have HNx : Hid (∀ L3, L3 = L2 ++ [(fa, ga, m)] → L3 = mAll l j ++ mRow l j (d + 1)) := Lib.hid (fun L3 h => by rw [h, HL2.out, mRow_step, HK.out, mOne_yes HF.out HG.out (by rw [HMm.out]; exact h0), HMm.out, List.append_assoc])
            have hL63 : L2.length + [(fa, ga, m)].length ≤ 1099511627776 := by
              have := mAll_256 (l := l) HL16.out (n := j) (d := d) (by omega) (by omega)
              rw [← HL2.out] at this
              simp; omega
            have hz3 := HB2.out.size
            have HOd := Lib.hid HO2.out.drew
            have HMd := Lib.hid (HM2.out.drew.al (.cells #[.int .i64 fa, .int .i64 ga, .int .i64 m] 93))
            go_upto_region 13 with fail
            go_region_held3 (fun w' => w'.cell? ⟨b, off + j * 5, none⟩ = some (.int .i64 fa) ∧ w'.cell? ⟨b, off + k * 5, none⟩ = some (.int .i64 ga)) (first | exact ⟨q0, q1⟩ | exact ⟨keepMI q0 _, keepMI q1 _⟩ | exact hc4) (first
              | (refine stepMtG _ _ _ (by rfl) w.heap.size _ L2 (by rfl) (HOd.out.alloc _) _ _ 1 _ [(fa, ga, m)] (by rfl) (by rfl) (seesE_new elMeet _ (fa, ga, m) _ _ _ (Nat.lt_succ_self _) rfl) hL63 (Nat.le_trans hz3 (sizeMI _ _)) ?_; intro A4 c4 L4 w4 hL4 h1 h2 ho4 hb4 hg4 hv4; have HM4 := Lib.hid (OneV.grown HMd.out hg4.out HR2.out); have HR4 : Hid (∀ g, (Value.slice A4 L4.length c4).ownBlock = some g → ¬ g = w2.heap.size) := Lib.hid (fun g hg => by rcases hv4.out with h | h; exact HR2.out g (h.symm.trans hg); rw [h] at hg; have h5 := Option.some.inj hg; have h6 := HMd.out.lt; exact fun e => Nat.lt_irrefl _ (Nat.lt_of_lt_of_eq h6 (h5.trans e))); have hc4 := And.intro ((hb4.cell (p := ⟨b, off + j * 5, none⟩) hbl).trans (keepMI q0 _)) ((hb4.cell (p := ⟨b, off + k * 5, none⟩) hbl).trans (keepMI q1 _))) | fail)
            all_goals
              go_wp2
              go_roundw
              case rel => exact ⟨d + 1, A4, c4, L4, hd1, rfl, by have := HK.out; go_num, Lib.hid (HNx.out _ hL4.out), Lib.hid ho4, HM4, HR4, Lib.hid (HB2.out.trans ((((Below.refl _ _).alloc hz3 _).drew).trans hb4))⟩
              case measure => simp [intOf]; omega
        · obtain rfl : k = l.length := by omega
          have hlk' : ¬ (l.length : Int) < (l.length : Int) := by omega
          have HNx : Hid (L2 = mAll l (j + 1)) := Lib.hid (by rw [HL2.out, mAll_step, show d = l.length - (j + 1) by omega])
          clear hk
          go_wp2
          go_roundw
          case rel => exact ⟨j + 1, A2, c2, L2, by omega, rfl, by go_num, HNx, HO2, HM2, HR2, HB2⟩
          case measure => simp [intOf]; omega
    · obtain rfl : j = l.length := by omega
      have hlt' : ¬ (l.length : Int) < (l.length : Int) := by omega
      go_wp2
      go_ret
      exact ⟨A1, c1, L, Lib.hid (by rw [HL.out, HN.out]), rfl, HO.out, HB.out⟩
end Go.Proofs.YtbnjaaegbmhopaaGreatDoor
end
section
/- NoMore of package impl and of the model. -/
namespace Go.Proofs.YtbnjaaegbmhopaaGreatDoor
open Go.ChangeShapes Go.WideShapes Go.ChangeAt Go.RowKit
set_option linter.unusedVariables false

def hasByT : List (Nat × Nat × Nat) := [(0, 5, 4), (1, 6, 16), (0, 7, 2), (6, 8, 64), (10, 9, 160), (24, 10, 256), (32, 11, 516), (96, 12, 1536), (32, 13, 514), (288, 14, 4608), (672, 15, 10752), (1056, 16, 16896), (4095, 4, 32768)]
def hasByS : List (Nat × Bool) := [(0, true), (2, true), (1, false), (3, false), (4, true), (5, true), (6, true), (7, true), (8, true), (9, true), (10, true), (11, true), (12, true)]

theorem pairOf_is (a b c : Int) (w : World) :
    Calls Tryz.prog 98 #[MtV a b c] w fun e w' => e = .returned (PtV a b) ∧ Below w.heap.size w w' := by
  go_enter Tryz.func98, Tryz.ntmps98
  go_wp2
  refine bodyPost_ret (v := PtV a b) (by simp [results, Tryz.results98, go_sem]) rfl ⟨rfl, ?_⟩
  exact ((Below.refl _ _).alloc (Nat.le_refl _) _).alloc (by simp) _
theorem pairEql (a b c d : Int) (w : World) : (binOp .eql 136 (PtV a b) (PtV c d)).run Tryz.prog w = .ok (.bool (decide (a = c) && decide (b = d))) w := by
  have hu := Tryz.underlying136
  have hi := Tryz.underlying3
  rw [run_eql_struct, run_equalIn_agg _ _ _ _ _ (by simp [Program.fieldsOf, hu]) (by kernel_rfl)]
  simp [Program.fieldsOf, hu, go_sem, hi]
  by_cases h : a = c <;> by_cases h' : b = d <;> simp [h, h']
set_option maxRecDepth 100000 in
set_option maxHeartbeats 4000000 in
theorem hasBy_is (a b c d e h : Int) (B : Nat) (w : World) (hB : B < w.heap.size) (h0 : w.cell? ⟨B, 0, none⟩ = some (.int .i64 d)) (h1 : w.cell? ⟨B, 1, none⟩ = some (.int .i64 e)) (h2 : w.cell? ⟨B, 2, none⟩ = some (.int .i64 h)) (z : Bool) (hz : geM (d, e, h) (a, b, c) = z) :
    Calls Tryz.prog 97 #[MtV a b c, .pointer (some ⟨B, 0, none⟩)] w fun e w' => e = .returned (.bool z) ∧ Below w.heap.size w w' := by
  have HB0 := Lib.hid (show Below w.heap.size w (w.alloc (.cells #[.int .i64 a, .int .i64 b, .int .i64 c] 93)) from (Below.refl _ _).alloc (Nat.le_refl _) _)
  have HQ : Hid (∀ W, Below (w.alloc (.cells #[.int .i64 a, .int .i64 b, .int .i64 c] 93)).heap.size (w.alloc (.cells #[.int .i64 a, .int .i64 b, .int .i64 c] 93)) W → (W.cell? ⟨w.heap.size, 0, none⟩ = some (.int .i64 a) ∧ W.cell? ⟨w.heap.size, 1, none⟩ = some (.int .i64 b) ∧ W.cell? ⟨w.heap.size, 2, none⟩ = some (.int .i64 c)) ∧ (W.cell? ⟨B, 0, none⟩ = some (.int .i64 d) ∧ W.cell? ⟨B, 1, none⟩ = some (.int .i64 e) ∧ W.cell? ⟨B, 2, none⟩ = some (.int .i64 h))) := Lib.hid fun W hW => by
    have hs : w.heap.size < (w.alloc (.cells #[.int .i64 a, .int .i64 b, .int .i64 c] 93)).heap.size := by simp
    exact ⟨⟨(hW.cell (p := ⟨w.heap.size, 0, none⟩) hs).trans (by simp [go_sem]), (hW.cell (p := ⟨w.heap.size, 1, none⟩) hs).trans (by simp [go_sem]), (hW.cell (p := ⟨w.heap.size, 2, none⟩) hs).trans (by simp [go_sem])⟩,
      (hW.cell (p := ⟨B, 0, none⟩) (Nat.lt_trans hB hs)).trans ((HB0.out.cell (p := ⟨B, 0, none⟩) hB).trans h0), (hW.cell (p := ⟨B, 1, none⟩) (Nat.lt_trans hB hs)).trans ((HB0.out.cell (p := ⟨B, 1, none⟩) hB).trans h1), (hW.cell (p := ⟨B, 2, none⟩) (Nat.lt_trans hB hs)).trans ((HB0.out.cell (p := ⟨B, 2, none⟩) hB).trans h2)⟩
  have HB := Lib.hid (Below.refl (w.alloc (.cells #[.int .i64 a, .int .i64 b, .int .i64 c] 93)).heap.size (w.alloc (.cells #[.int .i64 a, .int .i64 b, .int .i64 c] 93))).drew
  have HZ := Lib.hid hz
  have hpe := pairEql a b d e
  clear hz h0 h1 h2
  go_enter Tryz.func97, Tryz.ntmps97
  by_cases he : a = d ∧ b = e
  · have hq : (decide (a = d) && decide (b = e)) = true := by simp [he]
    rw [hq] at hpe
    have HC : Hid (decide (h ≤ c) = z) := Lib.hid (by rw [← HZ.out]; simp [geM, he])
    clear hq he HZ
    go_upto_region 1 with fail
    refine wp_region_held_drew (S := (fun w' => (w'.cell? ⟨w.heap.size, 0, none⟩ = some (.int .i64 a) ∧ w'.cell? ⟨w.heap.size, 1, none⟩ = some (.int .i64 b) ∧ w'.cell? ⟨w.heap.size, 2, none⟩ = some (.int .i64 c)) ∧ (w'.cell? ⟨B, 0, none⟩ = some (.int .i64 d) ∧ w'.cell? ⟨B, 1, none⟩ = some (.int .i64 e) ∧ w'.cell? ⟨B, 2, none⟩ = some (.int .i64 h)))) (by kernel_rfl) (HQ.out _ HB.out) (fun hHeld => ?_)
    refine to_lin (T := hasByT) (n := 13) hasByS ⟨by kernel_rfl, by kernel_rfl, by kernel_rfl⟩ (by kernel_rfl) (fun hTag => ?_)
    iterate 2 (refine lin_on (v := ?_) rfl (fun _ _ _ h => h) (by rfl) ?_ (by assumption) ?_; rotate_left; (· (intro wq hSw; go_simp; try with_reducible rfl)); try simp only [Act.put, List.setIfInBounds_toArray, List.set_cons_zero, List.set_cons_succ])
    refine lin_call rfl (by rfl) (fun K hK => ?_)
    go_simp
    go_at_call 98
    refine (pairOf_is a b c _).mono ?_
    rintro e9 w9 ⟨rfl, hb9⟩
    have HB := Lib.hid (HB.out.trans (hb9.mono HB.out.size))
    clear hb9
    go_wp2_with fail
    refine hK.out _ _ ?_ (fun hHeld => ?_)
    · exact HQ.out _ HB.out
    clear hK K
    try simp only [Act.put, List.setIfInBounds_toArray, List.set_cons_zero, List.set_cons_succ]
    refine lin_call rfl (by rfl) (fun K hK => ?_)
    go_simp
    go_at_call 98
    refine (pairOf_is d e h _).mono ?_
    rintro e9 w9 ⟨rfl, hb9⟩
    have HB := Lib.hid (HB.out.trans (hb9.mono HB.out.size))
    clear hb9
    go_wp2_with fail
    refine hK.out _ _ ?_ (fun hHeld => ?_)
    · exact HQ.out _ HB.out
    clear hK K
    try simp only [Act.put, List.setIfInBounds_toArray, List.set_cons_zero, List.set_cons_succ]
    iterate 9 (refine lin_on (v := ?_) rfl (fun _ _ _ h => h) (by rfl) ?_ (by assumption) ?_; rotate_left; (· (intro wq hSw; go_simp; try with_reducible rfl)); try simp only [Act.put, List.setIfInBounds_toArray, List.set_cons_zero, List.set_cons_succ])
    refine lin_done ?_
    go_wp2
    go_ret
    exact ⟨by rw [← HC.out]; rfl, (HB0.out).trans (HB.out.mono HB0.out.size)⟩
  · have hq : (decide (a = d) && decide (b = e)) = false := by simpa using he
    rw [hq] at hpe
    have HC : Hid (false = z) := Lib.hid (by rw [← HZ.out]; simp only [geM]; rw [← Bool.and_assoc, hq]; rfl)
    clear hq he HZ
    go_upto_region 1 with fail
    refine wp_region_held_drew (S := (fun w' => (w'.cell? ⟨w.heap.size, 0, none⟩ = some (.int .i64 a) ∧ w'.cell? ⟨w.heap.size, 1, none⟩ = some (.int .i64 b) ∧ w'.cell? ⟨w.heap.size, 2, none⟩ = some (.int .i64 c)) ∧ (w'.cell? ⟨B, 0, none⟩ = some (.int .i64 d) ∧ w'.cell? ⟨B, 1, none⟩ = some (.int .i64 e) ∧ w'.cell? ⟨B, 2, none⟩ = some (.int .i64 h)))) (by kernel_rfl) (HQ.out _ HB.out) (fun hHeld => ?_)
    refine to_lin (T := hasByT) (n := 13) hasByS ⟨by kernel_rfl, by kernel_rfl, by kernel_rfl⟩ (by kernel_rfl) (fun hTag => ?_)
    iterate 2 (refine lin_on (v := ?_) rfl (fun _ _ _ h => h) (by rfl) ?_ (by assumption) ?_; rotate_left; (· (intro wq hSw; go_simp; try with_reducible rfl)); try simp only [Act.put, List.setIfInBounds_toArray, List.set_cons_zero, List.set_cons_succ])
    refine lin_call rfl (by rfl) (fun K hK => ?_)
    go_simp
    go_at_call 98
    refine (pairOf_is a b c _).mono ?_
    rintro e9 w9 ⟨rfl, hb9⟩
    have HB := Lib.hid (HB.out.trans (hb9.mono HB.out.size))
    clear hb9
    go_wp2_with fail
    refine hK.out _ _ ?_ (fun hHeld => ?_)
    · exact HQ.out _ HB.out
    clear hK K
    try simp only [Act.put, List.setIfInBounds_toArray, List.set_cons_zero, List.set_cons_succ]
    refine lin_call rfl (by rfl) (fun K hK => ?_)
    go_simp
    go_at_call 98
    refine (pairOf_is d e h _).mono ?_
    rintro e9 w9 ⟨rfl, hb9⟩
    have HB := Lib.hid (HB.out.trans (hb9.mono HB.out.size))
    clear hb9
    go_wp2_with fail
    refine hK.out _ _ ?_ (fun hHeld => ?_)
    · exact HQ.out _ HB.out
    clear hK K
    try simp only [Act.put, List.setIfInBounds_toArray, List.set_cons_zero, List.set_cons_succ]
    iterate 2 (refine lin_on (v := ?_) rfl (fun _ _ _ h => h) (by rfl) ?_ (by assumption) ?_; rotate_left; (· (intro wq hSw; go_simp; try with_reducible rfl)); try simp only [Act.put, List.setIfInBounds_toArray, List.set_cons_zero, List.set_cons_succ])
    iterate 5 (refine lin_off rfl (fun _ _ _ h => h) (by rfl) (by assumption) ?_; try simp only [Act.put, List.setIfInBounds_toArray, List.set_cons_zero, List.set_cons_succ])
    iterate 2 (refine lin_on (v := ?_) rfl (fun _ _ _ h => h) (by rfl) ?_ (by assumption) ?_; rotate_left; (· (intro wq hSw; go_simp; try with_reducible rfl)); try simp only [Act.put, List.setIfInBounds_toArray, List.set_cons_zero, List.set_cons_succ])
    refine lin_done ?_
    go_wp2
    go_ret
    exact ⟨by rw [← HC.out]; rfl, (HB0.out).trans (HB.out.mono HB0.out.size)⟩
set_option maxRecDepth 100000 in
theorem indexMeet_is (A : Option Addr) (k : Nat) (l : List Mt3) (d e h : Int) (z : Bool) (B : Nat) (w : World) (hB : B < w.heap.size) (h0 : w.cell? ⟨B, 0, none⟩ = some (.int .i64 d)) (h1 : w.cell? ⟨B, 1, none⟩ = some (.int .i64 e)) (h2 : w.cell? ⟨B, 2, none⟩ = some (.int .i64 h)) (hs : SeesE 3 encMeet w w.heap.size A l) (hl : l.length ≤ 1099511627776) (hz : hasM l (d, e, h) = z) :
    Calls Tryz.prog 134 #[.slice A l.length k, .func (.func 97) #[] #[.pointer (some ⟨B, 0, none⟩)]] w fun e w' => (∃ i : Int, e = .returned (.int .i64 i) ∧ decide (0 ≤ i) = z) ∧ Below w.heap.size w w' := by
  have eg : ∀ args w, (callFunc 97 args).run Tryz.prog w = .ok (.enter 97 args) w := enters_of Tryz.func97 (by kernel_rfl) rfl
  have HS := Lib.hid hs; have HZ := Lib.hid hz; have H0 := Lib.hid h0; have H1 := Lib.hid h1; have H2 := Lib.hid h2; have HBs := Lib.hid hB
  clear hs hz h0 h1 h2 hB
  go_enter Tryz.func134, Tryz.ntmps134
  go_wp2
  go_loopg [5, 8] l.length (fun g _ s8 wr => ∃ j : Nat, j + g = l.length ∧ s8 = .int .i64 j ∧ Hid ((l.take j).any (geM (d, e, h)) = false) ∧ Hid (Below w.heap.size w wr))
  case atStart => exact ⟨0, by omega, rfl, Lib.hid (by simp), Lib.hid (Below.refl _ _)⟩
  case round =>
    obtain ⟨j, hg, rfl, HN, HB⟩ := hrel
    by_cases hlt : j < l.length
    · have hlt' : (j : Int) < (l.length : Int) := by omega
      obtain ⟨b, off, ⟨t0, t1, t2⟩, rfl, hbl, hx, -⟩ := (HS.out.below HB.out).lt hlt
      obtain ⟨k0, k1, k2⟩ := cellsMeet (HS.out.below HB.out) hx
      have HX := Lib.hid hx
      have G0 := Lib.hid ((HB.out.cell (p := ⟨B, 0, none⟩) HBs.out).trans H0.out)
      have G1 := Lib.hid ((HB.out.cell (p := ⟨B, 1, none⟩) HBs.out).trans H1.out)
      have G2 := Lib.hid ((HB.out.cell (p := ⟨B, 2, none⟩) HBs.out).trans H2.out)
      have HB2 := Lib.hid (Nat.lt_of_lt_of_le HBs.out HB.out.size)
      clear hx
      obtain ⟨y, hy⟩ : ∃ y, geM (d, e, h) (t0, t1, t2) = y := ⟨_, rfl⟩
      have HY := Lib.hid hy
      clear hy
      cases y
      all_goals
        go_wp2_with (go_at_fn 97; refine (hasBy_is t0 t1 t2 d e h B _ HB2.out G0.out G1.out G2.out _ HY.out).mono ?_; rintro e9 w9 ⟨rfl, hb9⟩)
      · have HB9 := Lib.hid (HB.out.trans (hb9.mono HB.out.size))
        have HNx : Hid ((l.take (j + 1)).any (geM (d, e, h)) = false) := Lib.hid (by rw [any_take HX.out, HN.out, HY.out]; rfl)
        go_roundg (l.length - (j + 1))
        case measure => omega
        case rel => exact ⟨j + 1, by omega, by go_num, HNx, HB9⟩
      · obtain rfl : true = z := by
          rw [← HZ.out]
          exact (List.any_eq_true.2 ⟨_, List.mem_of_getElem? HX.out, HY.out⟩).symm
        go_ret
        exact ⟨by first | exact ⟨_, rfl, decide_eq_true (by omega)⟩ | (simp; done) | (simp; omega), HB.out.trans (hb9.mono HB.out.size)⟩
    · obtain rfl : j = l.length := by omega
      have hlt' : ¬ (l.length : Int) < (l.length : Int) := by omega
      obtain rfl : false = z := by rw [← HZ.out]; have := HN.out; rw [List.take_length] at this; exact this.symm
      go_wp2
      go_ret
      exact ⟨by first | exact ⟨_, rfl, rfl⟩ | simp, HB.out⟩
set_option maxRecDepth 100000 in
theorem containsMeet_is (A : Option Addr) (k : Nat) (l : List Mt3) (d e h : Int) (z : Bool) (B : Nat) (w : World) (hB : B < w.heap.size) (h0 : w.cell? ⟨B, 0, none⟩ = some (.int .i64 d)) (h1 : w.cell? ⟨B, 1, none⟩ = some (.int .i64 e)) (h2 : w.cell? ⟨B, 2, none⟩ = some (.int .i64 h)) (hs : SeesE 3 encMeet w w.heap.size A l) (hl : l.length ≤ 1099511627776) (hz : hasM l (d, e, h) = z) :
    Calls Tryz.prog 96 #[.slice A l.length k, .func (.func 97) #[] #[.pointer (some ⟨B, 0, none⟩)]] w fun e w' => e = .returned (.bool z) ∧ Below w.heap.size w w' := by
  go_enter Tryz.func96, Tryz.ntmps96
  go_wp2_with fail
  refine (indexMeet_is A k l d e h z B w hB h0 h1 h2 hs hl hz).mono ?_
  rintro e9 w1 ⟨⟨i, rfl, hi⟩, hb1⟩
  subst hi
  go_wp2
  go_ret
  exact ⟨rfl, hb1⟩
set_option maxRecDepth 100000 in
theorem hasMeet_is (A : Option Addr) (k : Nat) (l : List Mt3) (d e h : Int) (z : Bool) (w : World) (hs : SeesE 3 encMeet w w.heap.size A l) (hl : l.length ≤ 1099511627776) (hz : hasM l (d, e, h) = z) :
    Calls Tryz.prog 59 #[.slice A l.length k, MtV d e h] w fun e w' => e = .returned (.bool z) ∧ Below w.heap.size w w' := by
  have hmf : ∀ (fn : Fn) (first cap : Array Value) (w : World), (Instr.makeFunc fn first cap).run Tryz.prog w = .ok (.func fn first cap) w := fun _ _ _ _ => rfl
  have HB := Lib.hid (show Below w.heap.size w (w.alloc (.cells #[.int .i64 d, .int .i64 e, .int .i64 h] 93)) from (Below.refl _ _).alloc (Nat.le_refl _) _)
  have HS := Lib.hid (hs.belowAll HB.out)
  have HZ := Lib.hid hz
  clear hs hz
  go_enter Tryz.func59, Tryz.ntmps59
  go_wp2_with fail
  refine (containsMeet_is A k l d e h z w.heap.size _ (by simp) (by simp [go_sem]) (by simp [go_sem]) (by simp [go_sem]) HS.out hl HZ.out).mono ?_
  rintro e9 w1 ⟨rfl, hb1⟩
  have HB1 := Lib.hid (HB.out.trans (hb1.mono HB.out.size))
  clear hb1
  go_wp2
  go_ret
  exact ⟨rfl, HB1.out⟩
set_option maxRecDepth 100000 in
theorem noMore_is (A A' : Option Addr) (k k' : Nat) (l l' : List Mt3) (z : Bool) (w : World) (hs : SeesE 3 encMeet w w.heap.size A l) (hs' : SeesE 3 encMeet w w.heap.size A' l') (hl : l.length ≤ 1099511627776) (hl' : l'.length ≤ 1099511627776) (hz : noMoreV l l' = z) :
    Calls Tryz.prog 22 #[.slice A l.length k, .slice A' l'.length k'] w fun e w' => e = .returned (.bool z) ∧ Below w.heap.size w w' := by
  have HS := Lib.hid hs; have HS' := Lib.hid hs'; have HZ := Lib.hid hz
  clear hs hs' hz
  go_enter Tryz.func22, Tryz.ntmps22
  go_wp2
  go_loopg [9] l.length (fun g i wr => ∃ j : Nat, j + g = l.length ∧ i = .int .i64 j ∧ Hid ((l.take j).all (hasM l') = true) ∧ Hid (Below w.heap.size w wr))
  case atStart => exact ⟨0, by omega, rfl, Lib.hid (by simp), Lib.hid (Below.refl _ _)⟩
  case round =>
    obtain ⟨j, hg, rfl, HN, HB⟩ := hrel
    by_cases hlt : j < l.length
    · have hlt' : (j : Int) < (l.length : Int) := by omega
      obtain ⟨b, off, ⟨t0, t1, t2⟩, rfl, hbl, hx, -⟩ := (HS.out.below HB.out).lt hlt
      obtain ⟨k0, k1, k2⟩ := cellsMeet (HS.out.below HB.out) hx
      have HX := Lib.hid hx
      have HBa := Lib.hid (HB.out.alloc HB.out.size (.cells #[.int .i64 t0, .int .i64 t1, .int .i64 t2] 93))
      have HSa := Lib.hid ((HS'.out.below HBa.out).mono HBa.out.size)
      clear hx
      obtain ⟨y, hy⟩ : ∃ y, hasM l' (t0, t1, t2) = y := ⟨_, rfl⟩
      have HY := Lib.hid hy
      clear hy
      cases y
      all_goals
        go_wp2_with (go_at_call 59; refine (hasMeet_is A' k' l' t0 t1 t2 _ _ HSa.out hl' HY.out).mono ?_; rintro e9 w9 ⟨rfl, hb9⟩)
      · obtain rfl : false = z := by rw [← HZ.out]; exact (all_stop HX.out HY.out).symm
        go_ret
        exact ⟨rfl, HBa.out.trans (hb9.mono HBa.out.size)⟩
      · have HB9 := Lib.hid (HBa.out.trans (hb9.mono HBa.out.size))
        have HNx : Hid ((l.take (j + 1)).all (hasM l') = true) := Lib.hid (by rw [all_take HX.out, HN.out, HY.out]; rfl)
        go_roundg (l.length - (j + 1))
        case measure => omega
        case rel => exact ⟨j + 1, by omega, by go_num, HNx, HB9⟩
    · obtain rfl : j = l.length := by omega
      have hlt' : ¬ (l.length : Int) < (l.length : Int) := by omega
      obtain rfl : true = z := by rw [← HZ.out]; have := HN.out; rw [List.take_length] at this; exact this.symm
      go_wp2
      go_ret
      exact ⟨rfl, HB.out⟩

end Go.Proofs.YtbnjaaegbmhopaaGreatDoor
end
section
/- CountMeets of package impl and of the model. -/
namespace Go.Proofs.YtbnjaaegbmhopaaGreatDoor
open Go.ChangeShapes Go.WideShapes Go.ChangeAt Go.RowKit
set_option linter.unusedVariables false

set_option maxRecDepth 100000 in
theorem countMeets_is (A : Option Addr) (c : Nat) (l : List Mt3) (h : Int) (w : World) (hs : SeesE 3 encMeet w w.heap.size A l) (hl : l.length ≤ 1099511627776) (z : Int) (hz : cntM l h = z) :
    Calls Tryz.prog 23 #[.slice A l.length c, .int .i64 h] w fun e w' => e = .returned (.int .i64 z) ∧ Below w.heap.size w w' := by
  have HS := Lib.hid hs; have HZ := Lib.hid hz
  clear hs hz
  go_enter Tryz.func23, Tryz.ntmps23
  go_wp2
  go_loopw [5, 10] (fun n i wr => ∃ j : Nat, j ≤ l.length ∧ n = .int .i64 (cntM (l.take j) h) ∧ i = .int .i64 j ∧ Hid (Below w.heap.size w wr)) (fun _ i _ => l.length - (intOf i).toNat)
  case atStart => exact ⟨0, Nat.zero_le _, by rw [cntM_zero], rfl, Lib.hid (Below.refl _ _)⟩
  case round =>
    obtain ⟨j, hj, rfl, rfl, HB⟩ := hrel
    by_cases hlt : j < l.length
    · have hlt' : (j : Int) < (l.length : Int) := by omega
      obtain ⟨b, off, ⟨t0, t1, t2⟩, rfl, hbl, hx, -⟩ := (HS.out.below HB.out).lt hlt
      obtain ⟨k0, k1, k2⟩ := cellsMeet (HS.out.below HB.out) hx
      have hb := cntM_bd l h j
      obtain ⟨N, hN⟩ : ∃ N, cntM (l.take j) h = N := ⟨_, rfl⟩
      rw [hN] at hb ⊢
      by_cases he : t2 = h
      · have HT := Lib.hid (cntM_yes hx he)
        subst he
        clear hx
        go_wp2
        go_roundw
        case rel => exact ⟨j + 1, by omega, by rw [HT.out, hN], by go_num, Lib.hid (HB.out.alloc HB.out.size _)⟩
        case measure => simp [intOf]; omega
      · have HT := Lib.hid (cntM_no hx he)
        clear hx
        go_wp2
        go_roundw
        case rel => exact ⟨j + 1, by omega, by rw [HT.out, hN], by go_num, Lib.hid (HB.out.alloc HB.out.size _)⟩
        case measure => simp [intOf]; omega
    · obtain rfl : j = l.length := by omega
      rw [List.take_length]
      go_wp2
      go_ret
      exact ⟨by rw [← HZ.out]; rfl, HB.out⟩
end Go.Proofs.YtbnjaaegbmhopaaGreatDoor
end
section
/- What the statements list of errNoRing, as the walks read it. -/
namespace Go.Proofs.YtbnjaaegbmhopaaGreatDoor
open Go.ChangeShapes Go.WideShapes Go.ChangeAt Go.RowKit Go.Stop
set_option linter.unusedVariables false
set_option maxRecDepth 100000

theorem errName : Tryz.prog.globalNamed "loop.example/g03005/impl.errNoRing" = some 0 := by kernel_rfl
theorem errType : (Tryz.prog.globals[0]?).map (·.type) = some 73 := by kernel_rfl
theorem errStar : "*" ++ "errors.errorString" = "*errors.errorString" := by decide
theorem errRow (u : TypeId) (h : Tryz.prog.typeName? 3 u = some "*errors.errorString") : u = 221 :=
  typeName_ptr_named (nm := "errors.errorString") (by rw [errStar]; kernel_rfl) (by kernel_rfl) (by decide) u (by rw [errStar]; exact h)
theorem errCells : Tryz.prog.cellsOf 246 = 1 := by kernel_rfl
theorem strCells : Tryz.prog.cellsOf 9 = 1 := by kernel_rfl
theorem errAt_of {w : World} (hL : laidMet Tryz.prog [("loop.example/g03005/impl.errNoRing", Rows.laid_loop_example_g03005_impl_errNoRing)] w) : ∃ a0, ErrAt a0 w := by
  obtain ⟨a, s, hv, -, -, -⟩ := laid_sentinel (tp := 221) (te := 246) (ts := 9) hL errName errType Tryz.underlying73 errRow Tryz.underlying221 Tryz.underlying246 rfl rfl Tryz.underlying9 errCells strCells
  exact ⟨a, by have := World.var?_cell errName hv 0; simpa [ErrAt] using this⟩
theorem errVar_of {w : World} (hL : laidMet Tryz.prog [("loop.example/g03005/impl.errNoRing", Rows.laid_loop_example_g03005_impl_errNoRing)] w) : ∃ a0, w.var? Tryz.prog "loop.example/g03005/impl.errNoRing" = some #[.iface 221 (.pointer (some a0))] := by
  obtain ⟨a, s, hv, -, -, -⟩ := laid_sentinel (tp := 221) (te := 246) (ts := 9) hL errName errType Tryz.underlying73 errRow Tryz.underlying221 Tryz.underlying246 rfl rfl Tryz.underlying9 errCells strCells
  exact ⟨a, hv⟩
theorem errVars {H : Type} (enc : TypeId × Value → H) {W : World} {a0 : Addr} (h : W.var? Tryz.prog "loop.example/g03005/impl.errNoRing" = some #[.iface 221 (.pointer (some a0))]) (sp : Nat → Bool) :
    DataW.TrodVars enc Tryz.prog W sp ["loop.example/g03005/impl.errNoRing"] [tok enc (.iface 221 (.pointer (some a0)))] [.cell 0 0] :=
  vars_read1 enc errName errType Tryz.underlying73 h trivial sp
theorem errVar_below {W W' : World} {a0 : Addr} (h : W.var? Tryz.prog "loop.example/g03005/impl.errNoRing" = some #[.iface 221 (.pointer (some a0))]) (hb : Below W.heap.size W W') : W'.var? Tryz.prog "loop.example/g03005/impl.errNoRing" = some #[.iface 221 (.pointer (some a0))] :=
  var?_below hb errName (World.block_lt_of_cell? _ _ (World.var?_cell errName h 0)) h
end Go.Proofs.YtbnjaaegbmhopaaGreatDoor
end
section
/- FnMeets: its walk. -/
namespace Go.Proofs.YtbnjaaegbmhopaaGreatDoor
open Go.ChangeShapes Go.WideShapes Go.ChangeAt Go.RowKit
set_option linter.unusedVariables false

/-- A sum of the first n. -/
def sumN (f : Nat → Nat) : Nat → Nat
  | 0 => 0
  | n + 1 => sumN f n + f n
theorem flat_sum {α : Type} (f : Nat → List α) : ∀ n, ((List.range n).flatMap f).length = sumN (fun i => (f i).length) n
  | 0 => by simp [sumN]
  | n + 1 => by
    rw [List.range_succ, List.flatMap_append, List.length_append, flat_sum f n]
    simp only [List.flatMap_cons, List.flatMap_nil, List.append_nil, sumN]
theorem sum_congr {f g : Nat → Nat} : ∀ {n : Nat}, (∀ i, i < n → f i = g i) → sumN f n = sumN g n
  | 0, _ => rfl
  | n + 1, h => by unfold sumN; rw [sum_congr (fun i hi => h i (by omega)), h n (by omega)]
theorem sum_add (f g : Nat → Nat) : ∀ n, sumN (fun i => f i + g i) n = sumN f n + sumN g n
  | 0 => rfl
  | n + 1 => by unfold sumN; rw [sum_add f g n]; omega
theorem tri (f : Nat → Nat → Nat) : ∀ L, sumN (fun i => sumN (fun d => f i (i + 1 + d)) (L - (i + 1))) L = sumN (fun i => sumN (fun k => f k i) i) L
  | 0 => rfl
  | L + 1 => by
    have h1 : sumN (fun i => sumN (fun d => f i (i + 1 + d)) (L + 1 - (i + 1))) L = sumN (fun i => sumN (fun d => f i (i + 1 + d)) (L - (i + 1)) + f i L) L :=
      sum_congr fun i hi => by
        rw [show L + 1 - (i + 1) = (L - (i + 1)) + 1 by omega]
        show sumN _ _ + f i (i + 1 + (L - (i + 1))) = _
        rw [show i + 1 + (L - (i + 1)) = L by omega]
    show sumN _ L + _ = sumN _ L + _
    rw [h1, sum_add, tri f L]
    show _ + sumN (fun k => f k L) L + sumN _ (L + 1 - (L + 1)) = _
    rw [Nat.sub_self]
    rfl
/-- How many pairs meet: the second one first. -/
def pairsV (l : List Feat) (n : Nat) : Nat := sumN (fun i => sumN (fun k => (mOne l k i).length) i) n
theorem all_pairs (l : List Feat) : (mAll l l.length).length = pairsV l l.length := by
  unfold mAll pairsV
  rw [flat_sum, ← tri (fun i k => (mOne l i k).length)]
  exact sum_congr fun i _ => by unfold mRow; rw [flat_sum]
theorem sumN_bd {f : Nat → Nat} {m : Nat} (h : ∀ i, f i ≤ m) : ∀ n, sumN f n ≤ n * m
  | 0 => by simp [sumN]
  | n + 1 => by have := sumN_bd h n; have := h n; unfold sumN; rw [Nat.add_mul]; omega
theorem pairs_bd (l : List Feat) : ∀ n, pairsV l n ≤ n * n
  | 0 => by simp [pairsV, sumN]
  | n + 1 => by
    have h1 := pairs_bd l n
    have h2 := sumN_bd (f := fun k => (mOne l k n).length) (m := 1) (fun k => mOne_len _ _ _) n
    show pairsV l n + sumN (fun k => (mOne l k n).length) n ≤ _
    rw [Nat.add_mul, Nat.mul_add]
    omega
theorem pairs_16 {l : List Feat} {n : Nat} (h : n ≤ 16) (t : Nat) (ht : t ≤ 16) : pairsV l n + sumN (fun k => (mOne l k n).length) t ≤ 1000 := by
  have h1 := pairs_bd l n
  have h2 := sumN_bd (f := fun k => (mOne l k n).length) (m := 1) (fun k => mOne_len _ _ _) t
  have h3 : n * n ≤ 16 * 16 := Nat.mul_le_mul h h
  omega
theorem pairs_step (l : List Feat) (n : Nat) : pairsV l (n + 1) = pairsV l n + sumN (fun k => (mOne l k n).length) n := rfl
theorem one_len {l : List Feat} {i k : Nat} {f g : Feat} (hf : l[i]? = some f) (hg : l[k]? = some g) : (mOne l i k).length = if meetF g f = 0 then 0 else 1 := by
  rw [meetF_comm f g]
  by_cases h : meetF f g = 0
  · rw [mOne_no hf hg h, if_pos h]; rfl
  · rw [mOne_yes hf hg h, if_neg h]; rfl
theorem meetF_ge (f g : Feat) : 0 ≤ meetF f g := ((mtV_le _ _ _).1 (Int.le_refl _)).1
theorem one_how {l : List Feat} {i k : Nat} {m : Mt3} (h : m ∈ mOne l i k) : 1 ≤ m.2.2 ∧ m.2.2 ≤ 3 := by
  unfold mOne at h
  split at h
  · next f g _ _ =>
    split at h
    · cases h
    · next h0 =>
      simp only [List.mem_singleton] at h
      subst h
      have := meetF_ge f g
      have := meetF_bd f g
      dsimp only
      omega
  · cases h
theorem meets_how {l : List Feat} {m : Mt3} (h : m ∈ meetsV l) : 1 ≤ m.2.2 ∧ m.2.2 ≤ 3 := by
  cases hz : srcV l
  · rw [meets_no hz] at h; cases h
  · rw [meets_yes hz] at h
    unfold mAll at h
    obtain ⟨i, -, h⟩ := List.mem_flatMap.1 h
    unfold mRow at h
    obtain ⟨d, -, h⟩ := List.mem_flatMap.1 h
    exact one_how h
theorem cnt_all {L : List Mt3} (h : ∀ m ∈ L, 1 ≤ m.2.2 ∧ m.2.2 ≤ 3) : cntM L 1 + cntM L 2 + cntM L 3 = (L.length : Int) := by
  induction L with
  | nil => rfl
  | cons m t ih =>
    have h1 := ih fun x hx => h x (List.mem_cons_of_mem _ hx)
    have h2 := h m List.mem_cons_self
    have h3 : m.2.2 = 1 ∨ m.2.2 = 2 ∨ m.2.2 = 3 := by omega
    unfold cntM at h1 ⊢
    rcases h3 with e | e | e <;> simp [e] <;> omega
theorem cnt_bd (L : List Mt3) (h : Int) : 0 ≤ cntM L h ∧ cntM L h ≤ (L.length : Int) := by
  have := cntM_bd L h L.length
  rwa [List.take_length] at this
set_option maxRecDepth 100000 in
set_option maxHeartbeats 8000000 in
theorem law_FnMeets (w : World) (a0 : Addr) (hE : ErrAt a0 w) (A : Option Addr) (len cap : Nat) (hc : Code w w.heap.size A len) :
    Calls Tryz.prog 4 #[.slice A len cap] w fun e w' => e = .returned (.bool true) ∧ Below w.heap.size w w' := by
  have hlen := hc.1
  have HE := Lib.hid hE; clear hE
  by_cases hbig : 1048576 < len
  · go_enter Tryz.func4, Tryz.ntmps4
    go_wp2_with fail
    refine (big_yes A len cap _ hbig).mono ?_
    rintro e w0 ⟨rfl, rfl⟩
    go_wp2
    go_ret
    exact ⟨rfl, Below.refl _ _⟩
  · go_enter Tryz.func4, Tryz.ntmps4
    have HC := Lib.hid hc; clear hc
    go_wp2_with fail
    refine (big_no A len cap _ (by omega)).mono ?_
    rintro e w0 ⟨rfl, rfl⟩
    go_wp2_with fail
    refine (drawFeaturesMeet_any A len cap _ _ HC.out).mono ?_
    rintro e w1 ⟨a, k, r, s, A1, c1, ps, a', k', r', s', A2, c2, ps', rfl, ⟨hs, hps, hcp, hcm, hsp⟩, ⟨hs', hps', hcp', hcm', hsp'⟩, hb1⟩
    have HV := Lib.hid (Vars.of2 w1 (FtC a k r s A1 ps.length c1) (FtC a' k' r' s' A2 ps'.length c2) 41 41)
    have HS1 := Lib.hid ((hsp.below HV.out.1).mono HV.out.1.size); have HS2 := Lib.hid ((hsp'.below HV.out.1).mono HV.out.1.size)
    have HB1 := Lib.hid hb1
    clear hsp hsp' hb1
    obtain ⟨z, hz⟩ : ∃ z, meetF (a, k, r, s, ps) (a', k', r', s', ps') = z := ⟨_, rfl⟩
    have HZ := Lib.hid hz
    have HZ' : Hid (meetF (a', k', r', s', ps') (a, k, r, s, ps) = z) := Lib.hid (by rw [meetF_comm]; exact hz)
    clear hz
    have hm1 : s.size ≤ maxLen := by unfold maxLen; omega
    have hm2 : s'.size ≤ maxLen := by unfold maxLen; omega
    have hl1 : ps.length ≤ 274877906944 := by omega
    have hl2 : ps'.length ≤ 274877906944 := by omega
    have hzz : (z != z) = false := by simp
    go_upto_region 4 with fail
    generalize (w1.alloc (.cells (FtC a k r s A1 ps.length c1) 41)).alloc (.cells (FtC a' k' r' s' A2 ps'.length c2) 41) = w2 at HV HS1 HS2 ⊢
    go_cut [25] (fun sx wx => sx = .bool false ∧ Hid (Below w.heap.size w wx))
    case first =>
      have HQ : Hid (∀ W, Vars w1 W [FtC a k r s A1 ps.length c1, FtC a' k' r' s' A2 ps'.length c2] → W.cell? ⟨w1.heap.size, 0, none⟩ = some (.int .i64 a) ∧ W.cell? ⟨w1.heap.size, 1, none⟩ = some (.int .i64 k) ∧ W.cell? ⟨w1.heap.size, 2, none⟩ = some (.int .i64 r) ∧ W.cell? ⟨w1.heap.size, 3, none⟩ = some (.string s) ∧ W.cell? ⟨w1.heap.size, 4, none⟩ = some (.slice A1 ps.length c1) ∧
          W.cell? ⟨w1.heap.size + 1, 0, none⟩ = some (.int .i64 a') ∧ W.cell? ⟨w1.heap.size + 1, 1, none⟩ = some (.int .i64 k') ∧ W.cell? ⟨w1.heap.size + 1, 2, none⟩ = some (.int .i64 r') ∧ W.cell? ⟨w1.heap.size + 1, 3, none⟩ = some (.string s') ∧ W.cell? ⟨w1.heap.size + 1, 4, none⟩ = some (.slice A2 ps'.length c2)) := Lib.hid fun W hW => by
        obtain ⟨p0, p1, p2, p3, p4⟩ := hW.fiveAt w1.heap.size 0 rfl rfl
        obtain ⟨q0, q1, q2, q3, q4⟩ := hW.fiveAt (w1.heap.size + 1) 1 rfl rfl
        exact ⟨p0, p1, p2, p3, p4, q0, q1, q2, q3, q4⟩
      have HQ0 := Lib.hid (HQ.out _ HV.out)
      have HVd := Lib.hid HV.out.drew; have HQd := Lib.hid (HQ.out _ HVd.out)
      have HSd1 := Lib.hid HS1.out.drew; have HSd2 := Lib.hid HS2.out.drew
      have HEd := Lib.hid (HE.out.all (HB1.out.trans (HVd.out.1.mono HB1.out.size)))
      go_region_held3 (fun w' => w'.cell? ⟨w1.heap.size, 0, none⟩ = some (.int .i64 a) ∧ w'.cell? ⟨w1.heap.size, 1, none⟩ = some (.int .i64 k) ∧ w'.cell? ⟨w1.heap.size, 2, none⟩ = some (.int .i64 r) ∧ w'.cell? ⟨w1.heap.size, 3, none⟩ = some (.string s) ∧ w'.cell? ⟨w1.heap.size, 4, none⟩ = some (.slice A1 ps.length c1) ∧
          w'.cell? ⟨w1.heap.size + 1, 0, none⟩ = some (.int .i64 a') ∧ w'.cell? ⟨w1.heap.size + 1, 1, none⟩ = some (.int .i64 k') ∧ w'.cell? ⟨w1.heap.size + 1, 2, none⟩ = some (.int .i64 r') ∧ w'.cell? ⟨w1.heap.size + 1, 3, none⟩ = some (.string s') ∧ w'.cell? ⟨w1.heap.size + 1, 4, none⟩ = some (.slice A2 ps'.length c2))
        (first | with_reducible exact HQ0.out | with_reducible exact HQd.out | with_reducible exact hQ1.out | with_reducible exact hQ2.out) (first
        | (go_at_call 19; refine (featuresMeet_is a0 a' k' r' s' A2 c2 ps' a k r s A1 c1 ps z _ HEe.out HSe2.out hl2 hcp' hcm' hm2 HSe1.out hl1 hcp hcm hm1 HZ'.out).mono ?_; rintro e w4 ⟨rfl, hb4⟩; have HVf := Lib.hid (HVe.out.next hb4); have hQ2 := Lib.hid (HQ.out _ HVf.out))
        | (go_at_call 19; refine (featuresMeet_is a0 a k r s A1 c1 ps a' k' r' s' A2 c2 ps' z _ HEd.out HSd1.out hl1 hcp hcm hm1 HSd2.out hl2 hcp' hcm' hm2 HZ.out).mono ?_; rintro e w3 ⟨rfl, hb3⟩; have HVe := Lib.hid (HVd.out.next hb3); have hQ1 := Lib.hid (HQ.out _ HVe.out); have HSe1 := Lib.hid (HSd1.out.belowAll hb3); have HSe2 := Lib.hid (HSd2.out.belowAll hb3); have HEe := Lib.hid (HEd.out.all hb3))
        | fail)
      all_goals
        go_wp2_with fail
        go_meet
        exact ⟨rfl, Lib.hid (HB1.out.trans (HVf.out.1.mono HB1.out.size))⟩
    case rest =>
    obtain ⟨rfl, HB⟩ := hcut
    clear HV HS1 HS2 HB1 HZ HZ' hzz hs hps hcp hcm hs' hps' hcp' hcm' hm1 hm2 hl1 hl2
    go_wp2_with fail
    refine (drawMeetsOf_any A len cap _ _ (code_below HC.out HB.out)).mono ?_
    rintro e w3 ⟨Al, cl, l, rfl, hl16, hD, hcap, hS, hb3⟩
    have HS := Lib.hid hS; have HP := Lib.hid hD.small
    have HB3 := Lib.hid (HB.out.trans (hb3.mono HB.out.size))
    have hl40 : l.length ≤ 1099511627776 := by omega
    clear hS hD hb3 HB
    go_wp2_with fail
    refine (meetsOf_any a0 Al cl l _ (HE.out.all HB3.out) HS.out hl40 HP.out).mono ?_
    rintro e w4 ⟨Am, cm, M, hM, rfl, ho4, hb4⟩
    have HM := hM
    have HS := Lib.hid (HS.out.belowAll hb4); have HO := Lib.hid (ho4.sees elMeet)
    have HB := Lib.hid (HB3.out.trans (hb4.mono HB3.out.size))
    have hM256 : M.length ≤ 256 := by rw [hM.out]; exact meets_len l
    clear ho4 hb4 HB3 hM
    go_wp2_with fail
    refine (noMore_is Am Am cm cm M M true _ HO.out HO.out (by omega) (by omega) (noMore_self M)).mono ?_
    rintro e w5 ⟨rfl, hb5⟩
    have HS := Lib.hid (HS.out.belowAll hb5); have HO := Lib.hid (HO.out.belowAll hb5)
    have HB := Lib.hid (HB.out.trans (hb5.mono HB.out.size))
    clear hb5
    have hc1 := cnt_bd M 1; have hc2 := cnt_bd M 2; have hc3 := cnt_bd M 3
    have HCA := Lib.hid (cnt_all (L := M) (fun m hm => meets_how (l := l) (by rw [← HM.out]; exact hm)))
    obtain ⟨n1, hn1⟩ : ∃ n, cntM M 1 = n := ⟨_, rfl⟩
    obtain ⟨n2, hn2⟩ : ∃ n, cntM M 2 = n := ⟨_, rfl⟩
    obtain ⟨n3, hn3⟩ : ∃ n, cntM M 3 = n := ⟨_, rfl⟩
    have H1 := Lib.hid hn1; have H2 := Lib.hid hn2; have H3 := Lib.hid hn3
    rw [hn1] at hc1; rw [hn2] at hc2; rw [hn3] at hc3
    rw [hn1, hn2, hn3] at HCA
    clear hn1 hn2 hn3
    go_wp2
    go_loopw [7, 8] (fun sm i wr => ∃ j : Nat, (1 ≤ j ∧ j ≤ 4) ∧ i = .int .i64 (j : Int) ∧ sm = .int .i64 ((if 1 < j then n1 else 0) + (if 2 < j then n2 else 0) + (if 3 < j then n3 else 0)) ∧ Hid (SeesF wr wr.heap.size Al l) ∧ Hid (SeesE 3 encMeet wr wr.heap.size Am M) ∧ Hid (Below w.heap.size w wr)) (fun _ i _ => 5 - (intOf i).toNat)
    case atStart => exact ⟨1, by decide, rfl, rfl, HS, HO, HB⟩
    case round =>
      clear HS HO HB
      obtain ⟨j, hj, rfl, rfl, HS, HO, HB⟩ := hrel
      have hj4 : j = 1 ∨ j = 2 ∨ j = 3 ∨ j = 4 := by omega
      rcases hj4 with rfl | rfl | rfl | rfl
      · simp only [show ¬ (1 < 1) by decide, show ¬ (2 < 1) by decide, show ¬ (3 < 1) by decide, if_false]
        go_wp2_with fail
        refine (countMeets_is Am cm M 1 _ HO.out (by omega) n1 H1.out).mono ?_
        rintro e w6 ⟨rfl, hb6⟩
        go_wp2
        go_roundw
        case rel => exact ⟨2, by decide, rfl, by simp, Lib.hid (HS.out.belowAll hb6), Lib.hid (HO.out.belowAll hb6), Lib.hid (HB.out.trans (hb6.mono HB.out.size))⟩
        case measure => simp [intOf]
      · simp only [show (1 < 2) by decide, show ¬ (2 < 2) by decide, show ¬ (3 < 2) by decide, if_false, if_true]
        go_wp2_with fail
        refine (countMeets_is Am cm M 2 _ HO.out (by omega) n2 H2.out).mono ?_
        rintro e w6 ⟨rfl, hb6⟩
        go_wp2
        go_roundw
        case rel => exact ⟨3, by decide, rfl, by simp, Lib.hid (HS.out.belowAll hb6), Lib.hid (HO.out.belowAll hb6), Lib.hid (HB.out.trans (hb6.mono HB.out.size))⟩
        case measure => simp [intOf]
      · simp only [show (1 < 3) by decide, show (2 < 3) by decide, show ¬ (3 < 3) by decide, if_false, if_true]
        go_wp2_with fail
        refine (countMeets_is Am cm M 3 _ HO.out (by omega) n3 H3.out).mono ?_
        rintro e w6 ⟨rfl, hb6⟩
        go_wp2
        go_roundw
        case rel => exact ⟨4, by decide, rfl, by simp, Lib.hid (HS.out.belowAll hb6), Lib.hid (HO.out.belowAll hb6), Lib.hid (HB.out.trans (hb6.mono HB.out.size))⟩
        case measure => simp [intOf]
      · simp only [show (1 < 4) by decide, show (2 < 4) by decide, show (3 < 4) by decide, if_true]
        have hsum := HCA.out
        have hmm : ((M.length : Int) != (M.length : Int)) = false := by simp
        rw [hsum]
        clear hsum
        obtain ⟨z, hz⟩ : ∃ z, srcV l = z := ⟨_, rfl⟩
        have HZ := Lib.hid hz
        have HMl : Hid (z = true → M.length = pairsV l l.length) := Lib.hid fun h => by rw [HM.out, meets_yes (hz.trans h), all_pairs]
        have HMn : Hid (z = false → M.length = 0) := Lib.hid fun h => by rw [HM.out, meets_no (hz.trans h)]; rfl
        clear hz HCA H1 H2 H3 HM
        go_wp2
        go_loopw [9, 10, 11] (fun n i _ wr => ∃ j : Nat, j ≤ l.length ∧ n = .int .i64 ((pairsV l j : Nat) : Int) ∧ i = .int .i64 (j : Int) ∧ Hid (j = 0 ∨ z = true) ∧ Hid (SeesF wr wr.heap.size Al l) ∧ Hid (Below w.heap.size w wr)) (fun _ i _ _ => l.length - (intOf i).toNat)
        case atStart => exact ⟨0, Nat.zero_le _, rfl, rfl, Lib.hid (.inl rfl), HS, HB⟩
        case round =>
          clear HS HB HO
          obtain ⟨j, hj, rfl, rfl, HJ, HS, HB⟩ := hrel
          by_cases hlt : j < l.length
          · have hlt' : (j : Int) < (l.length : Int) := by omega
            cases z
            · obtain rfl : j = 0 := by rcases HJ.out with h | h; exact h; cases h
              have h0 := HMn.out rfl
              have hp0 : pairsV l 0 = 0 := rfl
              go_wp2_with fail
              refine (isSource_is a0 Al cl l _ (HE.out.all HB.out) HS.out hl40 HP.out _ HZ.out).mono ?_
              rintro e w6 ⟨rfl, hb6⟩
              go_wp2
              go_ret
              exact ⟨by first | rfl | (rw [h0, hp0]; rfl) | simp, HB.out.trans (hb6.mono HB.out.size)⟩
            · go_wp2_with fail
              refine (isSource_is a0 Al cl l _ (HE.out.all HB.out) HS.out hl40 HP.out _ HZ.out).mono ?_
              rintro e w6 ⟨rfl, hb6⟩
              have HS := Lib.hid (HS.out.belowAll hb6); have HB := Lib.hid (HB.out.trans (hb6.mono HB.out.size))
              clear hb6
              obtain ⟨⟨fa, fk, fr, fs, fp⟩, hf⟩ : ∃ f, l[j]? = some f := ⟨_, List.getElem?_eq_getElem hlt⟩
              have HF := Lib.hid hf
              obtain ⟨hpl, hsz⟩ := HP.out j _ hf
              dsimp only at hpl hsz
              clear hf
              go_wp2
              go_loopw [9, 11] (fun n i wx => ∃ t : Nat, t ≤ j ∧ n = .int .i64 ((pairsV l j + sumN (fun k => (mOne l k j).length) t : Nat) : Int) ∧ i = .int .i64 (t : Int) ∧ Hid (SeesF wx wx.heap.size Al l) ∧ Hid (Below w.heap.size w wx)) (fun _ i _ => j - (intOf i).toNat)
              case atStart => exact ⟨0, Nat.zero_le _, rfl, rfl, HS, HB⟩
              case round =>
                clear HS HB
                obtain ⟨t, ht, rfl, rfl, HS, HB⟩ := hrel
                by_cases hlk : t < j
                · have hlk' : (t : Int) < (j : Int) := by omega
                  have htl : (t : Int) < (l.length : Int) := by omega
                  obtain ⟨⟨ga, gk, gr, gs, gp⟩, hg⟩ : ∃ f, l[t]? = some f := ⟨_, List.getElem?_eq_getElem (by omega)⟩
                  obtain ⟨hpl2, hsz2⟩ := HP.out t _ hg
                  dsimp only at hpl2 hsz2
                  have HSd := Lib.hid (HS.out.belowAll (Below.refl _ _).drew); have HBd := Lib.hid HB.out.drew
                  obtain ⟨b, off, A', c', rfl, hbl, hss, hcap1, q0, q1, q2, q3, q4⟩ := HS.out.at_ HF.out
                  obtain ⟨b2, off2, A'', c'', e, hbl2, hss2, hcap2, q5, q6, q7, q8, q9⟩ := HS.out.at_ hg
                  simp only [Option.some.injEq, Addr.mk.injEq, and_true] at e
                  obtain ⟨rfl, rfl⟩ := e
                  have HSS := Lib.hid (hss.belowAll (Below.refl _ _).drew); have HSS2 := Lib.hid (hss2.belowAll (Below.refl _ _).drew)
                  have HC1 := Lib.hid hcap1; have HC2 := Lib.hid hcap2
                  have HK := Lib.hid (And.intro (And.intro q0 (And.intro q1 (And.intro q2 (And.intro q3 q4)))) (And.intro q5 (And.intro q6 (And.intro q7 (And.intro q8 q9)))))
                  have HQ : Hid (∀ W, Below wr.heap.size wr W → (W.cell? ⟨b, off + j * 5, none⟩ = some (.int .i64 fa) ∧ W.cell? ⟨b, off + j * 5 + 1, none⟩ = some (.int .i64 fk) ∧ W.cell? ⟨b, off + j * 5 + 2, none⟩ = some (.int .i64 fr) ∧ W.cell? ⟨b, off + j * 5 + 3, none⟩ = some (.string fs) ∧ W.cell? ⟨b, off + j * 5 + 4, none⟩ = some (.slice A' fp.length c')) ∧
                      (W.cell? ⟨b, off + t * 5, none⟩ = some (.int .i64 ga) ∧ W.cell? ⟨b, off + t * 5 + 1, none⟩ = some (.int .i64 gk) ∧ W.cell? ⟨b, off + t * 5 + 2, none⟩ = some (.int .i64 gr) ∧ W.cell? ⟨b, off + t * 5 + 3, none⟩ = some (.string gs) ∧ W.cell? ⟨b, off + t * 5 + 4, none⟩ = some (.slice A'' gp.length c''))) := Lib.hid fun W hW => by
                    have c := fun i => hW.cell (p := ⟨b, i, none⟩) hbl
                    exact ⟨⟨(c _).trans q0, (c _).trans q1, (c _).trans q2, (c _).trans q3, (c _).trans q4⟩, (c _).trans q5, (c _).trans q6, (c _).trans q7, (c _).trans q8, (c _).trans q9⟩
                  have HQ0 := Lib.hid (HQ.out _ (Below.refl _ _)); have HQd := Lib.hid (HQ.out _ (Below.refl _ _).drew)
                  have HEd := Lib.hid (HE.out.all HBd.out)
                  obtain ⟨m, hm⟩ : ∃ m, meetF (fa, fk, fr, fs, fp) (ga, gk, gr, gs, gp) = m := ⟨_, rfl⟩
                  have HM := Lib.hid hm
                  have hone := one_len hg HF.out
                  rw [hm] at hone
                  have HO := Lib.hid hone
                  have hbd := pairs_16 (l := l) (n := j) (by omega) t (by omega)
                  clear hg hss hss2 q0 q1 q2 q3 q4 q5 q6 q7 q8 q9 hm hone HK hcap1 hcap2
                  go_upto_region 24 with fail
                  go_cut [71] (fun sx wx => sx = .bool (m != 0) ∧ Hid (SeesF wx wx.heap.size (some ⟨b, off, none⟩) l) ∧ Hid (Below w.heap.size w wx))
                  case first =>
                    go_region_held3 (fun w' => (w'.cell? ⟨b, off + j * 5, none⟩ = some (.int .i64 fa) ∧ w'.cell? ⟨b, off + j * 5 + 1, none⟩ = some (.int .i64 fk) ∧ w'.cell? ⟨b, off + j * 5 + 2, none⟩ = some (.int .i64 fr) ∧ w'.cell? ⟨b, off + j * 5 + 3, none⟩ = some (.string fs) ∧ w'.cell? ⟨b, off + j * 5 + 4, none⟩ = some (.slice A' fp.length c')) ∧
                        (w'.cell? ⟨b, off + t * 5, none⟩ = some (.int .i64 ga) ∧ w'.cell? ⟨b, off + t * 5 + 1, none⟩ = some (.int .i64 gk) ∧ w'.cell? ⟨b, off + t * 5 + 2, none⟩ = some (.int .i64 gr) ∧ w'.cell? ⟨b, off + t * 5 + 3, none⟩ = some (.string gs) ∧ w'.cell? ⟨b, off + t * 5 + 4, none⟩ = some (.slice A'' gp.length c'')))
                      (first | with_reducible exact HQ0.out | with_reducible exact HQd.out | with_reducible exact hQ1.out) (first
                      | (go_at_call 19; (with_reducible refine (featuresMeet_is a0 fa fk fr fs A' c' fp ga gk gr gs A'' c'' gp m _ HEd.out HSS.out hpl HC1.out.1 HC1.out.2 hsz HSS2.out hpl2 HC2.out.1 HC2.out.2 hsz2 HM.out).mono ?_); rintro e w9 ⟨rfl, hb9⟩; have hQ1 := Lib.hid (HQ.out _ ((Below.refl _ _).drew.trans hb9)); have HS9 := Lib.hid (HSd.out.belowAll hb9); have HB9 := Lib.hid (HBd.out.trans (hb9.mono HBd.out.size))) | fail)
                    all_goals
                      go_wp2_with fail
                      go_meet
                      exact ⟨rfl, HS9, HB9⟩
                  case rest =>
                  obtain ⟨rfl, HS9, HB9⟩ := hcut
                  clear HQ HQ0 HQd HSd HBd HSS HSS2 HS HB HEd
                  by_cases h0 : m = 0
                  · subst h0
                    have HN : Hid (sumN (fun k => (mOne l k j).length) (t + 1) = sumN (fun k => (mOne l k j).length) t) := Lib.hid (by show sumN _ t + (mOne l t j).length = _; rw [HO.out]; rfl)
                    go_wp2
                    go_roundw
                    case rel => exact ⟨t + 1, by omega, by rw [HN.out], by go_num, HS9, HB9⟩
                    case measure => simp [intOf]; omega
                  · have hm0 : (m != 0) = true := by simpa using h0
                    have HN : Hid (sumN (fun k => (mOne l k j).length) (t + 1) = sumN (fun k => (mOne l k j).length) t + 1) := Lib.hid (by show sumN _ t + (mOne l t j).length = _; rw [HO.out, if_neg h0])
                    obtain ⟨N, hN⟩ : ∃ N, pairsV l j + sumN (fun k => (mOne l k j).length) t = N := ⟨_, rfl⟩
                    have HN2 : Hid (pairsV l j + sumN (fun k => (mOne l k j).length) (t + 1) = N + 1) := Lib.hid (by rw [HN.out, ← hN]; omega)
                    rw [hN] at hbd ⊢
                    rw [hm0]
                    clear hN
                    go_wp2
                    go_roundw
                    case rel => exact ⟨t + 1, by omega, by rw [HN2.out]; go_num, by go_num, HS9, HB9⟩
                    case measure => simp [intOf]; omega
                · obtain rfl : t = j := by omega
                  have hlk' : ¬ (t : Int) < (t : Int) := by omega
                  go_wp2
                  go_roundw
                  case rel =>
                    have hps := pairs_step l t
                    exact ⟨t + 1, by omega, by rw [hps]; first | done | rfl | go_num, by go_num, by first | trivial | exact ⟨Lib.hid (by simp), HS, HB⟩⟩
                  case measure => simp [intOf]; omega
          · obtain rfl : j = l.length := by omega
            have hlt' : ¬ (l.length : Int) < (l.length : Int) := by omega
            have hMl : M.length = pairsV l l.length := by
              cases z
              · obtain h0 : l.length = 0 := by rcases HJ.out with h | h; exact h; cases h
                rw [HMn.out rfl, h0]; rfl
              · exact HMl.out rfl
            rw [hMl]
            clear hMl
            go_wp2
            go_ret
            exact ⟨by simp, HB.out⟩
theorem law_FnMeets_laid (w : World) (A : Option Addr) (len cap : Nat) (z : List Int) (hrow : IsRow .u8 w A len cap z) (hL : laidMet Tryz.prog Rows.fnMeetsRow.laid w) :
    Calls Tryz.prog 4 #[.slice A len cap] w fun e w' => e = .returned (.bool true) ∧ Below w.heap.size w w' := by
  obtain ⟨a0, hE⟩ := errAt_of hL
  exact law_FnMeets w a0 hE A len cap (code_of_row hrow)
end Go.Proofs.YtbnjaaegbmhopaaGreatDoor
end
section
namespace Go.Proofs.YtbnjaaegbmhopaaGreatDoor.fnMeets
open Go.ChangeShapes Go.WideShapes Go.ChangeAt Go.WideMaps Go.WideElems Go.RowKit
open Go.ChangeMaps (open_string shut_string)
set_option linter.unusedVariables false

theorem own : ownKnob Tryz.prog.godebug = none := by kernel_rfl
theorem laidOut : laidOutB Tryz.prog = true := by kernel_rfl

/-- What the package-level variables hold behind the program's own initialisers meets the row's condition. -/
theorem door_met (os : Os) (args : Array Value) : laidMetH Tryz.prog Rows.fnMeetsRow.laid ((World.doorLaid Tryz.prog 28 os).forCall (fun _ _ => 0) ⟨#[], args, []⟩).memory :=
  laidMetH_of_parts3 (fuel := 8) (laidMet_of_run' 8 (by kernel_rfl) (by kernel_rfl)) (by kernel_rfl) (by kernel_rfl)

set_option maxRecDepth 100000 in
theorem lifted (os : Os) (started : os.Started) (H : Type) (enc : TypeId × Value → H) :
    ReturnsInHanded {} Tryz.checked os 4 .any (fun w args => (Rows.fnMeetsSpec.pre enc Tryz.prog Tryz.f4 [] false w args ∧ laidMetH Tryz.prog Rows.fnMeetsRow.laid w) ∧ sizedMet enc Tryz.prog Tryz.f4 (OpenSpec.ofChange Rows.fnMeetsSpec) false w args)
      (Rows.fnMeetsSpec.post enc Tryz.prog Tryz.f4 false true false false) := by
  refine returnsInHanded_of_change_and (C := Tryz.checked) (X := fun w _ => laidMetH Tryz.prog Rows.fnMeetsRow.laid w) (fun _ _ _ hh h => h.of_heap hh) own started (by kernel_rfl) Tryz.func4
    (ChangeSpec.witness_shaped (enc := enc) (C := Tryz.checked) (os := os) (X := fun w _ => laidMetH Tryz.prog Rows.fnMeetsRow.laid w) false (World.doorLaid Tryz.prog 28 os) #[.slice none 0 0] 8 rfl (World.shaped_of_RefB (by kernel_rfl) (by kernel_rfl)) (by kernel_rfl) (by kernel_rfl) (by kernel_rfl) (door_met os _)) ?_
  intro W base args ds gs before hval0 hW _ hsz0 hL0 _
  have hsz : (DataW.weightsEach Tryz.prog (Tryz.f4.params.toList ++ Rows.fnMeetsSpec.plain.varTypes Tryz.prog) (ds ++ gs)).all (· ≤ reachBytes) = true := hsz0
  clear hsz0
  have hL : laidMet Tryz.prog Rows.fnMeetsRow.laid W := by rw [MakeChecks.laidMetH_plain _ _ _ (by kernel_rfl)] at hL0; exact hL0
  have hval : ∀ (j : Nat) t v, Tryz.f4.params[j]? = some t → args[j]? = some v → Value.okWide Tryz.prog W .any base t v := hval0
  have hW' := hW
  obtain ⟨p, q, hA0, hV, rfl, hfz, hnd⟩ := hW
  have hA : DataW.TrodAll enc Tryz.prog W 0 (fun _ => true) true Tryz.f4.params.toList args.toList ds p := hA0
  rw [Tryz.params4] at hA hval hsz
  obtain ⟨v0, vs0, d0, ds0, p0, q0, hargs, rfl, rfl, h0, r0⟩ := trodAll_cons hA
  obtain ⟨rfl, rfl, rfl⟩ := trodAll_nil r0
  obtain rfl : args = #[v0] := by cases args; simp_all
  obtain ⟨a0, hv0⟩ := errVar_of hL
  have hV1 : DataW.TrodVars enc Tryz.prog W (fun _ => true) ["loop.example/g03005/impl.errNoRing"] gs q := hV
  obtain ⟨rfl, rfl⟩ := hV1.unique (errVars enc hv0 _)
  obtain ⟨a0, len0, cap0, rfl⟩ := okWide_slice Tryz.underlying22 (hval 0 22 v0 rfl rfl)
  have k0 := h0
  have lt0 : ∀ x ∈ p0, x.block < W.heap.size := by obtain ⟨m, hm⟩ := k0; exact DataW.trod_lt m _ _ _ hm
  obtain ⟨z0, w0⟩ : ∃ zs, IsRow .u8 W a0 len0 cap0 zs := by
    obtain ⟨fuel, hf⟩ := h0
    rcases open_ints Tryz.underlying22 Tryz.underlying5 (by kernel_rfl) hf with ⟨hcs, _⟩ | ⟨x, l, c, zs, hcs, _, hl, hm, hz, _, hcell, hwz⟩
    · simp [Value.cells] at hcs
      obtain ⟨rfl, rfl, rfl⟩ := hcs
      exact ⟨[], .inl ⟨rfl, rfl, rfl, rfl⟩⟩
    · simp [Value.cells] at hcs
      obtain ⟨rfl, rfl, rfl⟩ := hcs
      exact ⟨zs, .inr ⟨_, rfl, hl, hm, by simpa using hz, hcell, hwz⟩⟩
  clear hA0 hval0
  refine (law_FnMeets_laid W a0 len0 cap0 z0 w0 hL).mono fun e W' ⟨he, bel⟩ => ?_
  subst he
  exact ⟨_, rfl, _, _, _, [], _, _, hW', trodAll_mk1 (shut_bool Tryz.underlying4 _), (trodAll_cons_mk (Below.trod laidOut (by kernel_rfl) (of_decide_eq_true (by kernel_rfl)) k0 bel lt0) trodAll_mk0), errVars enc (errVar_below hv0 bel) _, bel.frame _, fun h => by cases h⟩

theorem over : Rows.fnMeetsRow.holds Tryz.pinned (OpenSpec.ofChange Rows.fnMeetsSpec) :=
  OpenClaim.holds_of_wide 4 Tryz.f4 rfl rfl rfl rfl rfl rfl rfl ⟨rfl, rfl, rfl, rfl, rfl⟩ rfl rfl rfl rfl rfl (by kernel_rfl) Tryz.func4 (by kernel_rfl)
    (of_decide_eq_true (by kernel_rfl)) (by unfold Func.isWrapper; first | (rw [if_pos (by decide +kernel)]; kernel_rfl) | (rw [if_neg (by decide +kernel)]; exact ⟨rfl, rfl⟩))
    (fun os started H enc _ => lifted os started H enc)

/-- THE STATEMENT. -/
theorem proved : Rows.FnMeetsCardSaid :=
  Claim7.holds_tied_plain_at .later [] [.sentinel] true (true, "4fd9553954a1f4fcd77f7bf2d22849ecbae6f39362e0ed4adff318da18115798") true
    over (fun _ h => by cases h) (by kernel_rfl) (fun _ h => by cases h) fnMeets_row_tie rfl ⟨rfl, rfl⟩ (by kernel_rfl) rfl
    (fun f fn hf hfn => by
      obtain rfl : f = 4 := Option.some.inj ((show Tryz.prog.funcNamed "loop.example/g03005/laws.FnMeets" = some 4 by kernel_rfl).symm.trans hf) |>.symm
      obtain rfl : fn = Tryz.f4 := (Option.some.inj (Tryz.func4.symm.trans hfn)).symm
      exact ⟨by kernel_rfl, fun j t ht => by
        rw [Tryz.params4] at ht
        have hm : t ∈ [22] := by simpa using Array.mem_of_getElem? ht
        have hall : ([22].all fun u => !Tryz.prog.wantsStandIn u) = true := by kernel_rfl
        exact (show Tryz.prog.wantsStandIn t = false by simpa using List.all_eq_true.1 hall t hm)⟩)
    (by kernel_rfl)
#print axioms proved
end Go.Proofs.YtbnjaaegbmhopaaGreatDoor.fnMeets
end

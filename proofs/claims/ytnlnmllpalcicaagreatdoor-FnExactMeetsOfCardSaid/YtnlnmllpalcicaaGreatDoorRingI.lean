/- IsRing, TwiceArea and RingSegments of package impl. -/
import Derived.Test.YtnlnmllpalcicaaGreatDoorJoin
namespace Go.Proofs.YtnlnmllpalcicaaGreatDoor
open Go.ChangeShapes Go.WideShapes Go.ChangeAt Go.RowKit
set_option linter.unusedVariables false

theorem joinRing_yes (a0 : Addr) (A : Option Addr) (c : Nat) (l : List (Int × Int)) (w : World) (hE : ErrAt a0 w) (hs : SeesE 2 encPoint w w.heap.size A l) (hl : l.length ≤ 274877906944) (hlc : l.length ≤ c) (hc : (c : Int) ≤ 9223372036854775807) (hz : isRg l = true) :
    Calls Tryz.prog 71 #[.slice A l.length c] w fun e w' => ∃ A c L, Hid (L = rgS l) ∧ e = .returned (.tuple #[.slice A L.length c, .nilIface]) ∧ OwnE 4 encSegment w' w.heap.size 74 (.slice A L.length c) L ∧ Below w.heap.size w w' :=
  (joinRing_any a0 A c l w hE hs hl hlc hc).mono fun e w' h => h.elim (fun h => h.2) (fun h => absurd (hz.symm.trans h.1) (by decide))
theorem joinRing_no (a0 : Addr) (A : Option Addr) (c : Nat) (l : List (Int × Int)) (w : World) (hE : ErrAt a0 w) (hs : SeesE 2 encPoint w w.heap.size A l) (hl : l.length ≤ 274877906944) (hlc : l.length ≤ c) (hc : (c : Int) ≤ 9223372036854775807) (hz : isRg l = false) :
    Calls Tryz.prog 71 #[.slice A l.length c] w fun e w' => e = .returned (.tuple #[.slice none 0 0, .iface 185 (.pointer (some a0))]) ∧ Below w.heap.size w w' :=
  (joinRing_any a0 A c l w hE hs hl hlc hc).mono fun e w' h => h.elim (fun h => absurd (hz.symm.trans h.1) (by decide)) (fun h => h.2)
set_option maxRecDepth 100000 in
set_option maxHeartbeats 1000000 in
theorem isRing_is (a0 : Addr) (A : Option Addr) (c : Nat) (l : List (Int × Int)) (w : World) (hE : ErrAt a0 w) (hs : SeesE 2 encPoint w w.heap.size A l) (hl : l.length ≤ 274877906944) (hlc : l.length ≤ c) (hc : (c : Int) ≤ 9223372036854775807) (z : Bool) (hz : isRg l = z) :
    Calls Tryz.prog 153 #[.slice A l.length c] w fun e w' => e = .returned (.bool z) ∧ Below w.heap.size w w' := by
  have HE := Lib.hid hE
  have HS := Lib.hid hs
  clear hE hs
  go_enter Tryz.func153, Tryz.ntmps153
  cases z
  · go_wp2_with fail
    refine (joinRing_no a0 A c l _ HE.out HS.out hl hlc hc hz).mono ?_
    rintro e w1 ⟨rfl, hb1⟩
    have hE1 : ErrAt a0 w1 := HE.out.all hb1
    unfold ErrAt at hE1
    have HB1 := Lib.hid hb1
    clear hb1
    go_wp2_with (go_at_call 72; refine (is_same a0 _).mono ?_; rintro e w2 ⟨rfl, rfl⟩)
    go_ret
    exact ⟨rfl, HB1.out⟩
  · go_wp2_with fail
    refine (joinRing_yes a0 A c l _ HE.out HS.out hl hlc hc hz).mono ?_
    rintro e w1 ⟨A1, c1, L, hL, rfl, ho1, hb1⟩
    have hE1 : ErrAt a0 w1 := HE.out.all hb1
    unfold ErrAt at hE1
    have HB1 := Lib.hid hb1; have HO1 := Lib.hid ho1; have HL := hL
    clear hb1 ho1 hL
    go_wp2_with (go_at_call 72; refine (is_nil a0 _).mono ?_; rintro e w2 ⟨rfl, rfl⟩)
    go_ret
    exact ⟨rfl, HB1.out⟩
/-- The ring's segments, or none. -/
def rsV (l : List (Int × Int)) : List (Int × Int × Int × Int) := if isRg l = true then rgS l else []
theorem rsV_len (l : List (Int × Int)) : (rsV l).length ≤ l.length := by
  unfold rsV; split
  · rw [rgS_len]; exact Nat.le_refl _
  · simp
set_option maxRecDepth 100000 in
set_option maxHeartbeats 1000000 in
theorem ringSegments_any (a0 : Addr) (A : Option Addr) (c : Nat) (l : List (Int × Int)) (w : World) (hE : ErrAt a0 w) (hs : SeesE 2 encPoint w w.heap.size A l) (hl : l.length ≤ 274877906944) (hlc : l.length ≤ c) (hc : (c : Int) ≤ 9223372036854775807) :
    Calls Tryz.prog 44 #[.slice A l.length c] w (GivesE 4 encSegment 74 (rsV l) w) := by
  have HE := Lib.hid hE
  have HS := Lib.hid hs
  clear hE hs
  cases hz : isRg l
  · have HV : Hid (rsV l = []) := Lib.hid (by unfold rsV; rw [hz]; rfl)
    go_enter Tryz.func44, Tryz.ntmps44
    go_wp2_with fail
    refine (joinRing_no a0 A c l _ HE.out HS.out hl hlc hc hz).mono ?_
    rintro e w1 ⟨rfl, hb1⟩
    have hE1 : ErrAt a0 w1 := HE.out.all hb1
    unfold ErrAt at hE1
    have HB1 := Lib.hid hb1
    clear hb1
    go_wp2_with (go_at_call 72; refine (is_same a0 _).mono ?_; rintro e w2 ⟨rfl, rfl⟩)
    go_ret
    exact ⟨_, _, [], Lib.hid HV.out.symm, rfl, (OwnE.lit w2 w2.heap.size 74 (Nat.le_refl _)).mono HB1.out.size, HB1.out.alloc HB1.out.size _⟩
  · have HV : Hid (rsV l = rgS l) := Lib.hid (by unfold rsV; rw [hz]; rfl)
    go_enter Tryz.func44, Tryz.ntmps44
    go_wp2_with fail
    refine (joinRing_yes a0 A c l _ HE.out HS.out hl hlc hc hz).mono ?_
    rintro e w1 ⟨A1, c1, L, hL, rfl, ho1, hb1⟩
    have hE1 : ErrAt a0 w1 := HE.out.all hb1
    unfold ErrAt at hE1
    have HB1 := Lib.hid hb1; have HO1 := Lib.hid ho1; have HL := hL
    clear hb1 ho1 hL
    go_wp2_with (go_at_call 72; refine (is_nil a0 _).mono ?_; rintro e w2 ⟨rfl, rfl⟩)
    go_ret
    exact ⟨A1, c1, L, Lib.hid (by rw [HL.out, HV.out]), rfl, HO1.out, HB1.out⟩
/-- The area's sum. -/
def arV (S : List (Int × Int × Int × Int)) : Int := (S.map arS).sum
theorem arV_take {S : List (Int × Int × Int × Int)} {j : Nat} {x : Int × Int × Int × Int} (h : S[j]? = some x) : arV (S.take j) + arS x = arV (S.take (j + 1)) := by
  unfold arV
  rw [List.take_add_one, h, List.map_append, List.sum_append]
  simp
theorem arS_bd {x : Int × Int × Int × Int} (h : sOk x = true) : (0 ≤ x.1 * x.2.2.2 ∧ x.1 * x.2.2.2 ≤ 40000) ∧ (0 ≤ x.2.1 * x.2.2.1 ∧ x.2.1 * x.2.2.1 ≤ 40000) := by
  obtain ⟨h1, h2, -⟩ := isS_at h
  exact ⟨⟨Int.mul_nonneg h1.1 h2.2.2.1, Int.le_trans (Int.mul_le_mul h1.2.1 h2.2.2.2 h2.2.2.1 (by omega)) (by omega)⟩, ⟨Int.mul_nonneg h1.2.2.1 h2.1, Int.le_trans (Int.mul_le_mul h1.2.2.2 h2.2.1 h2.1 (by omega)) (by omega)⟩⟩
theorem arV_bd {S : List (Int × Int × Int × Int)} (h : ∀ x ∈ S, sOk x = true) : -(40000 * (S.length : Int)) ≤ arV S ∧ arV S ≤ 40000 * (S.length : Int) := by
  induction S with
  | nil => simp [arV]
  | cons x t ih =>
    have h1 := ih fun y hy => h y (List.mem_cons_of_mem _ hy)
    have h2 := arS_bd (h x List.mem_cons_self)
    have h3 : arV (x :: t) = arS x + arV t := by simp [arV]
    have h4 : arS x = x.1 * x.2.2.2 - x.2.1 * x.2.2.1 := rfl
    rw [List.length_cons, h3, h4]
    omega
theorem arV_bd_take {S : List (Int × Int × Int × Int)} (h : ∀ x ∈ S, sOk x = true) (hn : S.length ≤ 10) (j : Nat) : -400000 ≤ arV (S.take j) ∧ arV (S.take j) ≤ 400000 := by
  have := arV_bd (S := S.take j) (fun x hx => h x (List.mem_of_mem_take hx))
  have hl : (S.take j).length ≤ 10 := by rw [List.length_take]; omega
  omega
theorem twA_yes {l : List (Int × Int)} (h : isRg l = true) : twA l = arV (rgS l) := by unfold twA; rw [if_pos h]; rfl
theorem twA_no {l : List (Int × Int)} (h : isRg l = false) : twA l = 0 := by unfold twA; rw [h]; rfl
end Go.Proofs.YtnlnmllpalcicaaGreatDoor

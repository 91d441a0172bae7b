/- IsRing, TwiceArea and RingSegments of package impl. -/
import Derived.Test.YtbnjaaegbmhopaaGreatDoorJoin
namespace Go.Proofs.YtbnjaaegbmhopaaGreatDoor
open Go.ChangeShapes Go.WideShapes Go.ChangeAt Go.RowKit
set_option linter.unusedVariables false

theorem joinRing_yes (a0 : Addr) (A : Option Addr) (c : Nat) (l : List (Int × Int)) (w : World) (hE : ErrAt a0 w) (hs : SeesE 2 encPoint w w.heap.size A l) (hl : l.length ≤ 274877906944) (hlc : l.length ≤ c) (hc : (c : Int) ≤ 9223372036854775807) (hz : isRg l = true) :
    Calls Tryz.prog 45 #[.slice A l.length c] w fun e w' => ∃ A c L, Hid (L = rgS l) ∧ e = .returned (.tuple #[.slice A L.length c, .nilIface]) ∧ OwnE 4 encSegment w' w.heap.size 78 (.slice A L.length c) L ∧ Below w.heap.size w w' :=
  (joinRing_any a0 A c l w hE hs hl hlc hc).mono fun e w' h => h.elim (fun h => h.2) (fun h => absurd (hz.symm.trans h.1) (by decide))
theorem joinRing_no (a0 : Addr) (A : Option Addr) (c : Nat) (l : List (Int × Int)) (w : World) (hE : ErrAt a0 w) (hs : SeesE 2 encPoint w w.heap.size A l) (hl : l.length ≤ 274877906944) (hlc : l.length ≤ c) (hc : (c : Int) ≤ 9223372036854775807) (hz : isRg l = false) :
    Calls Tryz.prog 45 #[.slice A l.length c] w fun e w' => e = .returned (.tuple #[.slice none 0 0, .iface 221 (.pointer (some a0))]) ∧ Below w.heap.size w w' :=
  (joinRing_any a0 A c l w hE hs hl hlc hc).mono fun e w' h => h.elim (fun h => absurd (hz.symm.trans h.1) (by decide)) (fun h => h.2)
set_option maxRecDepth 100000 in
set_option maxHeartbeats 1000000 in
theorem isRing_is (a0 : Addr) (A : Option Addr) (c : Nat) (l : List (Int × Int)) (w : World) (hE : ErrAt a0 w) (hs : SeesE 2 encPoint w w.heap.size A l) (hl : l.length ≤ 274877906944) (hlc : l.length ≤ c) (hc : (c : Int) ≤ 9223372036854775807) (z : Bool) (hz : isRg l = z) :
    Calls Tryz.prog 10 #[.slice A l.length c] w fun e w' => e = .returned (.bool z) ∧ Below w.heap.size w w' := by
  have HE := Lib.hid hE
  have HS := Lib.hid hs
  clear hE hs
  go_enter Tryz.func10, Tryz.ntmps10
  cases z
  · go_wp2_with fail
    refine (joinRing_no a0 A c l _ HE.out HS.out hl hlc hc hz).mono ?_
    rintro e w1 ⟨rfl, hb1⟩
    have hE1 : ErrAt a0 w1 := HE.out.all hb1
    unfold ErrAt at hE1
    have HB1 := Lib.hid hb1
    clear hb1
    go_wp2_with (go_at_call 46; refine (is_same a0 _).mono ?_; rintro e w2 ⟨rfl, rfl⟩)
    go_ret
    exact ⟨rfl, HB1.out⟩
  · go_wp2_with fail
    refine (joinRing_yes a0 A c l _ HE.out HS.out hl hlc hc hz).mono ?_
    rintro e w1 ⟨A1, c1, L, hL, rfl, ho1, hb1⟩
    have hE1 : ErrAt a0 w1 := HE.out.all hb1
    unfold ErrAt at hE1
    have HB1 := Lib.hid hb1; have HO1 := Lib.hid ho1; have HL := hL
    clear hb1 ho1 hL
    go_wp2_with (go_at_call 46; refine (is_nil a0 _).mono ?_; rintro e w2 ⟨rfl, rfl⟩)
    go_ret
    exact ⟨rfl, HB1.out⟩
/-- The ring's segments, or none. -/
def rsV (l : List (Int × Int)) : List (Int × Int × Int × Int) := if isRg l = true then rgS l else []
theorem rsV_len (l : List (Int × Int)) : (rsV l).length ≤ l.length := by
  unfold rsV; split
  · rw [rgS_len]; exact Nat.le_refl _
  · simp
set_option maxRecDepth 100000 in
set_option maxHeartbeats 1000000 in
theorem ringSegments_any (a0 : Addr) (A : Option Addr) (c : Nat) (l : List (Int × Int)) (w : World) (hE : ErrAt a0 w) (hs : SeesE 2 encPoint w w.heap.size A l) (hl : l.length ≤ 274877906944) (hlc : l.length ≤ c) (hc : (c : Int) ≤ 9223372036854775807) :
    Calls Tryz.prog 17 #[.slice A l.length c] w (GivesE 4 encSegment 78 (rsV l) w) := by
  have HE := Lib.hid hE
  have HS := Lib.hid hs
  clear hE hs
  cases hz : isRg l
  · have HV : Hid (rsV l = []) := Lib.hid (by unfold rsV; rw [hz]; rfl)
    go_enter Tryz.func17, Tryz.ntmps17
    go_wp2_with fail
    refine (joinRing_no a0 A c l _ HE.out HS.out hl hlc hc hz).mono ?_
    rintro e w1 ⟨rfl, hb1⟩
    have hE1 : ErrAt a0 w1 := HE.out.all hb1
    unfold ErrAt at hE1
    have HB1 := Lib.hid hb1
    clear hb1
    go_wp2_with (go_at_call 46; refine (is_same a0 _).mono ?_; rintro e w2 ⟨rfl, rfl⟩)
    go_ret
    exact ⟨_, _, [], Lib.hid HV.out.symm, rfl, (OwnE.lit w2 w2.heap.size 78 (Nat.le_refl _)).mono HB1.out.size, HB1.out.alloc HB1.out.size _⟩
  · have HV : Hid (rsV l = rgS l) := Lib.hid (by unfold rsV; rw [hz]; rfl)
    go_enter Tryz.func17, Tryz.ntmps17
    go_wp2_with fail
    refine (joinRing_yes a0 A c l _ HE.out HS.out hl hlc hc hz).mono ?_
    rintro e w1 ⟨A1, c1, L, hL, rfl, ho1, hb1⟩
    have hE1 : ErrAt a0 w1 := HE.out.all hb1
    unfold ErrAt at hE1
    have HB1 := Lib.hid hb1; have HO1 := Lib.hid ho1; have HL := hL
    clear hb1 ho1 hL
    go_wp2_with (go_at_call 46; refine (is_nil a0 _).mono ?_; rintro e w2 ⟨rfl, rfl⟩)
    go_ret
    exact ⟨A1, c1, L, Lib.hid (by rw [HL.out, HV.out]), rfl, HO1.out, HB1.out⟩
/-- The area's sum. -/
def arV (S : List (Int × Int × Int × Int)) : Int := (S.map arS).sum
theorem arV_take {S : List (Int × Int × Int × Int)} {j : Nat} {x : Int × Int × Int × Int} (h : S[j]? = some x) : arV (S.take j) + arS x = arV (S.take (j + 1)) := by
  unfold arV
  rw [List.take_add_one, h, List.map_append, List.sum_append]
  simp
theorem arS_bd {x : Int × Int × Int × Int} (h : sOk x = true) : (0 ≤ x.1 * x.2.2.2 ∧ x.1 * x.2.2.2 ≤ 40000) ∧ (0 ≤ x.2.1 * x.2.2.1 ∧ x.2.1 * x.2.2.1 ≤ 40000) := by
  obtain ⟨h1, h2, -⟩ := isS_at h
  exact ⟨⟨Int.mul_nonneg h1.1 h2.2.2.1, Int.le_trans (Int.mul_le_mul h1.2.1 h2.2.2.2 h2.2.2.1 (by omega)) (by omega)⟩, ⟨Int.mul_nonneg h1.2.2.1 h2.1, Int.le_trans (Int.mul_le_mul h1.2.2.2 h2.2.1 h2.1 (by omega)) (by omega)⟩⟩
theorem arV_bd {S : List (Int × Int × Int × Int)} (h : ∀ x ∈ S, sOk x = true) : -(40000 * (S.length : Int)) ≤ arV S ∧ arV S ≤ 40000 * (S.length : Int) := by
  induction S with
  | nil => simp [arV]
  | cons x t ih =>
    have h1 := ih fun y hy => h y (List.mem_cons_of_mem _ hy)
    have h2 := arS_bd (h x List.mem_cons_self)
    have h3 : arV (x :: t) = arS x + arV t := by simp [arV]
    have h4 : arS x = x.1 * x.2.2.2 - x.2.1 * x.2.2.1 := rfl
    rw [List.length_cons, h3, h4]
    omega
theorem arV_bd_take {S : List (Int × Int × Int × Int)} (h : ∀ x ∈ S, sOk x = true) (hn : S.length ≤ 10) (j : Nat) : -400000 ≤ arV (S.take j) ∧ arV (S.take j) ≤ 400000 := by
  have := arV_bd (S := S.take j) (fun x hx => h x (List.mem_of_mem_take hx))
  have hl : (S.take j).length ≤ 10 := by rw [List.length_take]; omega
  omega
theorem twA_yes {l : List (Int × Int)} (h : isRg l = true) : twA l = arV (rgS l) := by unfold twA; rw [if_pos h]; rfl
theorem twA_no {l : List (Int × Int)} (h : isRg l = false) : twA l = 0 := by unfold twA; rw [h]; rfl
set_option maxRecDepth 100000 in
set_option maxHeartbeats 1000000 in
theorem twiceArea_is (a0 : Addr) (A : Option Addr) (c : Nat) (l : List (Int × Int)) (w : World) (hE : ErrAt a0 w) (hs : SeesE 2 encPoint w w.heap.size A l) (hl : l.length ≤ 274877906944) (hlc : l.length ≤ c) (hc : (c : Int) ≤ 9223372036854775807) (z : Int) (hz : twA l = z) :
    Calls Tryz.prog 11 #[.slice A l.length c] w fun e w' => e = .returned (.int .i64 z) ∧ Below w.heap.size w w' := by
  have HE := Lib.hid hE
  have HS := Lib.hid hs
  have HV := Lib.hid hz
  clear hE hs hz
  cases hz : isRg l
  · obtain rfl : z = 0 := by rw [← HV.out, twA_no hz]
    go_enter Tryz.func11, Tryz.ntmps11
    go_wp2_with fail
    refine (joinRing_no a0 A c l _ HE.out HS.out hl hlc hc hz).mono ?_
    rintro e w1 ⟨rfl, hb1⟩
    have hE1 : ErrAt a0 w1 := HE.out.all hb1
    unfold ErrAt at hE1
    have HB1 := Lib.hid hb1
    clear hb1
    go_wp2_with (go_at_call 46; refine (is_same a0 _).mono ?_; rintro e w2 ⟨rfl, rfl⟩)
    go_ret
    exact ⟨rfl, HB1.out⟩
  · have HOK : Hid ((∀ x ∈ rgS l, sOk x = true) ∧ (rgS l).length ≤ 10) := Lib.hid ⟨((isRg_iff l).1 hz).2.1, by rw [rgS_len]; exact ((isRg_iff l).1 hz).1.2⟩
    have HW : Hid (arV (rgS l) = z) := Lib.hid (by rw [← twA_yes hz]; exact HV.out)
    go_enter Tryz.func11, Tryz.ntmps11
    go_wp2_with fail
    refine (joinRing_yes a0 A c l _ HE.out HS.out hl hlc hc hz).mono ?_
    rintro e w1 ⟨A1, c1, L, hL, rfl, ho1, hb1⟩
    have hE1 : ErrAt a0 w1 := HE.out.all hb1
    unfold ErrAt at hE1
    have HB1 := Lib.hid hb1; have HO1 := Lib.hid ho1; have HL := hL
    clear hb1 ho1 hL
    go_wp2_with (go_at_call 46; refine (is_nil a0 _).mono ?_; rintro e w2 ⟨rfl, rfl⟩)
    have h10 : L.length ≤ 10 := by rw [HL.out]; exact HOK.out.2
    go_loopw [5, 18] (fun n i wr => ∃ j : Nat, j ≤ L.length ∧ n = .int .i64 (arV (L.take j)) ∧ i = .int .i64 j ∧ Hid (OwnE 4 encSegment wr w.heap.size 78 (.slice A1 L.length c1) L) ∧ Hid (Below w.heap.size w wr)) (fun _ i _ => L.length - (intOf i).toNat)
    case atStart => exact ⟨0, Nat.zero_le _, rfl, rfl, HO1, HB1⟩
    case round =>
      obtain ⟨j, hj, rfl, rfl, HO, HB⟩ := hrel
      clear HO1 HB1
      by_cases hlt : j < L.length
      · have hlt' : (j : Int) < (L.length : Int) := by omega
        obtain ⟨b, off, x, rfl, hbl, hx, -⟩ := (HO.out.sees elSegment).lt hlt
        obtain ⟨k0, k1, k2, k3⟩ := cells4 (HO.out.sees elSegment) hx
        have hx' : sOk x = true := HOK.out.1 x (by rw [← HL.out]; exact List.mem_of_getElem? hx)
        obtain ⟨⟨p0, p1⟩, q0, q1⟩ := arS_bd hx'
        obtain ⟨N, hN⟩ : ∃ N, arV (L.take j) = N := ⟨_, rfl⟩
        have hNb : -400000 ≤ N ∧ N ≤ 400000 := by rw [← hN]; exact arV_bd_take (by rw [HL.out]; exact HOK.out.1) h10 j
        have HT : Hid (N + (x.1 * x.2.2.2 - x.2.1 * x.2.2.1) = arV (L.take (j + 1))) := Lib.hid (by rw [← hN]; exact arV_take hx)
        rw [hN]
        clear hN hx hx'
        go_wp2
        go_roundw
        case rel => exact ⟨j + 1, by omega, by rw [← HT.out], by go_num, Lib.hid (HO.out.alloc _), Lib.hid (HB.out.alloc HB.out.size _)⟩
        case measure => simp [intOf]; omega
      · obtain rfl : j = L.length := by omega
        rw [List.take_length]
        go_wp2
        go_ret
        exact ⟨by rw [← HW.out, HL.out]; rfl, HB.out⟩
end Go.Proofs.YtbnjaaegbmhopaaGreatDoor

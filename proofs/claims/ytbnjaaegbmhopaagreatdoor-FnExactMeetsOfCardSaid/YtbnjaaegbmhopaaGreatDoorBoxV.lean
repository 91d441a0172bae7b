/- Boxes: values. -/
import Derived.Test.YtbnjaaegbmhopaaGreatDoorSeg
import Derived.Test.YtbnjaaegbmhopaaGreatDoorVars2
namespace Go.Proofs.YtbnjaaegbmhopaaGreatDoor
open Go.ChangeShapes Go.WideShapes Go.ChangeAt Go.RowKit
set_option linter.unusedVariables false

/-- Is it a box? -/
def isBx (a b c d : Int) : Bool := isP a b && (isP c d && (decide (a ≤ c) && decide (b ≤ d)))
theorem isBx_1 {a b c d : Int} (h : isP a b = false) : isBx a b c d = false := by simp [isBx, h]
theorem isBx_2 {a b c d : Int} (h : isP c d = false) : isBx a b c d = false := by simp [isBx, h]
theorem isBx_3 {a b c d : Int} (h : ¬ a ≤ c) : isBx a b c d = false := by simp [isBx, h]
theorem isBx_4 {a b c d : Int} (h : ¬ b ≤ d) : isBx a b c d = false := by simp [isBx, h]
theorem isBx_yes {a b c d : Int} (h1 : isP a b = true) (h2 : isP c d = true) (h3 : a ≤ c) (h4 : b ≤ d) : isBx a b c d = true := by simp [isBx, h1, h2, h3, h4]
theorem isBx_at {a b c d : Int} (h : isBx a b c d = true) : (0 ≤ a ∧ c ≤ 200 ∧ 0 ≤ b ∧ d ≤ 200) ∧ a ≤ c ∧ b ≤ d := by
  simp only [isBx, Bool.and_eq_true, decide_eq_true_eq] at h
  have h1 := isP_bd h.1
  have h2 := isP_bd h.2.1
  omega
/-- Have two boxes a point in common? -/
def mtB (a b c d p q r s : Int) : Bool := isBx a b c d && (isBx p q r s && (decide (a ≤ r) && (decide (p ≤ c) && (decide (b ≤ s) && decide (q ≤ d)))))
/-- An area? -/
def ovB (a b c d p q r s : Int) : Bool := isBx a b c d && (isBx p q r s && (decide (max a p < min c r) && decide (max b q < min d s)))
/-- Is a point in a box? -/
def inBx (a b c d x y : Int) : Bool := isBx a b c d && (inB x a c && inB y b d)
theorem ov_1 {a b c d p q r s : Int} (h : isBx a b c d = false) : ovB a b c d p q r s = false := by simp [ovB, h]
theorem ov_2 {a b c d p q r s : Int} (h : isBx p q r s = false) : ovB a b c d p q r s = false := by simp [ovB, h]
theorem ov_3 {a b c d p q r s : Int} (h : ¬ max a p < min c r) : ovB a b c d p q r s = false := by simp only [ovB, decide_eq_false h, Bool.false_and, Bool.and_false]
theorem ov_4 {a b c d p q r s : Int} (h : isBx a b c d = true) (h1 : isBx p q r s = true) (h2 : max a p < min c r) : ovB a b c d p q r s = decide (max b q < min d s) := by simp only [ovB, h, h1, decide_eq_true h2, Bool.true_and]
theorem inBx_1 {a b c d x y : Int} (h : isBx a b c d = false) : inBx a b c d x y = false := by simp [inBx, h]
theorem inBx_2 {a b c d x y : Int} (h : inB x a c = false) : inBx a b c d x y = false := by simp [inBx, h]
theorem inBx_3 {a b c d x y : Int} (h : isBx a b c d = true) (h1 : inB x a c = true) : inBx a b c d x y = inB y b d := by simp [inBx, h, h1]
/-- A box and whether it is one. -/
abbrev BxR := (Int × Int × Int × Int) × Bool
abbrev bxV (r : BxR) : Value := .tuple #[SegV r.1.1 r.1.2.1 r.1.2.2.1 r.1.2.2.2, .bool r.2]
/-- Grown by n on all sides. -/
def growV (a b c d n : Int) : BxR := if isBx a b c d && inB n 0 200 then ((max 0 (a - n), max 0 (b - n), min 200 (c + n), min 200 (d + n)), true) else ((a, b, c, d), false)
theorem grow_1 {a b c d n : Int} (h : isBx a b c d = false) : growV a b c d n = ((a, b, c, d), false) := by simp [growV, h]
theorem grow_2 {a b c d n : Int} (h : inB n 0 200 = false) : growV a b c d n = ((a, b, c, d), false) := by simp [growV, h]
theorem grow_3 {a b c d n : Int} (h : isBx a b c d = true) (h1 : inB n 0 200 = true) : growV a b c d n = ((max 0 (a - n), max 0 (b - n), min 200 (c + n), min 200 (d + n)), true) := by simp [growV, h, h1]
theorem ret_bx {r s : BxR} (h : r = s) : Ending.returned (bxV r) = .returned (bxV s) := by rw [h]
/-- The least box with all points of a list behind a box. -/
def bxF (r : Int × Int × Int × Int) (p : Int × Int) : Int × Int × Int × Int := (min r.1 p.1, min r.2.1 p.2, max r.2.2.1 p.1, max r.2.2.2 p.2)
def boxOfV (l : List (Int × Int)) : BxR := match l with
  | [] => ((0, 0, 0, 0), false)
  | p :: t => if (p :: t).all (fun q => isP q.1 q.2) then ((p :: t).foldl bxF (p.1, p.2, p.1, p.2), true) else ((0, 0, 0, 0), false)
theorem boxOf_no {l : List (Int × Int)} {j : Nat} {x y : Int} (h : l[j]? = some (x, y)) (hp : isP x y = false) : boxOfV l = ((0, 0, 0, 0), false) := by
  cases l with
  | nil => rfl
  | cons p t =>
    have : (p :: t).all (fun q => isP q.1 q.2) = false := by
      rw [List.all_eq_false]
      exact ⟨(x, y), List.mem_of_getElem? h, by simp [hp]⟩
    simp only [boxOfV, this]
    rfl
theorem boxOf_yes {l : List (Int × Int)} {x y : Int} (h : l[0]? = some (x, y)) (hp : ∀ (j : Nat) (p : Int × Int), l[j]? = some p → isP p.1 p.2 = true) : boxOfV l = (l.foldl bxF (x, y, x, y), true) := by
  cases l with
  | nil => cases h
  | cons p t =>
    obtain rfl : p = (x, y) := by simpa using h
    have : ((x, y) :: t).all (fun q => isP q.1 q.2) = true := List.all_eq_true.2 fun q hq => by
      obtain ⟨j, hj⟩ := List.getElem?_of_mem hq
      exact hp j q hj
    simp only [boxOfV, this]
    rfl
theorem bxF_take {l : List (Int × Int)} {j : Nat} {p : Int × Int} (r : Int × Int × Int × Int) (h : l[j]? = some p) : (l.take (j + 1)).foldl bxF r = bxF ((l.take j).foldl bxF r) p := by
  rw [List.take_add_one, h]; simp
theorem smaxB (a b : Int) (w : World) : Calls Tryz.prog 112 #[.int .i64 a, .int .i64 b] w fun e w' => e = .returned (.int .i64 (max a b)) ∧ Below w.heap.size w w' := by
  rw [← ext_max]
  first
    | exact (smax_any a b w).mono fun e w' h => ⟨h.1, h.2 ▸ Below.refl _ _⟩
    | (go_enter Tryz.func112, Tryz.ntmps112
       go_wp2_with (go_at_call 128; refine (ext_any _ _ b _ _ (by simp [go_sem])).mono ?_; rintro e w' ⟨rfl, rfl⟩)
       go_ret
       exact ⟨rfl, by repeat (first | exact Below.refl _ _ | apply Below.drew | (refine Below.alloc ?_ (Nat.le_refl _) _))⟩)
theorem sminB (a b : Int) (w : World) : Calls Tryz.prog 138 #[.int .i64 a, .int .i64 b] w fun e w' => e = .returned (.int .i64 (min a b)) ∧ Below w.heap.size w w' := by
  rw [← ext_min]
  first
    | exact (smin_any a b w).mono fun e w' h => ⟨h.1, h.2 ▸ Below.refl _ _⟩
    | (go_enter Tryz.func138, Tryz.ntmps138
       go_wp2_with (go_at_call 128; refine (ext_any _ _ b _ _ (by simp [go_sem])).mono ?_; rintro e w' ⟨rfl, rfl⟩)
       go_ret
       exact ⟨rfl, by repeat (first | exact Below.refl _ _ | apply Below.drew | (refine Below.alloc ?_ (Nat.le_refl _) _))⟩)
theorem maxB (a b : Int) (w : World) : Calls Tryz.prog 94 #[.int .i64 a, .int .i64 b] w fun e w' => e = .returned (.int .i64 (max a b)) ∧ Below w.heap.size w w' := by
  rw [← ext_max]
  first
    | exact (smax_any a b w).mono fun e w' h => ⟨h.1, h.2 ▸ Below.refl _ _⟩
    | (go_enter Tryz.func94, Tryz.ntmps94
       go_wp2_with (go_at_call 128; refine (ext_any _ _ b _ _ (by simp [go_sem])).mono ?_; rintro e w' ⟨rfl, rfl⟩)
       go_ret
       exact ⟨rfl, by repeat (first | exact Below.refl _ _ | apply Below.drew | (refine Below.alloc ?_ (Nat.le_refl _) _))⟩)
theorem minB (a b : Int) (w : World) : Calls Tryz.prog 169 #[.int .i64 a, .int .i64 b] w fun e w' => e = .returned (.int .i64 (min a b)) ∧ Below w.heap.size w w' := by
  rw [← ext_min]
  first
    | exact (smin_any a b w).mono fun e w' h => ⟨h.1, h.2 ▸ Below.refl _ _⟩
    | (go_enter Tryz.func169, Tryz.ntmps169
       go_wp2_with (go_at_call 128; refine (ext_any _ _ b _ _ (by simp [go_sem])).mono ?_; rintro e w' ⟨rfl, rfl⟩)
       go_ret
       exact ⟨rfl, by repeat (first | exact Below.refl _ _ | apply Below.drew | (refine Below.alloc ?_ (Nat.le_refl _) _))⟩)
end Go.Proofs.YtbnjaaegbmhopaaGreatDoor

/- What the small integer functions of package impl and of the model do: contracts, for every argument. -/
import Derived.Test.YtbnjaaegbmhopaaGreatDoorRows
import Derived.WalkKit
import Derived.ProofKit
import Derived.OpenShut
import Derived.Outline
import Derived.LoopTactic
import Derived.Deep.QuietTactic
import Derived.BigQuiet
namespace Go.Proofs.YtbnjaaegbmhopaaGreatDoor
open Go.ChangeShapes Go.WideShapes Go.ChangeAt Go.RowKit
set_option linter.unusedVariables false

/-- What impl.extremeOf gives of two numbers. -/
def extV (g : Bool) (a b : Int) : Int := if g = true then (if a < b then b else a) else (if b < a then b else a)

theorem ext_any (g : Bool) (a b : Int) (blk : Nat) (w : World) (hc : w.cell? ⟨blk, 0, none⟩ = some (.int .i64 b)) :
    Calls Tryz.prog 128 #[.bool g, .int .i64 a, .slice (some ⟨blk, 0, none⟩) 1 1] w fun e w' => e = .returned (.int .i64 (extV g a b)) ∧ w = w' := by
  go_enter Tryz.func128, Tryz.ntmps128
  go_wp2
  go_loop [7, 13] (fun m i => (i = .int .i64 0 ∧ m = .int .i64 a) ∨ (i = .int .i64 1 ∧ m = .int .i64 (extV g a b))) (fun _ i => 1 - (intOf i).toNat)
  case atStart => exact .inl ⟨rfl, rfl⟩
  case round =>
    rcases hrel with ⟨rfl, rfl⟩ | ⟨rfl, rfl⟩
    · cases g
      · by_cases h : b < a
        · go_wp2
          go_round
          case rel => exact .inr ⟨by go_num, by simp [extV, h]⟩
          case measure => simp [intOf]
        · go_wp2
          go_round
          case rel => exact .inr ⟨by go_num, by simp [extV, h]⟩
          case measure => simp [intOf]
      · by_cases h : a < b
        · go_wp2
          go_round
          case rel => exact .inr ⟨by go_num, by simp [extV, h]⟩
          case measure => simp [intOf]
        · go_wp2
          go_round
          case rel => exact .inr ⟨by go_num, by simp [extV, h]⟩
          case measure => simp [intOf]
    · go_wp2
      go_ret
      exact ⟨rfl, rfl⟩
theorem min_any (a b : Int) (w : World) :
    Calls Tryz.prog 169 #[.int .i64 a, .int .i64 b] w fun e w' => e = .returned (.int .i64 (extV false a b)) ∧ Grown w w' := by
  go_enter Tryz.func169, Tryz.ntmps169
  go_wp2_with (go_at_call 128; refine (ext_any _ _ b _ _ (by simp [go_sem])).mono ?_; rintro e w' ⟨rfl, rfl⟩)
  go_ret
  exact ⟨rfl, by repeat (first | exact Grown.refl _ | apply Grown.drew | apply Grown.alloc)⟩
theorem max_any (a b : Int) (w : World) :
    Calls Tryz.prog 94 #[.int .i64 a, .int .i64 b] w fun e w' => e = .returned (.int .i64 (extV true a b)) ∧ Grown w w' := by
  go_enter Tryz.func94, Tryz.ntmps94
  go_wp2_with (go_at_call 128; refine (ext_any _ _ b _ _ (by simp [go_sem])).mono ?_; rintro e w' ⟨rfl, rfl⟩)
  go_ret
  exact ⟨rfl, by repeat (first | exact Grown.refl _ | apply Grown.drew | apply Grown.alloc)⟩
theorem smin_any (a b : Int) (w : World) :
    Calls Tryz.prog 138 #[.int .i64 a, .int .i64 b] w fun e w' => e = .returned (.int .i64 (extV false a b)) ∧ w = w' := by
  by_cases h : b < a
  all_goals
    go_enter Tryz.func138, Tryz.ntmps138
    go_wp2
    go_ret
    exact ⟨by simp [extV]; omega, rfl⟩
theorem smax_any (a b : Int) (w : World) :
    Calls Tryz.prog 112 #[.int .i64 a, .int .i64 b] w fun e w' => e = .returned (.int .i64 (extV true a b)) ∧ w = w' := by
  by_cases h : a < b
  all_goals
    go_enter Tryz.func112, Tryz.ntmps112
    go_wp2
    go_ret
    exact ⟨by simp [extV]; omega, rfl⟩
/-- low ≤ n and n ≤ high, as a Bool that the walk does not take apart. -/
def inB (n l h : Int) : Bool := decide (l ≤ n ∧ n ≤ h)
theorem inB_yes {n l h : Int} (a : l ≤ n) (b : n ≤ h) : inB n l h = true := by simp [inB]; omega
theorem inB_low {n l h : Int} (a : n < l) : inB n l h = false := by simp [inB]; omega
theorem inB_high {n l h : Int} (a : h < n) : inB n l h = false := by simp [inB]; omega
theorem in_any (n l h : Int) (w : World) :
    Calls Tryz.prog 48 #[.int .i64 n, .int .i64 l, .int .i64 h] w fun e w' => e = .returned (.bool (inB n l h)) ∧ w = w' := by
  by_cases h1 : l ≤ n <;> by_cases h2 : n ≤ h
  all_goals
    go_enter Tryz.func48, Tryz.ntmps48
    go_wp2
    go_ret
    exact ⟨by simp [inB]; omega, rfl⟩
theorem in_is (n l h : Int) (b : Bool) (w : World) (hb : inB n l h = b) :
    Calls Tryz.prog 48 #[.int .i64 n, .int .i64 l, .int .i64 h] w fun e w' => e = .returned (.bool b) ∧ w = w' := by
  subst hb; exact in_any n l h w
theorem l1in_any (n l h : Int) (w : World) :
    Calls Tryz.prog 101 #[.int .i64 n, .int .i64 l, .int .i64 h] w fun e w' => e = .returned (.bool (inB n l h)) ∧ w = w' := by
  by_cases h1 : l ≤ n <;> by_cases h2 : n ≤ h
  all_goals
    go_enter Tryz.func101, Tryz.ntmps101
    go_wp2
    go_ret
    exact ⟨by simp [inB]; omega, rfl⟩
theorem l1in_is (n l h : Int) (b : Bool) (w : World) (hb : inB n l h = b) :
    Calls Tryz.prog 101 #[.int .i64 n, .int .i64 l, .int .i64 h] w fun e w' => e = .returned (.bool b) ∧ w = w' := by
  subst hb; exact l1in_any n l h w
/-- What Mod gives: the remainder in 0 .. b-1, or 0 if b is not in 1 .. MaxValue. -/
def modV (a b : Int) : Int := if 1 ≤ b ∧ b ≤ 1000000000000 then a % b else 0
/-- What CeilDiv gives. -/
def ceilV (a b : Int) : Int := if (0 ≤ a ∧ a ≤ 1000000000000) ∧ (1 ≤ b ∧ b ≤ 1000000000000) then (a + b - 1) / b else 0
theorem modV_out {a b : Int} (h : b < 1 ∨ 1000000000000 < b) : modV a b = 0 := by unfold modV; rw [if_neg (by omega)]
theorem modV_in {a b : Int} (h : 1 ≤ b) (h' : b ≤ 1000000000000) : modV a b = a % b := by unfold modV; rw [if_pos ⟨h, h'⟩]
theorem ceilV_out {a b : Int} (h : a < 0 ∨ 1000000000000 < a ∨ b < 1 ∨ 1000000000000 < b) : ceilV a b = 0 := by unfold ceilV; rw [if_neg (by omega)]
theorem ceilV_in {a b : Int} (g : 0 ≤ a) (g' : a ≤ 1000000000000) (h : 1 ≤ b) (h' : b ≤ 1000000000000) : ceilV a b = (a + b - 1) / b := by unfold ceilV; rw [if_pos ⟨⟨g, g'⟩, h, h'⟩]
theorem tmod_emod (a b : Int) : (a.tmod b + b) % b = a % b := by
  rw [Int.tmod_def, show a - b * a.tdiv b + b = a + b * (1 - a.tdiv b) by rw [Int.mul_sub]; omega, Int.add_mul_emod_self_left]
theorem emod_add (a b : Int) : (a % b + b) % b = a % b := by
  rw [Int.add_emod_right, Int.emod_emod]
/-- Bounds of Go's remainder by a positive number. -/
theorem tmod_bd (a b : Int) (hb : 1 ≤ b) (ha : a < 0) : -b < a.tmod b ∧ a.tmod b ≤ 0 := by
  have h : a.tmod b = -((-a) % b) := by
    have := Int.neg_tmod (-a) b
    rw [Int.neg_neg] at this
    rw [this, Int.tmod_eq_emod_of_nonneg (by omega)]
  have h0 : 0 ≤ (-a) % b := Int.emod_nonneg _ (by omega)
  have h1 : (-a) % b < b := Int.emod_lt_of_pos _ (by omega)
  omega
theorem mod_neg (a b : Int) (hb : 1 ≤ b) (ha : a < 0) (h : a.tmod b < 0) : a.tmod b + b = a % b := by
  have := tmod_bd a b hb ha
  rw [← tmod_emod]; exact (Int.emod_eq_of_lt (by omega) (by omega)).symm
theorem mod_zero (a b : Int) (hb : 1 ≤ b) (ha : a < 0) (h : ¬ a.tmod b < 0) : a.tmod b = a % b := by
  have := tmod_bd a b hb ha
  have e : a.tmod b = 0 := by omega
  rw [← tmod_emod, e, Int.zero_add, Int.emod_self]
theorem ret_i {k : IntKind} {a b : Int} (h : a = b) : Ending.returned (.int k a) = .returned (.int k b) := by rw [h]
end Go.Proofs.YtbnjaaegbmhopaaGreatDoor

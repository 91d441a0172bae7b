/- markText of the laws: a text for each int, the same each time. -/
import Derived.Test.YtbnjaaegbmhopaaGreatDoorInt
import Derived.Lib.Hide
import Derived.Laws.IdiomStrings
import Derived.Laws.Concat
import Derived.WalkLawsBesides
import Derived.WalkSpells
namespace Go.Proofs.YtbnjaaegbmhopaaGreatDoor
open Go.ChangeShapes Go.WideShapes Go.ChangeAt Go.RowKit
set_option linter.unusedVariables false

def mkD (d : Nat) : UInt8 := UInt8.ofNat (48 + d)
theorem mkD_int (d : Nat) (h : d < 10) : (Value.int .u8 ((mkD d).toNat : Int)) = .int .u8 (48 + (d : Int)) := by
  unfold mkD
  congr 1
  have : (UInt8.ofNat (48 + d)).toNat = 48 + d := by simp [UInt8.toNat_ofNat]; omega
  omega
def mkG (x : Nat) (l : List UInt8) : List UInt8 := if h : x = 0 then l else mkG (x / 10) (mkD (x % 10) :: l)
termination_by x
decreasing_by omega
theorem mkG_zero (l : List UInt8) : mkG 0 l = l := by unfold mkG; simp
theorem mkG_step (x : Nat) (l : List UInt8) (h : x ≠ 0) : mkG x l = mkG (x / 10) (mkD (x % 10) :: l) := by rw [mkG]; simp [h]
theorem mkG_len (x : Nat) : ∀ l, l.length ≤ (mkG x l).length ∧ (mkG x l).length ≤ x / 10 + 1 + l.length ∧ (x ≠ 0 → l.length + 1 ≤ (mkG x l).length) := by
  induction x using Nat.strongRecOn with
  | _ x ih =>
    intro l
    by_cases h : x = 0
    · subst h; rw [mkG_zero]; exact ⟨Nat.le_refl _, by omega, by omega⟩
    · rw [mkG_step x l h]
      by_cases h1 : x / 10 = 0
      · rw [h1, mkG_zero]; simp only [List.length_cons]; exact ⟨by omega, by omega, by omega⟩
      · obtain ⟨a, b, c⟩ := ih (x / 10) (by omega) (mkD (x % 10) :: l)
        simp only [List.length_cons] at a b c
        exact ⟨by omega, by omega, fun _ => by omega⟩
theorem mkG_dig (m : Nat) : ∀ x l, x < 10 ^ m → (mkG x l).length ≤ m + l.length := by
  induction m with
  | zero => intro x l h; have : x = 0 := by simp at h; exact h
            subst this; rw [mkG_zero]; omega
  | succ m ih =>
    intro x l h
    by_cases hx : x = 0
    · subst hx; rw [mkG_zero]; omega
    · rw [mkG_step x l hx]
      have := ih (x / 10) (mkD (x % 10) :: l) (by rw [Nat.pow_succ] at h; omega)
      simp only [List.length_cons] at this
      omega
/-- The text that marks k. -/
def mkV (k : Int) : ByteArray := if k ≤ 0 then ⟨([109, 48] : List UInt8).toArray⟩ else ⟨(109 :: mkG k.toNat []).toArray⟩
theorem mk_conv (w : World) (b : Nat) (d : Nat) (z : Int) (hd : d < 10) (hz : z = 48 + (d : Int)) (hb : b = w.heap.size) :
    (convert 22 9 (.slice (some ⟨b, 0, none⟩) 1 1)).run Tryz.prog (w.alloc (.cells #[.int .u8 z] 5)) = .ok (.string ⟨[mkD d].toArray⟩) (w.alloc (.cells #[.int .u8 z] 5)) := by
  refine run_convert_bytes_back (P := Tryz.prog) _ 22 9 5 ⟨b, 0, none⟩ 1 [mkD d] Tryz.underlying22 Tryz.underlying5 Tryz.underlying9 ?_
  intro j hj
  have hj0 : j = 0 := by simp at hj; omega
  subst hj0; subst hb; subst hz
  simp only [List.getElem_cons_zero]
  rw [mkD_int d hd]
  simp [Addr.add, go_sem]
theorem mk_ret {a b : List UInt8} (h : a = b) : Ending.returned (.string ⟨a.toArray⟩) = .returned (.string ⟨b.toArray⟩) := by rw [h]

/-- The head of a round: digits l have been taken off, x is what is left. -/
def MkRel (n : Int) (B : Nat) (w : World) (v3 v4 : Value) (wr : World) : Prop :=
  ∃ x : Int, ∃ l : List UInt8, v4 = .int .i64 x ∧ v3 = .string ⟨l.toArray⟩ ∧ mkG x.toNat l = mkG n.toNat [] ∧
    0 ≤ x ∧ x ≤ 9223372036854775807 ∧ Below B w wr

set_option maxRecDepth 100000 in
theorem markText_is (n : Int) (h1 : n ≤ 9223372036854775807) (w : World) :
    Calls Tryz.prog 73 #[.int .i64 n] w fun e w' => e = .returned (.string (mkV n)) ∧ Below w.heap.size w w' := by
  by_cases hz : n ≤ 0
  · have e : mkV n = ⟨([109, 48] : List UInt8).toArray⟩ := by unfold mkV; rw [if_pos hz]
    rw [e]
    go_enter Tryz.func73, Tryz.ntmps73
    go_wp2
    go_ret
    exact ⟨rfl, Below.refl _ _⟩
  · have e : mkV n = ⟨(109 :: mkG n.toNat []).toArray⟩ := by unfold mkV; rw [if_neg hz]
    rw [e]
    have hN := mkG_dig 19 n.toNat [] (by omega)
    simp only [List.length_nil] at hN
    go_enter Tryz.func73, Tryz.ntmps73
    go_wp2
    go_loopw [0, 3] (fun v4 v3 wr => MkRel n w.heap.size w v3 v4 wr) (fun v4 _ _ => (intOf v4).natAbs)
    case atStart => exact ⟨n, [], rfl, rfl, rfl, by omega, h1, Below.refl _ _⟩
    case round =>
      obtain ⟨x, l, rfl, rfl, hd, hx0, hx1, hb⟩ := hrel
      have hg := mkG_len x.toNat l
      rw [hd] at hg
      obtain ⟨g1, _, g3⟩ := hg
      by_cases hx : x = 0
      · subst hx
        have hadd : ∀ W : World, (Op.stringOp .add ⟨#[109]⟩ ⟨l.toArray⟩).run Tryz.prog W = .ok (.string ⟨([109] ++ l).toArray⟩) W := fun W => run_string_add_lists (P := Tryz.prog) W [109] l (by decide) (by omega)
        have e2 : l = mkG n.toNat [] := by rw [← hd]; exact (mkG_zero l).symm
        have HE := Lib.hid e2; clear e2
        clear hd
        go_wp2
        go_ret
        exact ⟨mk_ret (by rw [← HE.out]), hb⟩
      · have hs : mkG (x / 10).toNat ([mkD (x.toNat % 10)] ++ l) = mkG n.toNat [] := by
          rw [← hd, mkG_step x.toNat l (by omega), show (x / 10).toNat = x.toNat / 10 by omega]; rfl
        have HS := Lib.hid hs; clear hs hd
        have hl : l.length ≤ 100 := by omega
        have hadd : ∀ d : Nat, ∀ W : World, (Op.stringOp .add ⟨[mkD d].toArray⟩ ⟨l.toArray⟩).run Tryz.prog W = .ok (.string ⟨([mkD d] ++ l).toArray⟩) W := fun d W => run_string_add_lists (P := Tryz.prog) W [mkD d] l (by simp) (by omega)
        have hcv := mk_conv wr wr.heap.size (x.toNat % 10) (48 + x % 10) (Nat.mod_lt _ (by decide)) (by omega) rfl
        go_wp2
        go_roundw
        case rel => exact ⟨x / 10, _, rfl, rfl, HS.out, by omega, by omega, hb.alloc hb.size _⟩
        case measure => simp only [intOf]; omega
end Go.Proofs.YtbnjaaegbmhopaaGreatDoor

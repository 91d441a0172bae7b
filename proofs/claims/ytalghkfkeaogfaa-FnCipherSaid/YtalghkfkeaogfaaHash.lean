/- Chapter 3's mathematics: the hash as a fold over a list, and that one value changed changes it. -/
import Derived.Test.YtalghkfkeaogfaaMem
namespace Go.Proofs.Ytalghkfkeaogfaa
set_option linter.unusedVariables false

/-- One step of the hash. -/
def hs (d v : Int) : Int := (d * 1000003 + v % 2147483647 + 13) % 2147483647
/-- The hash of a list, from an accumulator on. -/
def hv (d : Int) (l : List Int) : Int := l.foldl hs d
/-- The keyed hash. -/
def khv (k : Int) (l : List Int) : Int := hs (hv (hs 11 k) l) k
theorem hs_bd (d v : Int) : 0 ≤ hs d v ∧ hs d v < 2147483647 := by unfold hs; omega
theorem hv_nil (d : Int) : hv d [] = d := rfl
theorem hv_cons (d x : Int) (l : List Int) : hv d (x :: l) = hv (hs d x) l := rfl
theorem hv_app (d : Int) (l m : List Int) : hv d (l ++ m) = hv (hv d l) m := by simp [hv]
theorem hv_bd {d : Int} (l : List Int) (h : 0 ≤ d ∧ d < 2147483647) : 0 ≤ hv d l ∧ hv d l < 2147483647 := by
  induction l generalizing d with
  | nil => exact h
  | cons x r ih => rw [hv_cons]; exact ih (hs_bd _ _)
theorem hv_take {d : Int} {l : List Int} {j : Nat} {x : Int} (h : l[j]? = some x) : hv d (l.take (j + 1)) = hs (hv d (l.take j)) x := by
  rw [List.take_add_one, h]; simp [hv]
theorem khv_bd (k : Int) (l : List Int) : 0 ≤ khv k l ∧ khv k l < 2147483647 := hs_bd _ _
theorem khv_eq (k : Int) (l : List Int) : hv 11 (k :: l ++ [k]) = khv k l := by
  rw [hv_app, hv_cons]; rfl
theorem hs_inj {d d' v : Int} (h : 0 ≤ d ∧ d < 2147483647) (h' : 0 ≤ d' ∧ d' < 2147483647) (e : hs d v = hs d' v) : d = d' := by
  have e1 := Int.emod_eq_emod_iff_emod_sub_eq_zero.mp e
  obtain ⟨k, hk⟩ := Int.dvd_of_emod_eq_zero e1
  generalize v % 2147483647 = z at hk
  have hk2 : (d - d') * 1000003 = 2147483647 * k := by rw [← hk]; omega
  clear hk e1 e
  omega
theorem hs_inj2 {d v v' : Int} (e : hs d v = hs d v') : v % 2147483647 = v' % 2147483647 := by
  unfold hs at e; omega
theorem hv_inj {d d' : Int} (l : List Int) (h : 0 ≤ d ∧ d < 2147483647) (h' : 0 ≤ d' ∧ d' < 2147483647) (e : hv d l = hv d' l) : d = d' := by
  induction l generalizing d d' with
  | nil => exact e
  | cons x r ih => exact hs_inj h h' (ih (hs_bd _ _) (hs_bd _ _) e)
/-- One value changed modulo the modulus: another keyed hash. -/
theorem khv_set {k x y : Int} {l : List Int} {i : Nat} (hi : l[i]? = some y) (hx : x % 2147483647 ≠ y % 2147483647) : khv k (l.set i x) ≠ khv k l := by
  intro e
  have h1 := hs_inj (hv_bd _ (hs_bd _ _)) (hv_bd _ (hs_bd _ _)) e
  have hlt : i < l.length := (List.getElem?_eq_some_iff.1 hi).1
  have hy : l[i] = y := (List.getElem?_eq_some_iff.1 hi).2
  have h2 : l = l.take i ++ y :: l.drop (i + 1) := by
    conv => lhs; rw [← List.take_append_drop i l]
    rw [List.drop_eq_getElem_cons hlt, hy]
  rw [List.set_eq_take_append_cons_drop, if_pos hlt] at h1
  conv at h1 => rhs; rw [h2]
  rw [hv_app, hv_app, hv_cons, hv_cons] at h1
  exact hx (hs_inj2 (hv_inj _ (hs_bd _ _) (hs_bd _ _) h1))
/-- The byte at index i of a cipher, turned. -/
def encB (k : Int) (i : Nat) (x : Int) : Int := (x + khv k [(i : Int)]) % 256
def decB (k : Int) (i : Nat) (x : Int) : Int := (x - khv k [(i : Int)]) % 256
theorem encB_bd (k : Int) (i : Nat) (x : Int) : 0 ≤ encB k i x ∧ encB k i x ≤ 255 := by unfold encB; omega
theorem decB_bd (k : Int) (i : Nat) (x : Int) : 0 ≤ decB k i x ∧ decB k i x ≤ 255 := by unfold decB; omega
theorem dec_enc (k : Int) (i : Nat) {x : Int} (h : 0 ≤ x ∧ x ≤ 255) : decB k i (encB k i x) = x := by unfold encB decB; omega
theorem enc_dec (k : Int) (i : Nat) {x : Int} (h : 0 ≤ x ∧ x ≤ 255) : encB k i (decB k i x) = x := by unfold encB decB; omega
def encL (k : Int) (l : List Int) : List Int := l.mapIdx (encB k)
def decL (k : Int) (l : List Int) : List Int := l.mapIdx (decB k)
theorem encL_len (k : Int) (l : List Int) : (encL k l).length = l.length := by simp [encL]
theorem decL_len (k : Int) (l : List Int) : (decL k l).length = l.length := by simp [decL]
theorem encL_get {k : Int} {l : List Int} {i : Nat} {x : Int} (h : l[i]? = some x) : (encL k l)[i]? = some (encB k i x) := by simp [encL, h]
theorem decL_get {k : Int} {l : List Int} {i : Nat} {x : Int} (h : l[i]? = some x) : (decL k l)[i]? = some (decB k i x) := by simp [decL, h]
theorem decL_encL {k : Int} {l : List Int} (h : ∀ x ∈ l, 0 ≤ x ∧ x ≤ 255) : decL k (encL k l) = l := by
  apply List.ext_getElem? ; intro i
  match hx : l[i]? with
  | none => simp [decL, encL, hx]
  | some x => rw [decL_get (encL_get hx), dec_enc k i (h x (List.mem_of_getElem? hx))]
theorem encL_decL {k : Int} {l : List Int} (h : ∀ x ∈ l, 0 ≤ x ∧ x ≤ 255) : encL k (decL k l) = l := by
  apply List.ext_getElem? ; intro i
  match hx : l[i]? with
  | none => simp [decL, encL, hx]
  | some x => rw [encL_get (decL_get hx), enc_dec k i (h x (List.mem_of_getElem? hx))]
end Go.Proofs.Ytalghkfkeaogfaa

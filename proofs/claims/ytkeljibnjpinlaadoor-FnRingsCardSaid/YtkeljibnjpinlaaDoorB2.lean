/- Texts of this seat, one behind the other. -/
import Derived.Test.YtkeljibnjpinlaaDoorB1
import Derived.Deep.RegionHeld3
/- Points: the functions of chapter 4 in package impl and in the model, by their values. -/
namespace Go.Proofs.YtkeljibnjpinlaaDoor
open Go.ChangeShapes Go.WideShapes Go.ChangeAt Go.RowKit
set_option linter.unusedVariables false

/-- The cells of a list of points. -/
def flatP : List (Int × Int) → List Value
  | [] => []
  | p :: r => .int .i64 p.1 :: .int .i64 p.2 :: flatP r
theorem flatP_at {ps : List (Int × Int)} {j : Nat} {x y : Int} (h : ps[j]? = some (x, y)) : (flatP ps)[j * 2]? = some (.int .i64 x) ∧ (flatP ps)[j * 2 + 1]? = some (.int .i64 y) := by
  induction ps generalizing j with
  | nil => simp at h
  | cons p r ih =>
    match j, h with
    | 0, h => simp at h; subst h; exact ⟨rfl, rfl⟩
    | j + 1, h =>
      have := ih (j := j) (by simpa using h)
      rw [show (j + 1) * 2 = j * 2 + 1 + 1 by omega]
      simpa [flatP] using this
theorem seesP_new (W : World) (T : TypeId) (ps : List (Int × Int)) (cs : Array Value) (b B : Nat) (hcs : cs.toList = flatP ps) (hb : b = W.heap.size) (hB : W.heap.size < B) : SeesP (W.alloc (.cells cs T)) B (some ⟨b, 0, none⟩) ps := fun j x y hj => by
  subst hb
  obtain ⟨h1, h2⟩ := flatP_at hj
  have hc : ∀ i, (W.alloc (.cells cs T)).cell? ⟨W.heap.size, i, none⟩ = cs[i]? := fun i => by rw [World.cell?, heap_alloc_new]; simp
  refine ⟨_, _, rfl, hB, ?_, ?_⟩
  · rw [hc, Nat.zero_add, ← h1, ← hcs]; simp
  · rw [hc, Nat.zero_add, ← h2, ← hcs]; simp

/-- Points of the call's own: the j-th lies in the j-th block behind w0's. -/
def Boxes (w0 w : World) (l : List (Int × Int)) : Prop :=
  Below w0.heap.size w0 w ∧ w0.heap.size + l.length ≤ w.heap.size ∧
  ∀ (j : Nat) x y, l[j]? = some (x, y) → ∃ T, w.heap[w0.heap.size + j]? = some (.cells #[.int .i64 x, .int .i64 y] T (0, 0))
section
variable {w0 w w' : World} {l : List (Int × Int)} {a b c d x y : Int}
theorem Boxes.next (h : Boxes w0 w l) (hb : Below w.heap.size w w') : Boxes w0 w' l := by
  refine ⟨h.1.trans (hb.mono h.1.size), Nat.le_trans h.2.1 hb.size, fun j x y hj => ?_⟩
  have hl : j < l.length := (List.getElem?_eq_some_iff.1 hj).1
  have h2 := h.2.1
  obtain ⟨T, h3⟩ := h.2.2 j x y hj
  exact ⟨T, (hb.block _ (by omega)).trans h3⟩
theorem Boxes.drew (h : Boxes w0 w l) : Boxes w0 w.drew l := h.next (Below.refl _ _).drew
theorem Boxes.al (h : Boxes w0 w l) (o : Obj) : Boxes w0 (w.alloc o) l := h.next ((Below.refl _ _).alloc (Nat.le_refl _) o)
theorem Boxes.nil (w0 : World) : Boxes w0 w0 [] := ⟨Below.refl _ _, by simp, fun j x y h => by simp at h⟩
theorem Boxes.more (h : Boxes w0 w l) (hz : w0.heap.size + l.length = w.heap.size) (T : TypeId) (x y : Int) : Boxes w0 (w.alloc (.cells #[.int .i64 x, .int .i64 y] T)) (l ++ [(x, y)]) := by
  have hn := h.al (.cells #[.int .i64 x, .int .i64 y] T)
  refine ⟨hn.1, by simp; omega, fun j u v hj => ?_⟩
  by_cases hl : j < l.length
  · rw [List.getElem?_append_left hl] at hj
    exact hn.2.2 j u v hj
  · have hj' : j = l.length := by
      have := (List.getElem?_eq_some_iff.1 hj).1
      simp at this; omega
    subst hj'
    simp at hj
    obtain ⟨rfl, rfl⟩ := hj
    rw [hz]
    exact ⟨T, heap_alloc_new w _⟩
theorem Boxes.cell (h : Boxes w0 w l) {j : Nat} (hj : l[j]? = some (x, y)) : w.cell? ⟨w0.heap.size + j, 0, none⟩ = some (.int .i64 x) ∧ w.cell? ⟨w0.heap.size + j, 1, none⟩ = some (.int .i64 y) := by
  obtain ⟨T, h3⟩ := h.2.2 j x y hj
  constructor
  · rw [World.cell?, h3]; rfl
  · rw [World.cell?, h3]; rfl
theorem Boxes.frozen (h : Boxes w0 w l) {j : Nat} (hj : l[j]? = some (x, y)) : w.frozen? ⟨w0.heap.size + j, 0, none⟩ = false ∧ w.frozen? ⟨w0.heap.size + j, 1, none⟩ = false := by
  obtain ⟨T, h3⟩ := h.2.2 j x y hj
  constructor
  · rw [World.frozen?, h3]; rfl
  · rw [World.frozen?, h3]; rfl
theorem Boxes.of1 (w0 : World) (T : TypeId) : Boxes w0 (w0.alloc (.cells #[.int .i64 a, .int .i64 b] T)) [(a, b)] := (Boxes.nil w0).more (by simp) T a b
theorem Boxes.of2 (w0 : World) (T : TypeId) : Boxes w0 ((w0.alloc (.cells #[.int .i64 a, .int .i64 b] T)).alloc (.cells #[.int .i64 c, .int .i64 d] T)) [(a, b), (c, d)] := (Boxes.of1 w0 T).more (by simp) T c d
theorem Boxes.of3 (w0 : World) (T : TypeId) : Boxes w0 (((w0.alloc (.cells #[.int .i64 a, .int .i64 b] T)).alloc (.cells #[.int .i64 c, .int .i64 d] T)).alloc (.cells #[.int .i64 x, .int .i64 y] T)) [(a, b), (c, d), (x, y)] := (Boxes.of2 w0 T).more (by simp) T x y
theorem Boxes.c1 (h : Boxes w0 w [(a, b)]) : w.cell? ⟨w0.heap.size, 0, none⟩ = some (.int .i64 a) ∧ w.cell? ⟨w0.heap.size, 1, none⟩ = some (.int .i64 b) := h.cell (j := 0) rfl
theorem Boxes.c2 (h : Boxes w0 w [(a, b), (c, d)]) : w.cell? ⟨w0.heap.size, 0, none⟩ = some (.int .i64 a) ∧ w.cell? ⟨w0.heap.size, 1, none⟩ = some (.int .i64 b) ∧ w.cell? ⟨w0.heap.size + 1, 0, none⟩ = some (.int .i64 c) ∧ w.cell? ⟨w0.heap.size + 1, 1, none⟩ = some (.int .i64 d) :=
  ⟨(h.cell (j := 0) rfl).1, (h.cell (j := 0) rfl).2, (h.cell (j := 1) rfl).1, (h.cell (j := 1) rfl).2⟩
theorem Boxes.c3 (h : Boxes w0 w [(a, b), (c, d), (x, y)]) : w.cell? ⟨w0.heap.size, 0, none⟩ = some (.int .i64 a) ∧ w.cell? ⟨w0.heap.size, 1, none⟩ = some (.int .i64 b) ∧ w.cell? ⟨w0.heap.size + 1, 0, none⟩ = some (.int .i64 c) ∧ w.cell? ⟨w0.heap.size + 1, 1, none⟩ = some (.int .i64 d) ∧ w.cell? ⟨w0.heap.size + 1 + 1, 0, none⟩ = some (.int .i64 x) ∧ w.cell? ⟨w0.heap.size + 1 + 1, 1, none⟩ = some (.int .i64 y) :=
  ⟨(h.cell (j := 0) rfl).1, (h.cell (j := 0) rfl).2, (h.cell (j := 1) rfl).1, (h.cell (j := 1) rfl).2, (h.cell (j := 2) rfl).1, (h.cell (j := 2) rfl).2⟩
end
theorem isPoint_any (x y : Int) (w : World) :
    Calls Tryd.prog 17 #[PtV x y] w fun e w' => e = .returned (.bool (isP x y)) ∧ Below w.heap.size w w' := by
  go_enter Tryd.func17, Tryd.ntmps17
  go_wp2_with fail
  refine (arePoints_any _ _ [(x, y)] _ (seesP_new _ _ _ _ _ _ (by rfl) (by simp) (by simp)) (by simp)).mono ?_
  rintro e w1 ⟨rfl, hb1⟩
  go_wp2
  go_ret
  exact ⟨ret_eq (by simp [allP]), (((Boxes.of1 w 33).next ((Below.refl _ _).alloc (Nat.le_refl _) _)).next hb1).1⟩
theorem isPoint_is (x y : Int) (b : Bool) (w : World) (hb : isP x y = b) :
    Calls Tryd.prog 17 #[PtV x y] w fun e w' => e = .returned (.bool b) ∧ Below w.heap.size w w' := by
  subst hb; exact isPoint_any x y w
/-- Two points, three points of the map. -/
def isP2 (a b c d : Int) : Bool := isP a b && isP c d
def isP3 (a b c d x y : Int) : Bool := isP a b && (isP c d && isP x y)
theorem mul_bd {u v : Int} (h : -200 ≤ u) (h1 : u ≤ 200) (h2 : -200 ≤ v) (h3 : v ≤ 200) : -40000 ≤ u * v ∧ u * v ≤ 40000 := by
  have hn : (u * v).natAbs ≤ 200 * 200 := by
    rw [Int.natAbs_mul]
    exact Nat.mul_le_mul (by omega) (by omega)
  omega
/-- The order of two numbers, as a number. -/
def cmpV (u v : Int) : Int := if u < v then -1 else if v < u then 1 else 0
theorem isNaN_any (u : Int) (w : World) : Calls Tryd.prog 84 #[.int .i64 u] w fun e w' => e = .returned (.bool false) ∧ w = w' := by
  go_enter Tryd.func84, Tryd.ntmps84
  go_wp2
  go_ret
  exact ⟨by simp, rfl⟩
theorem compare_any (u v : Int) (w : World) : Calls Tryd.prog 67 #[.int .i64 u, .int .i64 v] w fun e w' => e = .returned (.int .i64 (cmpV u v)) ∧ w = w' := by
  rcases (by omega : u < v ∨ v < u ∨ u = v) with h | h | rfl
  · go_enter Tryd.func67, Tryd.ntmps67
    go_wp2_with (go_at_call 84; refine (isNaN_any _ _).mono ?_; rintro e w' ⟨rfl, rfl⟩)
    go_ret
    exact ⟨ret_int (by unfold cmpV; rw [if_pos h]), rfl⟩
  · go_enter Tryd.func67, Tryd.ntmps67
    go_wp2_with (go_at_call 84; refine (isNaN_any _ _).mono ?_; rintro e w' ⟨rfl, rfl⟩)
    go_ret
    exact ⟨ret_int (by unfold cmpV; rw [if_neg (by omega), if_pos h]), rfl⟩
  · go_enter Tryd.func67, Tryd.ntmps67
    go_wp2_with (go_at_call 84; refine (isNaN_any _ _).mono ?_; rintro e w' ⟨rfl, rfl⟩)
    go_ret
    exact ⟨ret_int (by unfold cmpV; rw [if_neg (by omega), if_neg (by omega)]), rfl⟩
/-- On which side of a line a point is. -/
def sideV (a b c d x y : Int) : Int := if isP3 a b c d x y = true then cmpV ((c - a) * (y - b)) ((d - b) * (x - a)) else 0
theorem cmp_bd (u v : Int) : cmpV u v = 1 ∧ v < u ∨ cmpV u v = 0 ∧ u = v ∨ cmpV u v = -1 ∧ u < v := by
  unfold cmpV; split
  · exact .inr (.inr ⟨rfl, by assumption⟩)
  · split
    · exact .inl ⟨rfl, by assumption⟩
    · exact .inr (.inl ⟨rfl, by omega⟩)
theorem isP3_bd {a b c d x y : Int} (h : isP3 a b c d x y = true) : (0 ≤ a ∧ a ≤ 200 ∧ 0 ≤ b ∧ b ≤ 200) ∧ (0 ≤ c ∧ c ≤ 200 ∧ 0 ≤ d ∧ d ≤ 200) ∧ (0 ≤ x ∧ x ≤ 200 ∧ 0 ≤ y ∧ y ≤ 200) := by
  simp only [isP3, Bool.and_eq_true] at h
  exact ⟨isP_bd h.1, isP_bd h.2.1, isP_bd h.2.2⟩
theorem isP2_bd {a b c d : Int} (h : isP2 a b c d = true) : (0 ≤ a ∧ a ≤ 200 ∧ 0 ≤ b ∧ b ≤ 200) ∧ (0 ≤ c ∧ c ≤ 200 ∧ 0 ≤ d ∧ d ≤ 200) := by
  simp only [isP2, Bool.and_eq_true] at h
  exact ⟨isP_bd h.1, isP_bd h.2⟩
theorem side_yes {a b c d x y : Int} (h : isP3 a b c d x y = true) : sideV a b c d x y = cmpV ((c - a) * (y - b)) ((d - b) * (x - a)) := by unfold sideV; rw [if_pos h]
theorem side_no {a b c d x y : Int} (h : isP3 a b c d x y = false) : sideV a b c d x y = 0 := by unfold sideV; rw [h]; rfl
theorem sideOf_any (a b c d x y : Int) (w : World) :
    Calls Tryd.prog 70 #[PtV a b, PtV c d, PtV x y] w fun e w' => e = .returned (.int .i64 (sideV a b c d x y)) ∧ Below w.heap.size w w' := by
  go_enter Tryd.func70, Tryd.ntmps70
  go_wp2_with fail
  refine (arePoints_any _ _ [(a, b), (c, d), (x, y)] _ (seesP_new _ _ _ _ _ _ (by rfl) (by simp) (by simp)) (by simp)).mono ?_
  rintro e w1 ⟨rfl, hb1⟩
  have HB := Lib.hid (((Boxes.of3 w 33).next ((Below.refl _ _).alloc (Nat.le_refl _) _)).next hb1)
  clear hb1
  have he : allP [(a, b), (c, d), (x, y)] = isP3 a b c d x y := by simp [allP, isP3]
  cases h : isP3 a b c d x y
  · have hx : allP [(a, b), (c, d), (x, y)] = false := he.trans h
    have HS := Lib.hid (side_no h)
    clear he h
    go_wp2
    go_ret
    exact ⟨ret_int HS.out.symm, HB.out.1⟩
  · have hx : allP [(a, b), (c, d), (x, y)] = true := he.trans h
    obtain ⟨hA, hC, hX⟩ := isP3_bd h
    have HS := Lib.hid (side_yes h)
    have m1 := mul_bd (u := c - a) (v := y - b) (by omega) (by omega) (by omega) (by omega)
    have m2 := mul_bd (u := d - b) (v := x - a) (by omega) (by omega) (by omega) (by omega)
    obtain ⟨k0, k1, k2, k3, k4, k5⟩ := HB.out.c3
    clear he h
    go_wp2_with fail
    refine (compare_any _ _ _).mono ?_
    rintro e w' ⟨rfl, rfl⟩
    go_wp2
    go_ret
    exact ⟨ret_int HS.out.symm, HB.out.1⟩
theorem cross_any (a b c d x y : Int) (w : World) (hA : 0 ≤ a ∧ a ≤ 200 ∧ 0 ≤ b ∧ b ≤ 200) (hC : 0 ≤ c ∧ c ≤ 200 ∧ 0 ≤ d ∧ d ≤ 200) (hX : 0 ≤ x ∧ x ≤ 200 ∧ 0 ≤ y ∧ y ≤ 200) :
    Calls Tryd.prog 51 #[PtV a b, PtV c d, PtV x y] w fun e w' => e = .returned (.int .i64 ((c - a) * (y - b) - (d - b) * (x - a))) ∧ Below w.heap.size w w' := by
  have m1 := mul_bd (u := c - a) (v := y - b) (by omega) (by omega) (by omega) (by omega)
  have m2 := mul_bd (u := d - b) (v := x - a) (by omega) (by omega) (by omega) (by omega)
  go_enter Tryd.func51, Tryd.ntmps51
  go_wp2
  go_ret
  exact ⟨rfl, (Boxes.of3 w 33).1⟩
theorem cross_is (a b c d x y z : Int) (w : World) (hA : 0 ≤ a ∧ a ≤ 200 ∧ 0 ≤ b ∧ b ≤ 200) (hC : 0 ≤ c ∧ c ≤ 200 ∧ 0 ≤ d ∧ d ≤ 200) (hX : 0 ≤ x ∧ x ≤ 200 ∧ 0 ≤ y ∧ y ≤ 200) (hz : (c - a) * (y - b) - (d - b) * (x - a) = z) :
    Calls Tryd.prog 51 #[PtV a b, PtV c d, PtV x y] w fun e w' => e = .returned (.int .i64 z) ∧ Below w.heap.size w w' := by
  subst hz; exact cross_any a b c d x y w hA hC hX
theorem cmp_of {u v z : Int} (h : u - v = z) : cmpV u v = if 0 < z then 1 else if z < 0 then -1 else 0 := by
  unfold cmpV; split <;> split <;> (first | rfl | omega | (split <;> first | rfl | omega))
theorem sSideOf_any (a b c d x y : Int) (w : World) :
    Calls Tryd.prog 74 #[PtV a b, PtV c d, PtV x y] w fun e w' => e = .returned (.int .i64 (sideV a b c d x y)) ∧ Below w.heap.size w w' := by
  go_enter Tryd.func74, Tryd.ntmps74
  go_wp2_with fail
  cases h1 : isP a b
  · have hs : sideV a b c d x y = 0 := side_no (by simp [isP3, h1])
    refine (sIsPoint_is a b _ _ h1).mono ?_
    rintro e w1 ⟨rfl, hb1⟩
    go_wp2
    go_ret
    exact ⟨ret_int hs.symm, ((Boxes.of3 w 33).next hb1).1⟩
  · refine (sIsPoint_is a b _ _ h1).mono ?_
    rintro e w1 ⟨rfl, hb1⟩
    have HB := Lib.hid ((Boxes.of3 w 33).next hb1)
    obtain ⟨k0, k1, k2, k3, k4, k5⟩ := HB.out.c3
    clear hb1
    go_wp2_with fail
    cases h2 : isP c d
    · have hs : sideV a b c d x y = 0 := side_no (by simp [isP3, h2])
      refine (sIsPoint_is c d _ _ h2).mono ?_
      rintro e w2 ⟨rfl, hb2⟩
      go_wp2
      go_ret
      exact ⟨ret_int hs.symm, (HB.out.next hb2).1⟩
    · refine (sIsPoint_is c d _ _ h2).mono ?_
      rintro e w2 ⟨rfl, hb2⟩
      have HB2 := Lib.hid (HB.out.next hb2)
      clear hb2 HB k0 k1 k2 k3 k4 k5
      obtain ⟨k0, k1, k2, k3, k4, k5⟩ := HB2.out.c3
      go_wp2_with fail
      cases h3 : isP x y
      · have hs : sideV a b c d x y = 0 := side_no (by simp [isP3, h3])
        refine (sIsPoint_is x y _ _ h3).mono ?_
        rintro e w3 ⟨rfl, hb3⟩
        go_wp2
        go_ret
        exact ⟨ret_int hs.symm, (HB2.out.next hb3).1⟩
      · refine (sIsPoint_is x y _ _ h3).mono ?_
        rintro e w3 ⟨rfl, hb3⟩
        have HB3 := Lib.hid (HB2.out.next hb3)
        clear hb3 HB2 k0 k1 k2 k3 k4 k5
        obtain ⟨k0, k1, k2, k3, k4, k5⟩ := HB3.out.c3
        have h : isP3 a b c d x y = true := by simp [isP3, h1, h2, h3]
        have HS := Lib.hid (side_yes h)
        obtain ⟨hA, hC, hX⟩ := isP3_bd h
        clear h h1 h2 h3
        obtain ⟨z, hz⟩ : ∃ z, (c - a) * (y - b) - (d - b) * (x - a) = z := ⟨_, rfl⟩
        have HZ := Lib.hid hz
        have HV := Lib.hid (HS.out.trans (cmp_of hz))
        clear hz HS
        go_wp2_with fail
        refine (cross_is a b c d x y z _ hA hC hX HZ.out).mono ?_
        rintro e w4 ⟨rfl, hb4⟩
        have HB4 := Lib.hid (HB3.out.next hb4)
        clear hb4 HB3 k0 k1 k2 k3 k4 k5 hA hC hX HZ
        rcases (by omega : 0 < z ∨ z < 0 ∨ z = 0) with h | h | rfl
        · have HE : Hid (sideV a b c d x y = 1) := Lib.hid (by rw [HV.out, if_pos h])
          clear HV
          go_wp2
          go_ret
          exact ⟨ret_int HE.out.symm, HB4.out.1⟩
        · have HE : Hid (sideV a b c d x y = -1) := Lib.hid (by rw [HV.out, if_neg (by omega), if_pos h])
          clear HV
          go_wp2
          go_ret
          exact ⟨ret_int HE.out.symm, HB4.out.1⟩
        · have HE : Hid (sideV a b c d x y = 0) := Lib.hid (by rw [HV.out, if_neg (by omega), if_neg (by omega)])
          clear HV
          go_wp2
          go_ret
          exact ⟨ret_int HE.out.symm, HB4.out.1⟩
/-- The square of a distance. -/
def farV (a b c d : Int) : Int := if isP2 a b c d = true then (a - c) * (a - c) + (b - d) * (b - d) else -1
/-- The steps between two points. -/
def stepsV (a b c d : Int) : Int := if isP2 a b c d = true then extV true (a - c) (c - a) + extV true (b - d) (d - b) else -1
theorem far_yes {a b c d : Int} (h : isP2 a b c d = true) : farV a b c d = (a - c) * (a - c) + (b - d) * (b - d) := by unfold farV; rw [if_pos h]
theorem far_no {a b c d : Int} (h : isP2 a b c d = false) : farV a b c d = -1 := by unfold farV; rw [h]; rfl
theorem steps_yes {a b c d : Int} (h : isP2 a b c d = true) : stepsV a b c d = extV true (a - c) (c - a) + extV true (b - d) (d - b) := by unfold stepsV; rw [if_pos h]
theorem steps_no {a b c d : Int} (h : isP2 a b c d = false) : stepsV a b c d = -1 := by unfold stepsV; rw [h]; rfl
theorem ext_abs (u : Int) : extV true u (-u) = (u.natAbs : Int) := by
  unfold extV; rw [if_pos rfl]; split <;> omega
theorem ext_sub (a c : Int) : extV true (a - c) (c - a) = ((a - c).natAbs : Int) := by
  have := ext_abs (a - c)
  rwa [Int.neg_sub] at this
theorem abs_sq (u : Int) : (u.natAbs : Int) * (u.natAbs : Int) = u * u := Int.natAbs_mul_self' u
end Go.Proofs.YtkeljibnjpinlaaDoor

/- Points: distances, the order, moves: package impl and the model. -/
namespace Go.Proofs.YtkeljibnjpinlaaDoor
open Go.ChangeShapes Go.WideShapes Go.ChangeAt Go.RowKit
set_option linter.unusedVariables false

theorem wrap_id {x : Int} (h : -1000000 ≤ x ∧ x ≤ 1000000) : IntKind.i64.wrap x = x := by rw [IntKind.wrap_i64]; omega
/-- The order of points: by rows. -/
def befV (a b c d : Int) : Bool := decide (b < d ∨ b = d ∧ a < c)
theorem bef_1 {a b c d : Int} (h : b < d) : befV a b c d = true := by unfold befV; exact decide_eq_true (by omega)
theorem bef_2 {a b c d : Int} (h : ¬ b < d) (h' : ¬ b = d) : befV a b c d = false := by unfold befV; exact decide_eq_false (by omega)
theorem bef_3 {a b c d : Int} (h' : b = d) : befV a b c d = decide (a < c) := by unfold befV; exact decide_eq_decide.2 (by omega)
end Go.Proofs.YtkeljibnjpinlaaDoor

/- Points: moves: package impl and the model. -/
namespace Go.Proofs.YtkeljibnjpinlaaDoor
open Go.ChangeShapes Go.WideShapes Go.ChangeAt Go.RowKit
set_option linter.unusedVariables false

/-- May the point be moved so? -/
def movB (a b p q : Int) : Bool := isP a b && (inB p (-1000) 1000 && (inB q (-1000) 1000 && isP (a + p) (b + q)))
def movX (a b p q : Int) : Int := if movB a b p q = true then a + p else a
def movY (a b p q : Int) : Int := if movB a b p q = true then b + q else b
theorem mov_no {a b p q : Int} (h : movB a b p q = false) : movB a b p q = false ∧ movX a b p q = a ∧ movY a b p q = b := by
  simp [movX, movY, h]
theorem mov_yes {a b p q : Int} (h : movB a b p q = true) : movB a b p q = true ∧ movX a b p q = a + p ∧ movY a b p q = b + q := by
  simp [movX, movY, h]
theorem mov_at {a b p q a' b' : Int} {r : Bool} (h : movB a b p q = r ∧ movX a b p q = a' ∧ movY a b p q = b') : Ending.returned (.tuple #[PtV a' b', .bool r]) = .returned (.tuple #[PtV (movX a b p q) (movY a b p q), .bool (movB a b p q)]) := by
  obtain ⟨rfl, rfl, rfl⟩ := h; rfl
theorem inB_bd {n l h : Int} (e : inB n l h = true) : l ≤ n ∧ n ≤ h := by simpa [inB] using e
end Go.Proofs.YtkeljibnjpinlaaDoor

/- Segments: the plane geometry, over whole numbers, without any program. -/
namespace Go.Proofs.YtkeljibnjpinlaaDoor
set_option linter.unusedVariables false

/-- The cross product: on which side of the line through (a, b) and (c, d) the point (x, y) is. -/
def crs (a b c d x y : Int) : Int := (c - a) * (y - b) - (d - b) * (x - a)
/-- Between two numbers, in either order. -/
theorem btw {n m u v : Int} (hn : n ≠ 0) (h : n * u = v * m) (hv : 0 ≤ v ∧ v ≤ n ∨ n ≤ v ∧ v ≤ 0) : 0 ≤ u ∧ u ≤ m ∨ m ≤ u ∧ u ≤ 0 := by
  rcases hv with ⟨h0, h1⟩ | ⟨h1, h0⟩
  · have hp : 0 < n := by omega
    by_cases hm : 0 ≤ m
    · refine .inl ⟨?_, ?_⟩
      · have h2 : 0 ≤ n * u := by rw [h]; exact Int.mul_nonneg h0 hm
        exact Int.nonneg_of_mul_nonneg_right h2 hp
      · have h2 : n * u ≤ n * m := by rw [h]; exact Int.mul_le_mul_of_nonneg_right h1 hm
        exact Int.le_of_mul_le_mul_left h2 hp
    · refine .inr ⟨?_, ?_⟩
      · have h2 : n * m ≤ n * u := by rw [h]; exact Int.mul_le_mul_of_nonpos_right h1 (by omega)
        exact Int.le_of_mul_le_mul_left h2 hp
      · have h2 : n * u ≤ n * 0 := by rw [h, Int.mul_zero]; exact Int.mul_nonpos_of_nonneg_of_nonpos h0 (by omega)
        exact Int.le_of_mul_le_mul_left h2 hp
  · have hp : 0 < -n := by omega
    have h' : (-n) * u = (-v) * m := by rw [Int.neg_mul, Int.neg_mul, h]
    by_cases hm : 0 ≤ m
    · refine .inl ⟨?_, ?_⟩
      · have h2 : 0 ≤ (-n) * u := by rw [h']; exact Int.mul_nonneg (by omega) hm
        exact Int.nonneg_of_mul_nonneg_right h2 hp
      · have h2 : (-n) * u ≤ (-n) * m := by rw [h']; exact Int.mul_le_mul_of_nonneg_right (by omega) hm
        exact Int.le_of_mul_le_mul_left h2 hp
    · refine .inr ⟨?_, ?_⟩
      · have h2 : (-n) * m ≤ (-n) * u := by rw [h']; exact Int.mul_le_mul_of_nonpos_right (by omega) (by omega)
        exact Int.le_of_mul_le_mul_left h2 hp
      · have h2 : (-n) * u ≤ (-n) * 0 := by rw [h', Int.mul_zero]; exact Int.mul_nonpos_of_nonneg_of_nonpos (by omega) (by omega)
        exact Int.le_of_mul_le_mul_left h2 hp
/-- A point lies on a segment: in its box and on its line. -/
def On (a b c d x y : Int) : Prop := min a c ≤ x ∧ x ≤ max a c ∧ min b d ≤ y ∧ y ≤ max b d ∧ crs a b c d x y = 0
theorem crs_xy (a b c d x y : Int) : crs b a d c y x = -crs a b c d x y := by unfold crs; grind
theorem crs_turn (a b c d x y : Int) : crs c d a b x y = -crs a b c d x y := by unfold crs; grind
theorem on_xy {a b c d x y : Int} : On b a d c y x ↔ On a b c d x y := by
  unfold On; rw [crs_xy]; omega
theorem on_turn {a b c d x y : Int} : On c d a b x y ↔ On a b c d x y := by
  unfold On; rw [crs_turn]; omega
/-- An end of one that is on the other. -/
def Mem (oA oB oC oD : Prop) (a b c d p q r s x y : Int) : Prop := (oA ∧ x = a ∧ y = b) ∨ (oB ∧ x = c ∧ y = d) ∨ (oC ∧ x = p ∧ y = q) ∨ (oD ∧ x = r ∧ y = s)
/-- The ends of both that are on the other one. -/
def Sh (a b c d p q r s x y : Int) : Prop := Mem (On p q r s a b) (On p q r s c d) (On a b c d p q) (On a b c d r s) a b c d p q r s x y
theorem sh_xy {a b c d p q r s x y : Int} : Sh b a d c q p s r y x ↔ Sh a b c d p q r s x y := by
  unfold Sh Mem; simp only [on_xy, and_comm (a := y = _) (b := x = _)]
def Single (M : Int → Int → Prop) : Prop := ∃ x y, M x y ∧ ∀ x' y', M x' y' → x' = x ∧ y' = y
def Many (M : Int → Int → Prop) : Prop := ∃ x y x' y', M x y ∧ M x' y' ∧ ¬ (x = x' ∧ y = y')
/-- Two segments of one line that is not upright. -/
theorem col_slant {a b c d p q r s : Int} (hn : a ≠ c) (ht : p ≠ r ∨ q ≠ s) (h1 : crs a b c d p q = 0) (h2 : crs a b c d r s = 0)
    (hx : max (min a c) (min p r) ≤ min (max a c) (max p r)) :
    (max (min a c) (min p r) = min (max a c) (max p r) → Single (Sh a b c d p q r s) ∧ max (min b d) (min q s) = min (max b d) (max q s) ∨ min (max b d) (max q s) < max (min b d) (min q s)) ∧
    (max (min a c) (min p r) < min (max a c) (max p r) → Many (Sh a b c d p q r s)) := by
  -- each point is on the line
  have e (x y : Int) (h : crs a b c d x y = 0) : (c - a) * (y - b) = (x - a) * (d - b) := by unfold crs at h; grind
  have e1 := e p q h1
  have e2 := e r s h2
  have hpr : p ≠ r := by
    intro h
    subst h
    have : (c - a) * (q - s) = 0 := by grind
    rcases Int.mul_eq_zero.1 this with h | h <;> omega
  have g (x y : Int) (h : (c - a) * (y - b) = (x - a) * (d - b)) : crs p q r s x y = 0 := by
    have : (c - a) * crs p q r s x y = 0 := by unfold crs; grind
    rcases Int.mul_eq_zero.1 this with h | h
    · omega
    · exact h
  -- the height follows the place
  have eA : (c - a) * (b - b) = (a - a) * (d - b) := by grind
  have eB : (c - a) * (d - b) = (c - a) * (d - b) := rfl
  have onS (x y : Int) (h : (c - a) * (y - b) = (x - a) * (d - b)) (h0 : min a c ≤ x) (h1 : x ≤ max a c) : On a b c d x y := by
    have := btw (n := c - a) (m := d - b) (u := y - b) (v := x - a) (by omega) h (by omega)
    exact ⟨h0, h1, by omega, by omega, by unfold crs; grind⟩
  have onT (x y : Int) (h : (c - a) * (y - b) = (x - a) * (d - b)) (h0 : min p r ≤ x) (h1 : x ≤ max p r) : On p q r s x y := by
    have hg := g x y h
    have := btw (n := r - p) (m := s - q) (u := y - q) (v := x - p) (by omega) (by unfold crs at hg; grind) (by omega)
    exact ⟨h0, h1, by omega, by omega, hg⟩
  have same (x y x' y' : Int) (h : (c - a) * (y - b) = (x - a) * (d - b)) (h' : (c - a) * (y' - b) = (x' - a) * (d - b)) (hx : x = x') : y = y' := by
    have : (c - a) * (y - y') = 0 := by subst hx; grind
    rcases Int.mul_eq_zero.1 this with h | h <;> omega
  -- every end that is on the other lies in the range that both share, and has its height by its place
  have range (x y : Int) (h : Sh a b c d p q r s x y) : max (min a c) (min p r) ≤ x ∧ x ≤ min (max a c) (max p r) ∧ (c - a) * (y - b) = (x - a) * (d - b) := by
    rcases h with ⟨h, rfl, rfl⟩ | ⟨h, rfl, rfl⟩ | ⟨h, rfl, rfl⟩ | ⟨h, rfl, rfl⟩
    · exact ⟨by have := h.1; omega, by have := h.2.1; omega, eA⟩
    · exact ⟨by have := h.1; omega, by have := h.2.1; omega, eB⟩
    · exact ⟨by have := h.1; omega, by have := h.2.1; omega, e1⟩
    · exact ⟨by have := h.1; omega, by have := h.2.1; omega, e2⟩
  have found (z : Int) (hz : z = max (min a c) (min p r) ∨ z = min (max a c) (max p r)) : ∃ y, Sh a b c d p q r s z y := by
    have : z = a ∨ z = c ∨ z = p ∨ z = r := by omega
    rcases this with h | h | h | h
    · exact ⟨b, .inl ⟨onT a b eA (by omega) (by omega), h, rfl⟩⟩
    · exact ⟨d, .inr (.inl ⟨onT c d eB (by omega) (by omega), h, rfl⟩)⟩
    · exact ⟨q, .inr (.inr (.inl ⟨onS p q e1 (by omega) (by omega), h, rfl⟩))⟩
    · exact ⟨s, .inr (.inr (.inr ⟨onS r s e2 (by omega) (by omega), h, rfl⟩))⟩
  refine ⟨fun hz => ?_, fun hz => ?_⟩
  · by_cases hy : min (max b d) (max q s) < max (min b d) (min q s)
    · exact .inr hy
    · refine .inl ⟨?_, ?_⟩
      · obtain ⟨y, hy⟩ := found _ (.inl rfl)
        refine ⟨_, y, hy, fun x' y' h' => ?_⟩
        have r1 := range _ _ hy
        have r2 := range _ _ h'
        have hxx : x' = max (min a c) (min p r) := by omega
        exact ⟨hxx, same _ _ _ _ r2.2.2 r1.2.2 hxx⟩
      · -- the heights: those of s on one side, those of t on the other
        have up (x y x' y' : Int) (h : (c - a) * (y - b) = (x - a) * (d - b)) (h' : (c - a) * (y' - b) = (x' - a) * (d - b)) : (c - a) * (y' - y) = (x' - x) * (d - b) := by grind
        have mono (hs : 0 ≤ (c - a) * (d - b)) (x y x' y' : Int) (h : (c - a) * (y - b) = (x - a) * (d - b)) (h' : (c - a) * (y' - b) = (x' - a) * (d - b)) (hx : x ≤ x') : y ≤ y' := by
          have := up x y x' y' h h'
          by_cases hc : y' < y
          · exfalso
            have h3 : (c - a) * (c - a) * (y' - y) = (x' - x) * ((c - a) * (d - b)) := by grind
            have h4 : 0 ≤ (x' - x) * ((c - a) * (d - b)) := Int.mul_nonneg (by omega) hs
            have h5 : 0 < (c - a) * (c - a) := by
              rcases Int.lt_or_gt_of_ne hn with h | h
              · exact Int.mul_pos (by omega) (by omega)
              · exact Int.mul_pos_of_neg_of_neg (by omega) (by omega)
            have h6 : (c - a) * (c - a) * (y' - y) < 0 := Int.mul_neg_of_pos_of_neg h5 (by omega)
            omega
          · omega
        have anti (hs : (c - a) * (d - b) ≤ 0) (x y x' y' : Int) (h : (c - a) * (y - b) = (x - a) * (d - b)) (h' : (c - a) * (y' - b) = (x' - a) * (d - b)) (hx : x ≤ x') : y' ≤ y := by
          have := up x y x' y' h h'
          by_cases hc : y < y'
          · exfalso
            have h3 : (c - a) * (c - a) * (y' - y) = (x' - x) * ((c - a) * (d - b)) := by grind
            have h4 : (x' - x) * ((c - a) * (d - b)) ≤ 0 := Int.mul_nonpos_of_nonneg_of_nonpos (by omega) hs
            have h5 : 0 < (c - a) * (c - a) := by
              rcases Int.lt_or_gt_of_ne hn with h | h
              · exact Int.mul_pos (by omega) (by omega)
              · exact Int.mul_pos_of_neg_of_neg (by omega) (by omega)
            have h6 : 0 < (c - a) * (c - a) * (y' - y) := Int.mul_pos h5 (by omega)
            omega
          · omega
        have key : (a ≤ p ∧ a ≤ r ∧ c ≤ p ∧ c ≤ r) ∨ (p ≤ a ∧ r ≤ a ∧ p ≤ c ∧ r ≤ c) := by
          clear mono anti up range found onS onT same g e eA eB e1 e2 h1 h2 hy
          omega
        have fin : (b ≤ q ∧ b ≤ s ∧ d ≤ q ∧ d ≤ s) ∨ (q ≤ b ∧ s ≤ b ∧ q ≤ d ∧ s ≤ d) := by
          by_cases hs : 0 ≤ (c - a) * (d - b)
          · rcases key with ⟨g1, g2, g3, g4⟩ | ⟨g1, g2, g3, g4⟩
            · exact .inl ⟨mono hs a b p q eA e1 g1, mono hs a b r s eA e2 g2, mono hs c d p q eB e1 g3, mono hs c d r s eB e2 g4⟩
            · exact .inr ⟨mono hs p q a b e1 eA g1, mono hs r s a b e2 eA g2, mono hs p q c d e1 eB g3, mono hs r s c d e2 eB g4⟩
          · have hs : (c - a) * (d - b) ≤ 0 := by omega
            rcases key with ⟨g1, g2, g3, g4⟩ | ⟨g1, g2, g3, g4⟩
            · exact .inr ⟨anti hs a b p q eA e1 g1, anti hs a b r s eA e2 g2, anti hs c d p q eB e1 g3, anti hs c d r s eB e2 g4⟩
            · exact .inl ⟨anti hs p q a b e1 eA g1, anti hs r s a b e2 eA g2, anti hs p q c d e1 eB g3, anti hs r s c d e2 eB g4⟩
        clear mono anti up range found onS onT same g e eA eB e1 e2 h1 h2 key hx hz
        omega
  · obtain ⟨y, hy⟩ := found _ (.inl rfl)
    obtain ⟨y', hy'⟩ := found _ (.inr rfl)
    exact ⟨_, _, _, _, hy, hy', by omega⟩
/-- Two segments of one line whose boxes meet: they share one point just if their boxes do. -/
theorem col_any {a b c d p q r s : Int} (hs : a ≠ c ∨ b ≠ d) (ht : p ≠ r ∨ q ≠ s) (h1 : crs a b c d p q = 0) (h2 : crs a b c d r s = 0)
    (hx : max (min a c) (min p r) ≤ min (max a c) (max p r)) (hy : max (min b d) (min q s) ≤ min (max b d) (max q s)) :
    (max (min a c) (min p r) = min (max a c) (max p r) ∧ max (min b d) (min q s) = min (max b d) (max q s) → Single (Sh a b c d p q r s)) ∧
    (¬ (max (min a c) (min p r) = min (max a c) (max p r) ∧ max (min b d) (min q s) = min (max b d) (max q s)) → Many (Sh a b c d p q r s)) := by
  by_cases hn : a = c
  · have hbd : b ≠ d := by omega
    have h1' : crs b a d c q p = 0 := by rw [crs_xy, h1]; rfl
    have h2' : crs b a d c s r = 0 := by rw [crs_xy, h2]; rfl
    obtain ⟨k1, k2⟩ := col_slant hbd ht.symm h1' h2' hy
    have hpa : max (min a c) (min p r) = min (max a c) (max p r) := by
      subst hn
      have e1 : (d - b) * (p - a) = 0 := by unfold crs at h1; grind
      have e2 : (d - b) * (r - a) = 0 := by unfold crs at h2; grind
      rcases Int.mul_eq_zero.1 e1 with h | h <;> rcases Int.mul_eq_zero.1 e2 with h' | h' <;> omega
    refine ⟨fun hz => ?_, fun hz => ?_⟩
    · rcases k1 hz.2 with ⟨⟨x, y, hxy, hall⟩, _⟩ | h
      · exact ⟨y, x, sh_xy.1 hxy, fun x' y' h' => (hall y' x' (sh_xy.2 h')).symm⟩
      · omega
    · obtain ⟨x, y, x', y', m1, m2, hne⟩ := k2 (by omega)
      exact ⟨y, x, y', x', sh_xy.1 m1, sh_xy.1 m2, fun h => hne ⟨h.2, h.1⟩⟩
  · obtain ⟨k1, k2⟩ := col_slant hn ht h1 h2 hx
    refine ⟨fun hz => ?_, fun hz => ?_⟩
    · rcases k1 hz.1 with ⟨h, _⟩ | h
      · exact h
      · omega
    · by_cases hxx : max (min a c) (min p r) = min (max a c) (max p r)
      · rcases k1 hxx with ⟨_, h⟩ | h <;> omega
      · exact k2 (by omega)
/-- A number's sign. -/
def sg (z : Int) : Int := if 0 < z then 1 else if z < 0 then -1 else 0
theorem sg_neg (z : Int) : sg (-z) = -sg z := by unfold sg; split <;> split <;> (first | omega | (split <;> omega))
theorem sg_zero {z : Int} : sg z = 0 ↔ z = 0 := by unfold sg; split <;> (first | omega | (split <;> omega))
theorem sg_cases (z : Int) : (sg z = 1 ∧ 0 < z) ∨ (sg z = 0 ∧ z = 0) ∨ (sg z = -1 ∧ z < 0) := by unfold sg; split <;> (first | omega | (split <;> omega))
/-- One of two numbers at most is negative, one at most positive. -/
def Opp (f g : Int) : Prop := (f ≤ 0 ∧ 0 ≤ g) ∨ (g ≤ 0 ∧ 0 ≤ f)
theorem cross_zero {a b c d p q r s : Int} (ht : p ≠ r ∨ q ≠ s) (h1 : crs p q r s a b = 0) (h2 : crs p q r s c d = 0) : crs a b c d p q = 0 ∧ crs a b c d r s = 0 := by
  have e1 : crs a b c d p q * (r - p) = 0 := by unfold crs at *; grind
  have e2 : crs a b c d p q * (s - q) = 0 := by unfold crs at *; grind
  have e3 : crs a b c d r s - crs a b c d p q = crs p q r s a b - crs p q r s c d := by unfold crs; grind
  have : crs a b c d p q = 0 := by
    rcases ht with h | h
    · rcases Int.mul_eq_zero.1 e1 with h | h
      · exact h
      · omega
    · rcases Int.mul_eq_zero.1 e2 with h | h
      · exact h
      · omega
  exact ⟨this, by omega⟩
/-- An end on the other's line is on the other just if the other's ends are on different sides. -/
theorem end_on {a b c d p q r s : Int} (ht : p ≠ r ∨ q ≠ s) (hf : ¬ (crs a b c d p q = 0 ∧ crs a b c d r s = 0)) (hg : crs p q r s a b = 0) :
    (On p q r s a b ↔ Opp (crs a b c d p q) (crs a b c d r s)) ∧ crs p q r s c d ≠ 0 := by
  have e1 : (crs a b c d r s - crs a b c d p q) * (a - p) = (-crs a b c d p q) * (r - p) := by unfold crs at *; grind
  have e2 : (crs a b c d r s - crs a b c d p q) * (b - q) = (-crs a b c d p q) * (s - q) := by unfold crs at *; grind
  refine ⟨⟨fun h => ?_, fun h => ?_⟩, fun h => hf (cross_zero ht hg h)⟩
  · obtain ⟨x0, x1, y0, y1, _⟩ := h
    rcases ht with h | h
    · have := btw (n := r - p) (m := crs a b c d r s - crs a b c d p q) (u := -crs a b c d p q) (v := a - p) (by omega) (by rw [Int.mul_comm, ← e1, Int.mul_comm]) (by omega)
      unfold Opp; omega
    · have := btw (n := s - q) (m := crs a b c d r s - crs a b c d p q) (u := -crs a b c d p q) (v := b - q) (by omega) (by rw [Int.mul_comm, ← e2, Int.mul_comm]) (by omega)
      unfold Opp; omega
  · have hn : crs a b c d r s - crs a b c d p q ≠ 0 := by unfold Opp at h; omega
    have b1 := btw hn e1 (by unfold Opp at h; omega)
    have b2 := btw hn e2 (by unfold Opp at h; omega)
    exact ⟨by omega, by omega, by omega, by omega, hg⟩
theorem opp_neg {f g : Int} : Opp (-f) (-g) ↔ Opp f g := by unfold Opp; omega
theorem opp_sg {f g : Int} (h : ¬ (f = 0 ∧ g = 0)) : Opp f g ↔ sg f ≠ sg g := by
  unfold Opp
  rcases sg_cases f with h1 | h1 | h1 <;> rcases sg_cases g with h2 | h2 | h2 <;> omega
/-- Two segments of two lines. -/
theorem cut_any {a b c d p q r s : Int} (hs : a ≠ c ∨ b ≠ d) (ht : p ≠ r ∨ q ≠ s) (hf : ¬ (crs a b c d p q = 0 ∧ crs a b c d r s = 0)) :
    ((sg (crs a b c d p q) = sg (crs a b c d r s) ∨ sg (crs p q r s a b) = sg (crs p q r s c d)) → ∀ x y, ¬ Sh a b c d p q r s x y) ∧
    (¬ (sg (crs a b c d p q) = sg (crs a b c d r s) ∨ sg (crs p q r s a b) = sg (crs p q r s c d)) → (crs a b c d p q = 0 ∨ crs a b c d r s = 0 ∨ crs p q r s a b = 0 ∨ crs p q r s c d = 0) → Single (Sh a b c d p q r s)) ∧
    (¬ (crs a b c d p q = 0 ∨ crs a b c d r s = 0 ∨ crs p q r s a b = 0 ∨ crs p q r s c d = 0) → ∀ x y, ¬ Sh a b c d p q r s x y) := by
  have hg : ¬ (crs p q r s a b = 0 ∧ crs p q r s c d = 0) := fun h => hf (cross_zero ht h.1 h.2)
  have kA := fun h => end_on (a := a) (b := b) (c := c) (d := d) ht hf h
  have kB := fun h => end_on (a := c) (b := d) (c := a) (d := b) (p := p) (q := q) (r := r) (s := s) ht (by rw [crs_turn, crs_turn a b]; omega) h
  have kC := fun h => end_on (a := p) (b := q) (c := r) (d := s) (p := a) (q := b) (r := c) (s := d) hs hg h
  have kD := fun h => end_on (a := r) (b := s) (c := p) (d := q) (p := a) (q := b) (r := c) (s := d) hs (by rw [crs_turn, crs_turn p q]; omega) h
  rw [crs_turn a b c d p q, crs_turn a b c d r s, opp_neg] at kB
  rw [crs_turn p q r s a b, crs_turn p q r s c d, opp_neg] at kD
  rw [opp_sg hf] at kA kB
  rw [opp_sg hg] at kC kD
  refine ⟨fun h x y hm => ?_, fun h hz => ?_, fun h x y hm => ?_⟩
  · rcases hm with ⟨hm, _⟩ | ⟨hm, _⟩ | ⟨hm, _⟩ | ⟨hm, _⟩
    · have h0 := hm.2.2.2.2
      obtain ⟨k, k'⟩ := kA h0
      rcases h with h | h
      · exact k.1 hm h
      · have h1 := sg_zero.2 h0
        exact k' (sg_zero.1 (by omega))
    · have h0 := hm.2.2.2.2
      obtain ⟨k, k'⟩ := kB h0
      rcases h with h | h
      · exact k.1 hm h
      · have h1 := sg_zero.2 h0
        exact k' (sg_zero.1 (by omega))
    · have h0 := hm.2.2.2.2
      obtain ⟨k, k'⟩ := kC h0
      rcases h with h | h
      · have h1 := sg_zero.2 h0
        exact k' (sg_zero.1 (by omega))
      · exact k.1 hm h
    · have h0 := hm.2.2.2.2
      obtain ⟨k, k'⟩ := kD h0
      rcases h with h | h
      · have h1 := sg_zero.2 h0
        exact k' (sg_zero.1 (by omega))
      · exact k.1 hm h
  · have h1 : sg (crs a b c d p q) ≠ sg (crs a b c d r s) := fun e => h (.inl e)
    have h2 : sg (crs p q r s a b) ≠ sg (crs p q r s c d) := fun e => h (.inr e)
    have hn : crs a b c d p q ≠ crs a b c d r s := fun e => h1 (by rw [e])
    have both : ∀ x y, Sh a b c d p q r s x y → crs a b c d x y = 0 ∧ crs p q r s x y = 0 := by
      intro x y hm
      rcases hm with ⟨hm, rfl, rfl⟩ | ⟨hm, rfl, rfl⟩ | ⟨hm, rfl, rfl⟩ | ⟨hm, rfl, rfl⟩
      · exact ⟨by unfold crs; grind, hm.2.2.2.2⟩
      · exact ⟨by unfold crs; grind, hm.2.2.2.2⟩
      · exact ⟨hm.2.2.2.2, by unfold crs; grind⟩
      · exact ⟨hm.2.2.2.2, by unfold crs; grind⟩
    have uniq : ∀ x y x' y', crs a b c d x y = 0 ∧ crs p q r s x y = 0 → crs a b c d x' y' = 0 ∧ crs p q r s x' y' = 0 → x' = x ∧ y' = y := by
      intro x y x' y' ⟨u1, u2⟩ ⟨u3, u4⟩
      have e1 : (crs a b c d r s - crs a b c d p q) * (x' - x) = 0 := by unfold crs at *; grind
      have e2 : (crs a b c d r s - crs a b c d p q) * (y' - y) = 0 := by unfold crs at *; grind
      refine ⟨?_, ?_⟩
      · rcases Int.mul_eq_zero.1 e1 with h | h <;> omega
      · rcases Int.mul_eq_zero.1 e2 with h | h <;> omega
    have one : ∃ x y, Sh a b c d p q r s x y := by
      rcases hz with h0 | h0 | h0 | h0
      · exact ⟨p, q, .inr (.inr (.inl ⟨(kC h0).1.2 h2, rfl, rfl⟩))⟩
      · exact ⟨r, s, .inr (.inr (.inr ⟨(kD h0).1.2 h2, rfl, rfl⟩))⟩
      · exact ⟨a, b, .inl ⟨(kA h0).1.2 h1, rfl, rfl⟩⟩
      · exact ⟨c, d, .inr (.inl ⟨(kB h0).1.2 h1, rfl, rfl⟩)⟩
    obtain ⟨x, y, hm⟩ := one
    exact ⟨x, y, hm, fun x' y' hm' => uniq x y x' y' (both x y hm) (both x' y' hm')⟩
  · rcases hm with ⟨hm, _⟩ | ⟨hm, _⟩ | ⟨hm, _⟩ | ⟨hm, _⟩
    · exact h (.inr (.inr (.inl hm.2.2.2.2)))
    · exact h (.inr (.inr (.inr hm.2.2.2.2)))
    · exact h (.inl hm.2.2.2.2)
    · exact h (.inr (.inl hm.2.2.2.2))
end Go.Proofs.YtkeljibnjpinlaaDoor

/- Variables of the call's own: blocks behind the world at its start, each with its cells. -/
namespace Go.Proofs.YtkeljibnjpinlaaDoor
open Go.RowKit
set_option linter.unusedVariables false

/-- Variables of the call's own: the j-th, with the cells l[j], is the j-th block behind w0's. -/
def Vars (w0 w : World) (l : List (Array Value)) : Prop :=
  Below w0.heap.size w0 w ∧ w0.heap.size + l.length ≤ w.heap.size ∧
  ∀ (j : Nat) cs, l[j]? = some cs → ∃ T, w.heap[w0.heap.size + j]? = some (.cells cs T (0, 0))
section
variable {w0 w w' : World} {l : List (Array Value)} {cs cs' cs'' : Array Value} {v v0 v1 v2 v3 v4 v5 v6 v7 : Value} {i j b : Nat}
theorem Vars.next (h : Vars w0 w l) (hb : Below w.heap.size w w') : Vars w0 w' l := by
  refine ⟨h.1.trans (hb.mono h.1.size), Nat.le_trans h.2.1 hb.size, fun j x hj => ?_⟩
  have hl : j < l.length := (List.getElem?_eq_some_iff.1 hj).1
  have h2 := h.2.1
  obtain ⟨T, h3⟩ := h.2.2 j x hj
  exact ⟨T, (hb.block _ (by omega)).trans h3⟩
theorem Vars.drew (h : Vars w0 w l) : Vars w0 w.drew l := h.next (Below.refl _ _).drew
theorem Vars.al (h : Vars w0 w l) (o : Obj) : Vars w0 (w.alloc o) l := h.next ((Below.refl _ _).alloc (Nat.le_refl _) o)
theorem Vars.nil (w0 : World) : Vars w0 w0 [] := ⟨Below.refl _ _, by simp, fun j x h => by simp at h⟩
theorem Vars.more (h : Vars w0 w l) (hz : w0.heap.size + l.length = w.heap.size) (T : TypeId) (cs : Array Value) : Vars w0 (w.alloc (.cells cs T)) (l ++ [cs]) := by
  have hn := h.al (.cells cs T)
  refine ⟨hn.1, by simp; omega, fun j u hj => ?_⟩
  by_cases hl : j < l.length
  · rw [List.getElem?_append_left hl] at hj
    exact hn.2.2 j u hj
  · have hj' : j = l.length := by
      have := (List.getElem?_eq_some_iff.1 hj).1
      simp at this; omega
    subst hj'
    simp at hj
    subst hj
    rw [hz]
    exact ⟨T, heap_alloc_new w _⟩
theorem Vars.of1 (w0 : World) (c0 : Array Value) (T : TypeId) : Vars w0 (w0.alloc (.cells c0 T)) [c0] := (Vars.nil w0).more (by simp) T c0
theorem Vars.of2 (w0 : World) (c0 c1 : Array Value) (T U : TypeId) : Vars w0 ((w0.alloc (.cells c0 T)).alloc (.cells c1 U)) [c0, c1] := (Vars.of1 w0 c0 T).more (by simp) U c1
theorem Vars.of3 (w0 : World) (c0 c1 c2 : Array Value) (T U S : TypeId) : Vars w0 (((w0.alloc (.cells c0 T)).alloc (.cells c1 U)).alloc (.cells c2 S)) [c0, c1, c2] := (Vars.of2 w0 c0 c1 T U).more (by simp) S c2
theorem Vars.of4 (w0 : World) (c0 c1 c2 c3 : Array Value) (T U S R : TypeId) : Vars w0 ((((w0.alloc (.cells c0 T)).alloc (.cells c1 U)).alloc (.cells c2 S)).alloc (.cells c3 R)) [c0, c1, c2, c3] := (Vars.of3 w0 c0 c1 c2 T U S).more (by simp) R c3
theorem Vars.cell (h : Vars w0 w l) (b j i : Nat) (hb : b = w0.heap.size + j) (hj : l[j]? = some cs) (hi : cs[i]? = some v) : w.cell? ⟨b, i, none⟩ = some v := by
  subst hb
  obtain ⟨T, h3⟩ := h.2.2 j cs hj
  rw [World.cell?, h3]
  simpa using hi
theorem Vars.frozen (h : Vars w0 w l) (b j i : Nat) (hb : b = w0.heap.size + j) (hj : l[j]? = some cs) : w.frozen? ⟨b, i, none⟩ = false := by
  subst hb
  obtain ⟨T, h3⟩ := h.2.2 j cs hj
  rw [World.frozen?, h3]; rfl
/-- A cell of the first one is written. -/
theorem Vars.set0 (h : Vars w0 w (cs :: l)) (i : Nat) (v : Value) : Vars w0 (w.setCell ⟨w0.heap.size, i, none⟩ v) (cs.setIfInBounds i v :: l) := by
  refine ⟨h.1.setCell (Nat.le_refl _) v, Nat.le_trans (by simpa using h.2.1) (by simp [World.setCell]), fun j c hj => ?_⟩
  match j, hj with
  | 0, hj =>
    simp at hj; subst hj
    obtain ⟨T, h3⟩ := h.2.2 0 cs rfl
    exact ⟨T, heap_setCell_same w _ i cs T v h3⟩
  | j + 1, hj =>
    obtain ⟨T, h3⟩ := h.2.2 (j + 1) c (by simpa using hj)
    exact ⟨T, (Below.heap_setCell _ _ _ _ (by simp)).trans h3⟩
/-- A block behind them is written. -/
theorem Vars.put (h : Vars w0 w l) {b : Nat} (hb : w0.heap.size + l.length ≤ b) (i : Nat) (v : Value) : Vars w0 (w.setCell ⟨b, i, none⟩ v) l := by
  refine ⟨h.1.setCell (by simp; omega) v, Nat.le_trans h.2.1 (by simp [World.setCell]), fun j c hj => ?_⟩
  have hl : j < l.length := (List.getElem?_eq_some_iff.1 hj).1
  obtain ⟨T, h3⟩ := h.2.2 j c hj
  exact ⟨T, (Below.heap_setCell _ _ _ _ (by simp; omega)).trans h3⟩
/-- The first two alone. -/
theorem Vars.first2 (h : Vars w0 w (cs :: cs' :: l)) : Vars w0 w [cs, cs'] := by
  refine ⟨h.1, by have := h.2.1; simp at this ⊢; omega, fun j c hj => ?_⟩
  match j, hj with
  | 0, hj => exact h.2.2 0 c (by simpa using hj)
  | 1, hj => exact h.2.2 1 c (by simpa using hj)
  | j + 2, hj => simp at hj
theorem Vars.put1 (h : Vars w0 w [cs]) {b : Nat} (hb : w0.heap.size + 1 ≤ b) (i : Nat) (v : Value) : Vars w0 (w.setCell ⟨b, i, none⟩ v) [cs] := h.put hb i v
theorem Vars.put2 (h : Vars w0 w [cs, cs']) {b : Nat} (hb : w0.heap.size + 2 ≤ b) (i : Nat) (v : Value) : Vars w0 (w.setCell ⟨b, i, none⟩ v) [cs, cs'] := h.put hb i v
theorem Vars.put3 (h : Vars w0 w [cs, cs', cs'']) {b : Nat} (hb : w0.heap.size + 3 ≤ b) (i : Nat) (v : Value) : Vars w0 (w.setCell ⟨b, i, none⟩ v) [cs, cs', cs''] := h.put hb i v
theorem Vars.more2 (h : Vars w0 w (cs :: cs' :: l)) : w0.heap.size + 2 ≤ w.heap.size := by have := h.2.1; simp at this; omega
theorem Vars.more3 (h : Vars w0 w (cs :: cs' :: cs'' :: l)) : w0.heap.size + 3 ≤ w.heap.size := by have := h.2.1; simp at this; omega
theorem Vars.more1 (h : Vars w0 w (cs :: l)) : w0.heap.size + 1 ≤ w.heap.size := by have := h.2.1; simp at this; omega
/-- The first one's, at its own address. -/
theorem Vars.frz0 (h : Vars w0 w (cs :: l)) (i : Nat) : w.frozen? ⟨w0.heap.size, i, none⟩ = false := h.frozen w0.heap.size 0 i rfl rfl
theorem Vars.cel0 (h : Vars w0 w (cs :: l)) (i : Nat) (hi : cs[i]? = some v) : w.cell? ⟨w0.heap.size, i, none⟩ = some v := h.cell w0.heap.size 0 i rfl rfl hi
theorem Vars.c1 (h : Vars w0 w l) (b j : Nat) (hb : b = w0.heap.size + j) (hj : l[j]? = some #[v0]) : w.cell? ⟨b, 0, none⟩ = some v0 := h.cell b j 0 hb hj rfl
theorem Vars.c2 (h : Vars w0 w l) (b j : Nat) (hb : b = w0.heap.size + j) (hj : l[j]? = some #[v0, v1]) : w.cell? ⟨b, 0, none⟩ = some v0 ∧ w.cell? ⟨b, 1, none⟩ = some v1 := ⟨h.cell b j 0 hb hj rfl, h.cell b j 1 hb hj rfl⟩
theorem Vars.c4 (h : Vars w0 w l) (b j : Nat) (hb : b = w0.heap.size + j) (hj : l[j]? = some #[v0, v1, v2, v3]) : w.cell? ⟨b, 0, none⟩ = some v0 ∧ w.cell? ⟨b, 1, none⟩ = some v1 ∧ w.cell? ⟨b, 2, none⟩ = some v2 ∧ w.cell? ⟨b, 3, none⟩ = some v3 :=
  ⟨h.cell b j 0 hb hj rfl, h.cell b j 1 hb hj rfl, h.cell b j 2 hb hj rfl, h.cell b j 3 hb hj rfl⟩
theorem Vars.c10 (h : Vars w0 w (#[v0] :: l)) : w.cell? ⟨w0.heap.size, 0, none⟩ = some v0 := h.c1 _ 0 rfl rfl
theorem Vars.c20 (h : Vars w0 w (#[v0, v1] :: l)) : w.cell? ⟨w0.heap.size, 0, none⟩ = some v0 ∧ w.cell? ⟨w0.heap.size, 1, none⟩ = some v1 := h.c2 _ 0 rfl rfl
theorem Vars.c21 (h : Vars w0 w (cs :: #[v0, v1] :: l)) : w.cell? ⟨w0.heap.size + 1, 0, none⟩ = some v0 ∧ w.cell? ⟨w0.heap.size + 1, 1, none⟩ = some v1 := h.c2 _ 1 rfl rfl
theorem Vars.c40 (h : Vars w0 w (#[v0, v1, v2, v3] :: l)) : w.cell? ⟨w0.heap.size, 0, none⟩ = some v0 ∧ w.cell? ⟨w0.heap.size, 1, none⟩ = some v1 ∧ w.cell? ⟨w0.heap.size, 2, none⟩ = some v2 ∧ w.cell? ⟨w0.heap.size, 3, none⟩ = some v3 := h.c4 _ 0 rfl rfl
theorem Vars.c41 (h : Vars w0 w (cs :: #[v0, v1, v2, v3] :: l)) : w.cell? ⟨w0.heap.size + 1, 0, none⟩ = some v0 ∧ w.cell? ⟨w0.heap.size + 1, 1, none⟩ = some v1 ∧ w.cell? ⟨w0.heap.size + 1, 2, none⟩ = some v2 ∧ w.cell? ⟨w0.heap.size + 1, 3, none⟩ = some v3 := h.c4 _ 1 rfl rfl
theorem Vars.c42 (h : Vars w0 w (cs :: cs' :: #[v0, v1, v2, v3] :: l)) : w.cell? ⟨w0.heap.size + 1 + 1, 0, none⟩ = some v0 ∧ w.cell? ⟨w0.heap.size + 1 + 1, 1, none⟩ = some v1 ∧ w.cell? ⟨w0.heap.size + 1 + 1, 2, none⟩ = some v2 ∧ w.cell? ⟨w0.heap.size + 1 + 1, 3, none⟩ = some v3 := h.c4 _ 2 rfl rfl
/-- Two segments (or boxes), a segment and a point. -/
theorem Vars.c44 (h : Vars w0 w (#[v0, v1, v2, v3] :: #[v4, v5, v6, v7] :: l)) : w.cell? ⟨w0.heap.size, 0, none⟩ = some v0 ∧ w.cell? ⟨w0.heap.size, 1, none⟩ = some v1 ∧ w.cell? ⟨w0.heap.size, 2, none⟩ = some v2 ∧ w.cell? ⟨w0.heap.size, 3, none⟩ = some v3 ∧
    w.cell? ⟨w0.heap.size + 1, 0, none⟩ = some v4 ∧ w.cell? ⟨w0.heap.size + 1, 1, none⟩ = some v5 ∧ w.cell? ⟨w0.heap.size + 1, 2, none⟩ = some v6 ∧ w.cell? ⟨w0.heap.size + 1, 3, none⟩ = some v7 :=
  ⟨h.c40.1, h.c40.2.1, h.c40.2.2.1, h.c40.2.2.2, h.c41.1, h.c41.2.1, h.c41.2.2.1, h.c41.2.2.2⟩
theorem Vars.c42p (h : Vars w0 w (#[v0, v1, v2, v3] :: #[v4, v5] :: l)) : w.cell? ⟨w0.heap.size, 0, none⟩ = some v0 ∧ w.cell? ⟨w0.heap.size, 1, none⟩ = some v1 ∧ w.cell? ⟨w0.heap.size, 2, none⟩ = some v2 ∧ w.cell? ⟨w0.heap.size, 3, none⟩ = some v3 ∧
    w.cell? ⟨w0.heap.size + 1, 0, none⟩ = some v4 ∧ w.cell? ⟨w0.heap.size + 1, 1, none⟩ = some v5 :=
  ⟨h.c40.1, h.c40.2.1, h.c40.2.2.1, h.c40.2.2.2, h.c21.1, h.c21.2⟩
theorem Vars.fr81 (h : Vars w0 w (cs :: cs' :: l)) : w.frozen? ⟨w0.heap.size + 1, 0, none⟩ = false ∧ w.frozen? ⟨w0.heap.size + 1, 1, none⟩ = false ∧ w.frozen? ⟨w0.heap.size + 1, 2, none⟩ = false ∧ w.frozen? ⟨w0.heap.size + 1, 3, none⟩ = false ∧
    w.frozen? ⟨w0.heap.size + 1, 4, none⟩ = false ∧ w.frozen? ⟨w0.heap.size + 1, 5, none⟩ = false ∧ w.frozen? ⟨w0.heap.size + 1, 6, none⟩ = false ∧ w.frozen? ⟨w0.heap.size + 1, 7, none⟩ = false :=
  ⟨h.frozen _ 1 0 rfl rfl, h.frozen _ 1 1 rfl rfl, h.frozen _ 1 2 rfl rfl, h.frozen _ 1 3 rfl rfl, h.frozen _ 1 4 rfl rfl, h.frozen _ 1 5 rfl rfl, h.frozen _ 1 6 rfl rfl, h.frozen _ 1 7 rfl rfl⟩
theorem Vars.fr42 (h : Vars w0 w (cs :: cs' :: cs'' :: l)) : w.frozen? ⟨w0.heap.size + 1 + 1, 0, none⟩ = false ∧ w.frozen? ⟨w0.heap.size + 1 + 1, 1, none⟩ = false ∧ w.frozen? ⟨w0.heap.size + 1 + 1, 2, none⟩ = false ∧ w.frozen? ⟨w0.heap.size + 1 + 1, 3, none⟩ = false :=
  ⟨h.frozen _ 2 0 rfl rfl, h.frozen _ 2 1 rfl rfl, h.frozen _ 2 2 rfl rfl, h.frozen _ 2 3 rfl rfl⟩
theorem Vars.set80 (h : Vars w0 w l) {b : Nat} (hb : w0.heap.size ≤ b) (v0 v1 v2 v3 v4 v5 v6 v7 : Value) :
    Below w0.heap.size w0 ((((((((w.setCell ⟨b, 0, none⟩ v0).setCell ⟨b, 1, none⟩ v1).setCell ⟨b, 2, none⟩ v2).setCell ⟨b, 3, none⟩ v3).setCell ⟨b, 4, none⟩ v4).setCell ⟨b, 5, none⟩ v5).setCell ⟨b, 6, none⟩ v6).setCell ⟨b, 7, none⟩ v7) :=
  (((((((h.1.setCell hb _).setCell hb _).setCell hb _).setCell hb _).setCell hb _).setCell hb _).setCell hb _).setCell hb _
theorem Vars.set40 (h : Vars w0 w l) {b : Nat} (hb : w0.heap.size ≤ b) (v0 v1 v2 v3 : Value) :
    Below w0.heap.size w0 ((((w.setCell ⟨b, 0, none⟩ v0).setCell ⟨b, 1, none⟩ v1).setCell ⟨b, 2, none⟩ v2).setCell ⟨b, 3, none⟩ v3) :=
  (((h.1.setCell hb _).setCell hb _).setCell hb _).setCell hb _
theorem Vars.set20 (h : Vars w0 w l) {b : Nat} (hb : w0.heap.size ≤ b) (v0 v1 : Value) : Below w0.heap.size w0 ((w.setCell ⟨b, 0, none⟩ v0).setCell ⟨b, 1, none⟩ v1) :=
  (h.1.setCell hb _).setCell hb _
theorem Vars.c8 (h : Vars w0 w l) (b j : Nat) (hb : b = w0.heap.size + j) (hj : l[j]? = some #[v0, v1, v2, v3, v4, v5, v6, v7]) :
    w.cell? ⟨b, 0, none⟩ = some v0 ∧ w.cell? ⟨b, 1, none⟩ = some v1 ∧ w.cell? ⟨b, 2, none⟩ = some v2 ∧ w.cell? ⟨b, 3, none⟩ = some v3 ∧ w.cell? ⟨b, 4, none⟩ = some v4 ∧ w.cell? ⟨b, 5, none⟩ = some v5 ∧ w.cell? ⟨b, 6, none⟩ = some v6 ∧ w.cell? ⟨b, 7, none⟩ = some v7 :=
  ⟨h.cell b j 0 hb hj rfl, h.cell b j 1 hb hj rfl, h.cell b j 2 hb hj rfl, h.cell b j 3 hb hj rfl, h.cell b j 4 hb hj rfl, h.cell b j 5 hb hj rfl, h.cell b j 6 hb hj rfl, h.cell b j 7 hb hj rfl⟩
end
end Go.Proofs.YtkeljibnjpinlaaDoor

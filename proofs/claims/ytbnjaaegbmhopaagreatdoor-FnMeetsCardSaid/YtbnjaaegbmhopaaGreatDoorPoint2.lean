/- Points: the functions of chapter 4 in package impl and in the model, by their values. -/
import Derived.Test.YtbnjaaegbmhopaaGreatDoorPoint
import Derived.Deep.RegionHeld3
namespace Go.Proofs.YtbnjaaegbmhopaaGreatDoor
open Go.ChangeShapes Go.WideShapes Go.ChangeAt Go.RowKit
set_option linter.unusedVariables false

/-- The cells of a list of points. -/
def flatP : List (Int × Int) → List Value
  | [] => []
  | p :: r => .int .i64 p.1 :: .int .i64 p.2 :: flatP r
theorem flatP_at {ps : List (Int × Int)} {j : Nat} {x y : Int} (h : ps[j]? = some (x, y)) : (flatP ps)[j * 2]? = some (.int .i64 x) ∧ (flatP ps)[j * 2 + 1]? = some (.int .i64 y) := by
  induction ps generalizing j with
  | nil => simp at h
  | cons p r ih =>
    match j, h with
    | 0, h => simp at h; subst h; exact ⟨rfl, rfl⟩
    | j + 1, h =>
      have := ih (j := j) (by simpa using h)
      rw [show (j + 1) * 2 = j * 2 + 1 + 1 by omega]
      simpa [flatP] using this
theorem seesP_new (W : World) (T : TypeId) (ps : List (Int × Int)) (cs : Array Value) (b B : Nat) (hcs : cs.toList = flatP ps) (hb : b = W.heap.size) (hB : W.heap.size < B) : SeesP (W.alloc (.cells cs T)) B (some ⟨b, 0, none⟩) ps := fun j x y hj => by
  subst hb
  obtain ⟨h1, h2⟩ := flatP_at hj
  have hc : ∀ i, (W.alloc (.cells cs T)).cell? ⟨W.heap.size, i, none⟩ = cs[i]? := fun i => by rw [World.cell?, heap_alloc_new]; simp
  refine ⟨_, _, rfl, hB, ?_, ?_⟩
  · rw [hc, Nat.zero_add, ← h1, ← hcs]; simp
  · rw [hc, Nat.zero_add, ← h2, ← hcs]; simp

/-- Points of the call's own: the j-th lies in the j-th block behind w0's. -/
def Boxes (w0 w : World) (l : List (Int × Int)) : Prop :=
  Below w0.heap.size w0 w ∧ w0.heap.size + l.length ≤ w.heap.size ∧
  ∀ (j : Nat) x y, l[j]? = some (x, y) → ∃ T, w.heap[w0.heap.size + j]? = some (.cells #[.int .i64 x, .int .i64 y] T (0, 0))
section
variable {w0 w w' : World} {l : List (Int × Int)} {a b c d x y : Int}
theorem Boxes.next (h : Boxes w0 w l) (hb : Below w.heap.size w w') : Boxes w0 w' l := by
  refine ⟨h.1.trans (hb.mono h.1.size), Nat.le_trans h.2.1 hb.size, fun j x y hj => ?_⟩
  have hl : j < l.length := (List.getElem?_eq_some_iff.1 hj).1
  have h2 := h.2.1
  obtain ⟨T, h3⟩ := h.2.2 j x y hj
  exact ⟨T, (hb.block _ (by omega)).trans h3⟩
theorem Boxes.drew (h : Boxes w0 w l) : Boxes w0 w.drew l := h.next (Below.refl _ _).drew
theorem Boxes.al (h : Boxes w0 w l) (o : Obj) : Boxes w0 (w.alloc o) l := h.next ((Below.refl _ _).alloc (Nat.le_refl _) o)
theorem Boxes.nil (w0 : World) : Boxes w0 w0 [] := ⟨Below.refl _ _, by simp, fun j x y h => by simp at h⟩
theorem Boxes.more (h : Boxes w0 w l) (hz : w0.heap.size + l.length = w.heap.size) (T : TypeId) (x y : Int) : Boxes w0 (w.alloc (.cells #[.int .i64 x, .int .i64 y] T)) (l ++ [(x, y)]) := by
  have hn := h.al (.cells #[.int .i64 x, .int .i64 y] T)
  refine ⟨hn.1, by simp; omega, fun j u v hj => ?_⟩
  by_cases hl : j < l.length
  · rw [List.getElem?_append_left hl] at hj
    exact hn.2.2 j u v hj
  · have hj' : j = l.length := by
      have := (List.getElem?_eq_some_iff.1 hj).1
      simp at this; omega
    subst hj'
    simp at hj
    obtain ⟨rfl, rfl⟩ := hj
    rw [hz]
    exact ⟨T, heap_alloc_new w _⟩
theorem Boxes.cell (h : Boxes w0 w l) {j : Nat} (hj : l[j]? = some (x, y)) : w.cell? ⟨w0.heap.size + j, 0, none⟩ = some (.int .i64 x) ∧ w.cell? ⟨w0.heap.size + j, 1, none⟩ = some (.int .i64 y) := by
  obtain ⟨T, h3⟩ := h.2.2 j x y hj
  constructor
  · rw [World.cell?, h3]; rfl
  · rw [World.cell?, h3]; rfl
theorem Boxes.frozen (h : Boxes w0 w l) {j : Nat} (hj : l[j]? = some (x, y)) : w.frozen? ⟨w0.heap.size + j, 0, none⟩ = false ∧ w.frozen? ⟨w0.heap.size + j, 1, none⟩ = false := by
  obtain ⟨T, h3⟩ := h.2.2 j x y hj
  constructor
  · rw [World.frozen?, h3]; rfl
  · rw [World.frozen?, h3]; rfl
theorem Boxes.of1 (w0 : World) (T : TypeId) : Boxes w0 (w0.alloc (.cells #[.int .i64 a, .int .i64 b] T)) [(a, b)] := (Boxes.nil w0).more (by simp) T a b
theorem Boxes.of2 (w0 : World) (T : TypeId) : Boxes w0 ((w0.alloc (.cells #[.int .i64 a, .int .i64 b] T)).alloc (.cells #[.int .i64 c, .int .i64 d] T)) [(a, b), (c, d)] := (Boxes.of1 w0 T).more (by simp) T c d
theorem Boxes.of3 (w0 : World) (T : TypeId) : Boxes w0 (((w0.alloc (.cells #[.int .i64 a, .int .i64 b] T)).alloc (.cells #[.int .i64 c, .int .i64 d] T)).alloc (.cells #[.int .i64 x, .int .i64 y] T)) [(a, b), (c, d), (x, y)] := (Boxes.of2 w0 T).more (by simp) T x y
theorem Boxes.c1 (h : Boxes w0 w [(a, b)]) : w.cell? ⟨w0.heap.size, 0, none⟩ = some (.int .i64 a) ∧ w.cell? ⟨w0.heap.size, 1, none⟩ = some (.int .i64 b) := h.cell (j := 0) rfl
theorem Boxes.c2 (h : Boxes w0 w [(a, b), (c, d)]) : w.cell? ⟨w0.heap.size, 0, none⟩ = some (.int .i64 a) ∧ w.cell? ⟨w0.heap.size, 1, none⟩ = some (.int .i64 b) ∧ w.cell? ⟨w0.heap.size + 1, 0, none⟩ = some (.int .i64 c) ∧ w.cell? ⟨w0.heap.size + 1, 1, none⟩ = some (.int .i64 d) :=
  ⟨(h.cell (j := 0) rfl).1, (h.cell (j := 0) rfl).2, (h.cell (j := 1) rfl).1, (h.cell (j := 1) rfl).2⟩
theorem Boxes.c3 (h : Boxes w0 w [(a, b), (c, d), (x, y)]) : w.cell? ⟨w0.heap.size, 0, none⟩ = some (.int .i64 a) ∧ w.cell? ⟨w0.heap.size, 1, none⟩ = some (.int .i64 b) ∧ w.cell? ⟨w0.heap.size + 1, 0, none⟩ = some (.int .i64 c) ∧ w.cell? ⟨w0.heap.size + 1, 1, none⟩ = some (.int .i64 d) ∧ w.cell? ⟨w0.heap.size + 1 + 1, 0, none⟩ = some (.int .i64 x) ∧ w.cell? ⟨w0.heap.size + 1 + 1, 1, none⟩ = some (.int .i64 y) :=
  ⟨(h.cell (j := 0) rfl).1, (h.cell (j := 0) rfl).2, (h.cell (j := 1) rfl).1, (h.cell (j := 1) rfl).2, (h.cell (j := 2) rfl).1, (h.cell (j := 2) rfl).2⟩
end
theorem isPoint_any (x y : Int) (w : World) :
    Calls Tryz.prog 16 #[PtV x y] w fun e w' => e = .returned (.bool (isP x y)) ∧ Below w.heap.size w w' := by
  go_enter Tryz.func16, Tryz.ntmps16
  go_wp2_with fail
  refine (arePoints_any _ _ [(x, y)] _ (seesP_new _ _ _ _ _ _ (by rfl) (by simp) (by simp)) (by simp)).mono ?_
  rintro e w1 ⟨rfl, hb1⟩
  go_wp2
  go_ret
  exact ⟨ret_eq (by simp [allP]), (((Boxes.of1 w 33).next ((Below.refl _ _).alloc (Nat.le_refl _) _)).next hb1).1⟩
theorem isPoint_is (x y : Int) (b : Bool) (w : World) (hb : isP x y = b) :
    Calls Tryz.prog 16 #[PtV x y] w fun e w' => e = .returned (.bool b) ∧ Below w.heap.size w w' := by
  subst hb; exact isPoint_any x y w
/-- Two points, three points of the map. -/
def isP2 (a b c d : Int) : Bool := isP a b && isP c d
def isP3 (a b c d x y : Int) : Bool := isP a b && (isP c d && isP x y)
theorem mul_bd {u v : Int} (h : -200 ≤ u) (h1 : u ≤ 200) (h2 : -200 ≤ v) (h3 : v ≤ 200) : -40000 ≤ u * v ∧ u * v ≤ 40000 := by
  have hn : (u * v).natAbs ≤ 200 * 200 := by
    rw [Int.natAbs_mul]
    exact Nat.mul_le_mul (by omega) (by omega)
  omega
/-- The order of two numbers, as a number. -/
def cmpV (u v : Int) : Int := if u < v then -1 else if v < u then 1 else 0
theorem isNaN_any (u : Int) (w : World) : Calls Tryz.prog 121 #[.int .i64 u] w fun e w' => e = .returned (.bool false) ∧ w = w' := by
  go_enter Tryz.func121, Tryz.ntmps121
  go_wp2
  go_ret
  exact ⟨by simp, rfl⟩
theorem compare_any (u v : Int) (w : World) : Calls Tryz.prog 88 #[.int .i64 u, .int .i64 v] w fun e w' => e = .returned (.int .i64 (cmpV u v)) ∧ w = w' := by
  rcases (by omega : u < v ∨ v < u ∨ u = v) with h | h | rfl
  · go_enter Tryz.func88, Tryz.ntmps88
    go_wp2_with (go_at_call 121; refine (isNaN_any _ _).mono ?_; rintro e w' ⟨rfl, rfl⟩)
    go_ret
    exact ⟨ret_int (by unfold cmpV; rw [if_pos h]), rfl⟩
  · go_enter Tryz.func88, Tryz.ntmps88
    go_wp2_with (go_at_call 121; refine (isNaN_any _ _).mono ?_; rintro e w' ⟨rfl, rfl⟩)
    go_ret
    exact ⟨ret_int (by unfold cmpV; rw [if_neg (by omega), if_pos h]), rfl⟩
  · go_enter Tryz.func88, Tryz.ntmps88
    go_wp2_with (go_at_call 121; refine (isNaN_any _ _).mono ?_; rintro e w' ⟨rfl, rfl⟩)
    go_ret
    exact ⟨ret_int (by unfold cmpV; rw [if_neg (by omega), if_neg (by omega)]), rfl⟩
/-- On which side of a line a point is. -/
def sideV (a b c d x y : Int) : Int := if isP3 a b c d x y = true then cmpV ((c - a) * (y - b)) ((d - b) * (x - a)) else 0
theorem cmp_bd (u v : Int) : cmpV u v = 1 ∧ v < u ∨ cmpV u v = 0 ∧ u = v ∨ cmpV u v = -1 ∧ u < v := by
  unfold cmpV; split
  · exact .inr (.inr ⟨rfl, by assumption⟩)
  · split
    · exact .inl ⟨rfl, by assumption⟩
    · exact .inr (.inl ⟨rfl, by omega⟩)
theorem isP3_bd {a b c d x y : Int} (h : isP3 a b c d x y = true) : (0 ≤ a ∧ a ≤ 200 ∧ 0 ≤ b ∧ b ≤ 200) ∧ (0 ≤ c ∧ c ≤ 200 ∧ 0 ≤ d ∧ d ≤ 200) ∧ (0 ≤ x ∧ x ≤ 200 ∧ 0 ≤ y ∧ y ≤ 200) := by
  simp only [isP3, Bool.and_eq_true] at h
  exact ⟨isP_bd h.1, isP_bd h.2.1, isP_bd h.2.2⟩
theorem isP2_bd {a b c d : Int} (h : isP2 a b c d = true) : (0 ≤ a ∧ a ≤ 200 ∧ 0 ≤ b ∧ b ≤ 200) ∧ (0 ≤ c ∧ c ≤ 200 ∧ 0 ≤ d ∧ d ≤ 200) := by
  simp only [isP2, Bool.and_eq_true] at h
  exact ⟨isP_bd h.1, isP_bd h.2⟩
theorem side_yes {a b c d x y : Int} (h : isP3 a b c d x y = true) : sideV a b c d x y = cmpV ((c - a) * (y - b)) ((d - b) * (x - a)) := by unfold sideV; rw [if_pos h]
theorem side_no {a b c d x y : Int} (h : isP3 a b c d x y = false) : sideV a b c d x y = 0 := by unfold sideV; rw [h]; rfl
theorem cmp_sub0 {u v z : Int} (h : u - v = z) : cmpV z 0 = cmpV u v := by
  unfold cmpV
  by_cases h1 : u < v
  · rw [if_pos h1, if_pos (by omega)]
  · by_cases h2 : v < u
    · rw [if_neg h1, if_neg (by omega), if_pos h2, if_pos (by omega)]
    · rw [if_neg h1, if_neg (by omega), if_neg h2, if_neg (by omega)]
theorem signed_is (a b c d x y z : Int) (w : World) (hA : 0 ≤ a ∧ a ≤ 200 ∧ 0 ≤ b ∧ b ≤ 200) (hC : 0 ≤ c ∧ c ≤ 200 ∧ 0 ≤ d ∧ d ≤ 200) (hX : 0 ≤ x ∧ x ≤ 200 ∧ 0 ≤ y ∧ y ≤ 200) (hz : (c - a) * (y - b) - (d - b) * (x - a) = z) :
    Calls Tryz.prog 124 #[PtV a b, PtV c d, PtV x y] w fun e w' => e = .returned (.int .i64 z) ∧ Below w.heap.size w w' := by
  have m1 := mul_bd (u := c - a) (v := y - b) (by omega) (by omega) (by omega) (by omega)
  have m2 := mul_bd (u := d - b) (v := x - a) (by omega) (by omega) (by omega) (by omega)
  subst hz
  go_enter Tryz.func124, Tryz.ntmps124
  go_wp2
  go_ret
  exact ⟨rfl, (Boxes.of3 w 33).1⟩
theorem sideOf_any (a b c d x y : Int) (w : World) :
    Calls Tryz.prog 92 #[PtV a b, PtV c d, PtV x y] w fun e w' => e = .returned (.int .i64 (sideV a b c d x y)) ∧ Below w.heap.size w w' := by
  go_enter Tryz.func92, Tryz.ntmps92
  go_wp2_with fail
  refine (arePoints_any _ _ [(a, b), (c, d), (x, y)] _ (seesP_new _ _ _ _ _ _ (by rfl) (by simp) (by simp)) (by simp)).mono ?_
  rintro e w1 ⟨rfl, hb1⟩
  have HB := Lib.hid (((Boxes.of3 w 33).next ((Below.refl _ _).alloc (Nat.le_refl _) _)).next hb1)
  clear hb1
  have he : allP [(a, b), (c, d), (x, y)] = isP3 a b c d x y := by simp [allP, isP3]
  cases h : isP3 a b c d x y
  · have hx : allP [(a, b), (c, d), (x, y)] = false := he.trans h
    have HS := Lib.hid (side_no h)
    clear he h
    go_wp2
    go_ret
    exact ⟨ret_int HS.out.symm, HB.out.1⟩
  · have hx : allP [(a, b), (c, d), (x, y)] = true := he.trans h
    obtain ⟨hA, hC, hX⟩ := isP3_bd h
    obtain ⟨z, hz⟩ : ∃ z, (c - a) * (y - b) - (d - b) * (x - a) = z := ⟨_, rfl⟩
    have HS : Hid (cmpV z 0 = sideV a b c d x y) := Lib.hid (by rw [side_yes h]; exact cmp_sub0 hz)
    have HZ := Lib.hid hz
    obtain ⟨k0, k1, k2, k3, k4, k5⟩ := HB.out.c3
    clear he h hz
    go_wp2_with fail
    refine (signed_is a b c d x y z _ hA hC hX HZ.out).mono ?_
    rintro e w2 ⟨rfl, hb2⟩
    go_wp2_with fail
    refine (compare_any _ _ _).mono ?_
    rintro e w' ⟨rfl, rfl⟩
    go_wp2
    go_ret
    exact ⟨ret_int HS.out, (HB.out.next hb2).1⟩
theorem cmp_of {u v z : Int} (h : u - v = z) : cmpV u v = if 0 < z then 1 else if z < 0 then -1 else 0 := by
  unfold cmpV; split <;> split <;> (first | rfl | omega | (split <;> first | rfl | omega))
theorem cross_any (a b c d x y : Int) (w : World) (hA : 0 ≤ a ∧ a ≤ 200 ∧ 0 ≤ b ∧ b ≤ 200) (hC : 0 ≤ c ∧ c ≤ 200 ∧ 0 ≤ d ∧ d ≤ 200) (hX : 0 ≤ x ∧ x ≤ 200 ∧ 0 ≤ y ∧ y ≤ 200) :
    Calls Tryz.prog 158 #[PtV a b, PtV c d, PtV x y] w fun e w' => e = .returned (.int .i64 ((c - a) * (y - b) - (d - b) * (x - a))) ∧ Below w.heap.size w w' := by
  have m1 := mul_bd (u := c - a) (v := y - b) (by omega) (by omega) (by omega) (by omega)
  have m2 := mul_bd (u := d - b) (v := x - a) (by omega) (by omega) (by omega) (by omega)
  go_enter Tryz.func158, Tryz.ntmps158
  go_wp2
  go_ret
  exact ⟨rfl, (Boxes.of3 w 33).1⟩
theorem cross_is (a b c d x y z : Int) (w : World) (hA : 0 ≤ a ∧ a ≤ 200 ∧ 0 ≤ b ∧ b ≤ 200) (hC : 0 ≤ c ∧ c ≤ 200 ∧ 0 ≤ d ∧ d ≤ 200) (hX : 0 ≤ x ∧ x ≤ 200 ∧ 0 ≤ y ∧ y ≤ 200) (hz : (c - a) * (y - b) - (d - b) * (x - a) = z) :
    Calls Tryz.prog 158 #[PtV a b, PtV c d, PtV x y] w fun e w' => e = .returned (.int .i64 z) ∧ Below w.heap.size w w' := by
  subst hz; exact cross_any a b c d x y w hA hC hX
theorem sSideOf_any (a b c d x y : Int) (w : World) :
    Calls Tryz.prog 140 #[PtV a b, PtV c d, PtV x y] w fun e w' => e = .returned (.int .i64 (sideV a b c d x y)) ∧ Below w.heap.size w w' := by
  go_enter Tryz.func140, Tryz.ntmps140
  go_wp2_with fail
  cases h1 : isP a b
  · have hs : sideV a b c d x y = 0 := side_no (by simp [isP3, h1])
    refine (sIsPoint_is a b _ _ h1).mono ?_
    rintro e w1 ⟨rfl, hb1⟩
    go_wp2
    go_ret
    exact ⟨ret_int hs.symm, ((Boxes.of3 w 33).next hb1).1⟩
  · refine (sIsPoint_is a b _ _ h1).mono ?_
    rintro e w1 ⟨rfl, hb1⟩
    have HB := Lib.hid ((Boxes.of3 w 33).next hb1)
    obtain ⟨k0, k1, k2, k3, k4, k5⟩ := HB.out.c3
    clear hb1
    go_wp2_with fail
    cases h2 : isP c d
    · have hs : sideV a b c d x y = 0 := side_no (by simp [isP3, h2])
      refine (sIsPoint_is c d _ _ h2).mono ?_
      rintro e w2 ⟨rfl, hb2⟩
      go_wp2
      go_ret
      exact ⟨ret_int hs.symm, (HB.out.next hb2).1⟩
    · refine (sIsPoint_is c d _ _ h2).mono ?_
      rintro e w2 ⟨rfl, hb2⟩
      have HB2 := Lib.hid (HB.out.next hb2)
      clear hb2 HB k0 k1 k2 k3 k4 k5
      obtain ⟨k0, k1, k2, k3, k4, k5⟩ := HB2.out.c3
      go_wp2_with fail
      cases h3 : isP x y
      · have hs : sideV a b c d x y = 0 := side_no (by simp [isP3, h3])
        refine (sIsPoint_is x y _ _ h3).mono ?_
        rintro e w3 ⟨rfl, hb3⟩
        go_wp2
        go_ret
        exact ⟨ret_int hs.symm, (HB2.out.next hb3).1⟩
      · refine (sIsPoint_is x y _ _ h3).mono ?_
        rintro e w3 ⟨rfl, hb3⟩
        have HB3 := Lib.hid (HB2.out.next hb3)
        clear hb3 HB2 k0 k1 k2 k3 k4 k5
        obtain ⟨k0, k1, k2, k3, k4, k5⟩ := HB3.out.c3
        have h : isP3 a b c d x y = true := by simp [isP3, h1, h2, h3]
        have HS := Lib.hid (side_yes h)
        obtain ⟨hA, hC, hX⟩ := isP3_bd h
        clear h h1 h2 h3
        obtain ⟨z, hz⟩ : ∃ z, (c - a) * (y - b) - (d - b) * (x - a) = z := ⟨_, rfl⟩
        have HZ := Lib.hid hz
        have HV := Lib.hid (HS.out.trans (cmp_of hz))
        clear hz HS
        go_wp2_with fail
        refine (cross_is a b c d x y z _ hA hC hX HZ.out).mono ?_
        rintro e w4 ⟨rfl, hb4⟩
        have HB4 := Lib.hid (HB3.out.next hb4)
        clear hb4 HB3 k0 k1 k2 k3 k4 k5 hA hC hX HZ
        rcases (by omega : 0 < z ∨ z < 0 ∨ z = 0) with h | h | rfl
        · have HE : Hid (sideV a b c d x y = 1) := Lib.hid (by rw [HV.out, if_pos h])
          clear HV
          go_wp2
          go_ret
          exact ⟨ret_int HE.out.symm, HB4.out.1⟩
        · have HE : Hid (sideV a b c d x y = -1) := Lib.hid (by rw [HV.out, if_neg (by omega), if_pos h])
          clear HV
          go_wp2
          go_ret
          exact ⟨ret_int HE.out.symm, HB4.out.1⟩
        · have HE : Hid (sideV a b c d x y = 0) := Lib.hid (by rw [HV.out, if_neg (by omega), if_neg (by omega)])
          clear HV
          go_wp2
          go_ret
          exact ⟨ret_int HE.out.symm, HB4.out.1⟩
/-- The square of a distance. -/
def farV (a b c d : Int) : Int := if isP2 a b c d = true then (a - c) * (a - c) + (b - d) * (b - d) else -1
/-- The steps between two points. -/
def stepsV (a b c d : Int) : Int := if isP2 a b c d = true then extV true (a - c) (c - a) + extV true (b - d) (d - b) else -1
theorem far_yes {a b c d : Int} (h : isP2 a b c d = true) : farV a b c d = (a - c) * (a - c) + (b - d) * (b - d) := by unfold farV; rw [if_pos h]
theorem far_no {a b c d : Int} (h : isP2 a b c d = false) : farV a b c d = -1 := by unfold farV; rw [h]; rfl
theorem steps_yes {a b c d : Int} (h : isP2 a b c d = true) : stepsV a b c d = extV true (a - c) (c - a) + extV true (b - d) (d - b) := by unfold stepsV; rw [if_pos h]
theorem steps_no {a b c d : Int} (h : isP2 a b c d = false) : stepsV a b c d = -1 := by unfold stepsV; rw [h]; rfl
theorem ext_abs (u : Int) : extV true u (-u) = (u.natAbs : Int) := by
  unfold extV; rw [if_pos rfl]; split <;> omega
theorem ext_sub (a c : Int) : extV true (a - c) (c - a) = ((a - c).natAbs : Int) := by
  have := ext_abs (a - c)
  rwa [Int.neg_sub] at this
theorem abs_sq (u : Int) : (u.natAbs : Int) * (u.natAbs : Int) = u * u := Int.natAbs_mul_self' u
end Go.Proofs.YtbnjaaegbmhopaaGreatDoor

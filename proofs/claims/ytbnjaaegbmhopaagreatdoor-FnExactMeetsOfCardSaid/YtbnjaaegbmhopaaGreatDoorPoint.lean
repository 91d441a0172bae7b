/- Points: what the functions of chapter 4 give, in package impl and in the model. -/
import Derived.Test.YtbnjaaegbmhopaaGreatDoorInt
import Derived.Test.YtbnjaaegbmhopaaGreatDoorMem
import Derived.Deep.LoopGhost
namespace Go.Proofs.YtbnjaaegbmhopaaGreatDoor
open Go.ChangeShapes Go.WideShapes Go.ChangeAt Go.RowKit
set_option linter.unusedVariables false

/-- A point, as a value. -/
abbrev PtV (x y : Int) : Value := .agg #[.int .i64 x, .int .i64 y]
/-- What a slice of points shows, below block B. -/
def SeesP (w : World) (B : Nat) (A : Option Addr) (ps : List (Int × Int)) : Prop :=
  ∀ (j : Nat) x y, ps[j]? = some (x, y) → ∃ b off, A = some ⟨b, off, none⟩ ∧ b < B ∧ w.cell? ⟨b, off + j * 2, none⟩ = some (.int .i64 x) ∧ w.cell? ⟨b, off + j * 2 + 1, none⟩ = some (.int .i64 y)
theorem SeesP.below {w w' : World} {B : Nat} {A : Option Addr} {ps : List (Int × Int)} (h : SeesP w B A ps) (hb : Below B w w') : SeesP w' B A ps := fun j x y hj => by
  obtain ⟨b, off, e, hlt, h1, h2⟩ := h j x y hj
  exact ⟨b, off, e, hlt, (hb.cell (p := ⟨b, off + j * 2, none⟩) hlt).trans h1, (hb.cell (p := ⟨b, off + j * 2 + 1, none⟩) hlt).trans h2⟩
theorem SeesP.at_ {w : World} {B : Nat} {A : Option Addr} {ps : List (Int × Int)} (h : SeesP w B A ps) {j : Nat} (hj : j < ps.length) :
    ∃ b off x y, A = some ⟨b, off, none⟩ ∧ b < B ∧ ps[j]? = some (x, y) ∧ w.cell? ⟨b, off + j * 2, none⟩ = some (.int .i64 x) ∧ w.cell? ⟨b, off + j * 2 + 1, none⟩ = some (.int .i64 y) := by
  obtain ⟨b, off, e, hlt, h1, h2⟩ := h j (ps[j]).1 (ps[j]).2 (List.getElem?_eq_getElem hj)
  exact ⟨b, off, _, _, e, hlt, List.getElem?_eq_getElem hj, h1, h2⟩
theorem ret_eq {a b : Bool} (h : a = b) : Ending.returned (.bool a) = .returned (.bool b) := by rw [h]
theorem ret_int {a b : Int} (h : a = b) : Ending.returned (.int .i64 a) = .returned (.int .i64 b) := by rw [h]
theorem bel_al {w w' : World} {B : Nat} (h : Below B w w') (hB : B ≤ w.heap.size) (o : Obj) : Below B w (w'.alloc o) := h.alloc (Nat.le_trans hB h.size) o

theorem eqPoint_any (x y x' y' : Int) (w : World) :
    Calls Tryz.prog 111 #[PtV x y, PtV x' y'] w fun e w' => e = .returned (.bool (decide (x = x' ∧ y = y'))) ∧ Below w.heap.size w w' := by
  go_enter Tryz.func111, Tryz.ntmps111
  by_cases h : x = x'
  · subst h
    by_cases h' : y = y'
    · subst h'
      go_wp2
      go_ret
      exact ⟨by simp, ((Below.refl _ _).alloc (Nat.le_refl _) _).alloc (by simp) _⟩
    · go_wp2
      go_ret
      exact ⟨by simp, ((Below.refl _ _).alloc (Nat.le_refl _) _).alloc (by simp) _⟩
  · go_wp2
    go_ret
    exact ⟨by simp [h], ((Below.refl _ _).alloc (Nat.le_refl _) _).alloc (by simp) _⟩
theorem toPoint_any (x y : Int) (w : World) :
    Calls Tryz.prog 108 #[PtV x y] w fun e w' => e = .returned (PtV x y) ∧ Below w.heap.size w w' := by
  go_enter Tryz.func108, Tryz.ntmps108
  go_wp2
  refine bodyPost_ret (v := PtV x y) (by simp [results, Tryz.results108, go_sem]) rfl ⟨rfl, ?_⟩
  exact (((Below.refl _ _).alloc (Nat.le_refl _) _).alloc (by simp) _).alloc (by simp; omega) _
/-- Is it a point of the map? -/
def isP (x y : Int) : Bool := inB x 0 200 && inB y 0 200
theorem isP_no {x y : Int} (h : inB x 0 200 = false ∨ inB y 0 200 = false) : isP x y = false := by
  unfold isP; rcases h with h | h <;> simp [h]
theorem isP_yes {x y : Int} (h : inB x 0 200 = true) (h' : inB y 0 200 = true) : isP x y = true := by simp [isP, h, h']
theorem isP_bd {x y : Int} (h : isP x y = true) : 0 ≤ x ∧ x ≤ 200 ∧ 0 ≤ y ∧ y ≤ 200 := by
  simp [isP, inB] at h; omega
theorem isP_of {x y : Int} (h : 0 ≤ x) (h1 : x ≤ 200) (h2 : 0 ≤ y) (h3 : y ≤ 200) : isP x y = true := isP_yes (inB_yes h h1) (inB_yes h2 h3)
theorem isP_out {x y : Int} (h : isP x y = false) : ¬ (0 ≤ x ∧ x ≤ 200 ∧ 0 ≤ y ∧ y ≤ 200) := fun ⟨a, b, c, d⟩ => by rw [isP_of a b c d] at h; cases h
theorem sIsPoint_any (x y : Int) (w : World) :
    Calls Tryz.prog 103 #[PtV x y] w fun e w' => e = .returned (.bool (isP x y)) ∧ Below w.heap.size w w' := by
  go_enter Tryz.func103, Tryz.ntmps103
  cases h : inB x 0 200
  · go_wp2_with fail
    refine (l1in_is _ _ _ _ _ h).mono ?_
    rintro e w' ⟨rfl, rfl⟩
    go_wp2
    go_ret
    exact ⟨ret_eq (isP_no (.inl h)).symm, (Below.refl _ _).alloc (Nat.le_refl _) _⟩
  · go_wp2_with fail
    refine (l1in_is _ _ _ _ _ h).mono ?_
    rintro e w' ⟨rfl, rfl⟩
    go_wp2_with fail
    refine (l1in_any _ _ _ _).mono ?_
    rintro e w' ⟨rfl, rfl⟩
    go_wp2
    go_ret
    exact ⟨by simp [isP, h], (Below.refl _ _).alloc (Nat.le_refl _) _⟩
theorem sIsPoint_is (x y : Int) (b : Bool) (w : World) (hb : isP x y = b) :
    Calls Tryz.prog 103 #[PtV x y] w fun e w' => e = .returned (.bool b) ∧ Below w.heap.size w w' := by
  subst hb; exact sIsPoint_any x y w
/-- All of them are points of the map. -/
def allP (ps : List (Int × Int)) : Bool := ps.all fun p => isP p.1 p.2
theorem allP_step {ps : List (Int × Int)} {k : Nat} {x y : Int} (h : ps[k]? = some (x, y)) (ht : allP (ps.take k) = true) (hp : isP x y = true) : allP (ps.take (k + 1)) = true := by
  rw [List.take_add_one, h]
  simp only [allP, List.all_append, Option.toList, List.all_cons, List.all_nil, Bool.and_true, Bool.and_eq_true]
  exact ⟨ht, hp⟩
theorem allP_stop {ps : List (Int × Int)} {k : Nat} {x y : Int} (h : ps[k]? = some (x, y)) (hp : isP x y = false) : allP ps = false := by
  unfold allP
  rw [List.all_eq_false]
  exact ⟨(x, y), List.mem_of_getElem? h, by simp [hp]⟩
set_option maxRecDepth 100000 in
theorem arePoints_any (A : Option Addr) (c : Nat) (ps : List (Int × Int)) (w : World) (hs : SeesP w w.heap.size A ps) (hl : ps.length ≤ 17592186044416) :
    Calls Tryz.prog 54 #[.slice A ps.length c] w fun e w' => e = .returned (.bool (allP ps)) ∧ Below w.heap.size w w' := by
  have HS := Lib.hid hs; clear hs
  go_enter Tryz.func54, Tryz.ntmps54
  go_wp2
  go_step3
  go_wp2
  go_step3
  go_wp2
  go_loopg [3, 10] ps.length (fun g s3 i wr => ∃ k : Nat, k + g = ps.length ∧ i = .int .i64 k ∧ s3 = .bool true ∧ Hid (allP (ps.take k) = true) ∧ Below w.heap.size w wr)
  case atStart => exact ⟨0, by omega, rfl, rfl, Lib.hid rfl, Below.refl _ _⟩
  case round =>
    obtain ⟨k, hkg, rfl, rfl, HT, hb⟩ := hrel
    cases gk with
    | zero =>
      have hkz : ¬ ((k : Int) < (ps.length : Int)) := by omega
      have HE : Hid (allP ps = true) := Lib.hid (by have := HT.out; rwa [List.take_of_length_le (by omega)] at this)
      clear HT
      go_wp2
      go_ret
      exact ⟨ret_eq HE.out.symm, hb⟩
    | succ g =>
      have hkz : (k : Int) < (ps.length : Int) := by omega
      obtain ⟨b, off, x, y, rfl, hbB, hx, hcx, hcy⟩ := (HS.out.below hb).at_ (show k < ps.length by omega)
      have HX := Lib.hid hx; clear hx
      have i0 : ∀ w : World, (Instr.index 131 (.agg #[.int .i64 x, .int .i64 y]) (.int .i64 0)).run Tryz.prog w = .ok (.int .i64 x) w := fun _ => by kernel_rfl
      have i1 : ∀ w : World, (Instr.index 131 (.agg #[.int .i64 x, .int .i64 y]) (.int .i64 1)).run Tryz.prog w = .ok (.int .i64 y) w := fun _ => by kernel_rfl
      go_wp2
      go_loopg [3, 19] 2 (fun h s3 i wy => s3 = .bool true ∧ (∃ j : Nat, j + h = 2 ∧ i = .int .i64 j ∧ Hid ((1 ≤ j → inB x 0 200 = true) ∧ (2 ≤ j → inB y 0 200 = true))) ∧ Below w.heap.size w wy)
      case atStart => exact ⟨rfl, ⟨0, by omega, rfl, Lib.hid ⟨by omega, by omega⟩⟩, bel_al hb (Nat.le_refl _) _⟩
      case round =>
        obtain ⟨rfl, ⟨j, hj, rfl, HI⟩, hby⟩ := hrel
        clear hb
        rcases (by omega : j = 0 ∨ j = 1 ∨ j = 2) with rfl | rfl | rfl
        · obtain rfl : gk = 2 := by omega
          cases h1 : inB x 0 200
          · have HN : Hid (allP ps = false) := Lib.hid (allP_stop HX.out (isP_no (.inl h1)))
            go_wp2_with fail
            refine (in_is _ _ _ _ _ h1).mono ?_
            rintro e w' ⟨rfl, rfl⟩
            go_wp2
            rw [Exit.noGoto_ret]
            go_ret
            exact ⟨ret_eq HN.out.symm, hby⟩
          · go_wp2_with fail
            refine (in_is _ _ _ _ _ h1).mono ?_
            rintro e w' ⟨rfl, rfl⟩
            go_wp2
            go_roundg 1
            case measure => omega
            case rel => exact ⟨rfl, ⟨1, by omega, by go_num, Lib.hid ⟨fun _ => h1, by omega⟩⟩, hby⟩
        · obtain rfl : gk = 1 := by omega
          cases h1 : inB y 0 200
          · have HN : Hid (allP ps = false) := Lib.hid (allP_stop HX.out (isP_no (.inr h1)))
            go_wp2_with fail
            refine (in_is _ _ _ _ _ h1).mono ?_
            rintro e w' ⟨rfl, rfl⟩
            go_wp2
            rw [Exit.noGoto_ret]
            go_ret
            exact ⟨ret_eq HN.out.symm, hby⟩
          · go_wp2_with fail
            refine (in_is _ _ _ _ _ h1).mono ?_
            rintro e w' ⟨rfl, rfl⟩
            go_wp2
            go_roundg 0
            case measure => omega
            case rel => exact ⟨rfl, ⟨2, by omega, by go_num, Lib.hid ⟨fun _ => HI.out.1 (by omega), fun _ => h1⟩⟩, hby⟩
        · obtain rfl : gk = 0 := by omega
          have HP : Hid (allP (ps.take (k + 1)) = true) := Lib.hid (allP_step HX.out HT.out (isP_yes (HI.out.1 (by omega)) (HI.out.2 (by omega))))
          go_wp2
          go_roundg g
          case measure => omega
          case rel => exact ⟨k + 1, by omega, by go_num, rfl, HP, hby⟩
end Go.Proofs.YtbnjaaegbmhopaaGreatDoor

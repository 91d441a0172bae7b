/- Segments: the marks of ends, and how two segments meet, in package impl. -/
import Derived.Test.YtbnjaaegbmhopaaGreatDoorSegI3
namespace Go.Proofs.YtbnjaaegbmhopaaGreatDoor
open Go.ChangeShapes Go.WideShapes Go.ChangeAt Go.RowKit
set_option linter.unusedVariables false

abbrev MkV (m n : Int) : Value := .agg #[.int .i32 m, .int .i32 n]
abbrev MkC (m n : Int) : Array Value := #[.int .i32 m, .int .i32 n]
set_option maxHeartbeats 4000000 in
theorem markEnds_any (a b c d p q r s : Int) (w : World) :
    Calls Tryz.prog 131 #[SegV a b c d, SegV p q r s] w fun e w' => e = .returned (MkV (runeV (sideV a b c d p q)) (runeV (sideV a b c d r s))) ∧ Below w.heap.size w w' := by
  have HB := Lib.hid (Vars.of3 w (SegC a b c d) (SegC p q r s) (MkC 0 0) 78 78 175)
  obtain ⟨m, hm⟩ : ∃ m, runeV (sideV a b c d p q) = m := ⟨_, rfl⟩
  obtain ⟨n, hn⟩ : ∃ n, runeV (sideV a b c d r s) = n := ⟨_, rfl⟩
  have HM := Lib.hid hm
  have HN := Lib.hid hn
  rw [hm, hn]
  clear hm hn
  go_enter Tryz.func131, Tryz.ntmps131
  go_upto_region 1 with fail
  generalize (((w.alloc (.cells (SegC a b c d) 78)).alloc (.cells (SegC p q r s) 78)).alloc (.cells (MkC 0 0) 175)) = wz at HB ⊢
  obtain ⟨k0, k1, k2, k3, k4, k5, k6, k7⟩ := HB.out.c44
  obtain ⟨j0, j1⟩ := HB.out.c2 (w.heap.size + 1 + 1) 2 rfl rfl
  have j2 := HB.out.frozen (w.heap.size + 1 + 1) 2 0 rfl rfl
  have j3 := HB.out.frozen (w.heap.size + 1 + 1) 2 1 rfl rfl
  go_region_held3 (fun w' => w'.cell? ⟨w.heap.size, 0, none⟩ = some (.int .i64 a) ∧ w'.cell? ⟨w.heap.size, 1, none⟩ = some (.int .i64 b) ∧ w'.cell? ⟨w.heap.size, 2, none⟩ = some (.int .i64 c) ∧ w'.cell? ⟨w.heap.size, 3, none⟩ = some (.int .i64 d) ∧ w'.cell? ⟨w.heap.size + 1, 0, none⟩ = some (.int .i64 p) ∧ w'.cell? ⟨w.heap.size + 1, 1, none⟩ = some (.int .i64 q) ∧ w'.cell? ⟨w.heap.size + 1, 2, none⟩ = some (.int .i64 r) ∧ w'.cell? ⟨w.heap.size + 1, 3, none⟩ = some (.int .i64 s)) (first | with_reducible exact ⟨k0, k1, k2, k3, k4, k5, k6, k7⟩ | with_reducible exact HB9.out.c44 | with_reducible exact HB.out.drew.c44 | (have hp9 : w.heap.size + 2 ≤ w.heap.size + 1 + 1 := Nat.le_refl _; with_reducible exact ((HB7.out.put2 hp9 0 _).put2 hp9 1 _).c44)) (first
    | (go_at_call 91; refine (markSide_is _ _ _ _ _ _ _ _ (by first | exact HM.out | exact HN.out)).mono ?_; rintro e w9 ⟨rfl, hb9⟩; have HB9 := Lib.hid (Vars.next (by first | with_reducible exact HB9.out | with_reducible exact HB.out.drew) hb9); have HB7 := Lib.hid (Vars.first2 HB9.out); obtain ⟨j0, j1⟩ := HB9.out.c2 (w.heap.size + 1 + 1) 2 rfl rfl; have j2 := HB9.out.frozen (w.heap.size + 1 + 1) 2 0 rfl rfl; have j3 := HB9.out.frozen (w.heap.size + 1 + 1) 2 1 rfl rfl) | fail)
  all_goals
    go_wp2
    refine bodyPost_ret (v := MkV m n) (by simp [results, Tryz.results131, go_sem, j0, j1]) rfl ?_
    exact ⟨rfl, HB9.out.set20 (by omega) _ _⟩
theorem oneLine_any (a b c d : Int) (w : World) :
    Calls Tryz.prog 132 #[SegV a b c d] w fun e w' => e = .returned (.int .i64 (if a = c ∧ b = d then 1 else 3)) ∧ Below w.heap.size w w' := by
  have HB := Lib.hid (Vars.of1 w (SegC a b c d) 123)
  by_cases h1 : a = c
  · subst h1
    by_cases h2 : b = d
    · subst h2
      go_enter Tryz.func132, Tryz.ntmps132
      go_wp2
      go_ret
      exact ⟨by simp, HB.out.1⟩
    · have HE : Hid ((if a = a ∧ b = d then (1 : Int) else 3) = 3) := Lib.hid (if_neg (by omega))
      go_enter Tryz.func132, Tryz.ntmps132
      go_wp2
      go_ret
      exact ⟨by simp, HB.out.1⟩
  · go_enter Tryz.func132, Tryz.ntmps132
    go_wp2
    go_ret
    exact ⟨by simp, HB.out.1⟩
/-- How two segments meet, by marks. -/
def markW (m n u v : Int) : Int := if m = n ∨ u = v then 0 else if m = 48 ∨ n = 48 ∨ u = 48 ∨ v = 48 then 1 else 2
theorem markW_eq {f g u v : Int} (hf : f = 1 ∨ f = 0 ∨ f = -1) (hg : g = 1 ∨ g = 0 ∨ g = -1) (hu : u = 1 ∨ u = 0 ∨ u = -1) (hv : v = 1 ∨ v = 0 ∨ v = -1) : markW (runeV f) (runeV g) (runeV u) (runeV v) = markV f g u v := by
  rcases hf with rfl | rfl | rfl <;> rcases hg with rfl | rfl | rfl <;> rcases hu with rfl | rfl | rfl <;> rcases hv with rfl | rfl | rfl <;> decide
set_option maxRecDepth 100000 in
theorem byMarks_any (m n u v : Int) (w : World) :
    Calls Tryz.prog 133 #[MkV m n, MkV u v] w fun e w' => e = .returned (.int .i64 (markW m n u v)) ∧ Below w.heap.size w w' := by
  have HB := Lib.hid (Vars.of2 w (MkC m n) (MkC u v) 175 175)
  by_cases h1 : m = n
  · have HE : Hid (markW m n u v = 0) := Lib.hid (by unfold markW; rw [if_pos (.inl h1)])
    subst h1
    go_enter Tryz.func133, Tryz.ntmps133
    go_wp2
    go_ret
    exact ⟨ret_int HE.out.symm, HB.out.1⟩
  · by_cases h2 : u = v
    · have HE : Hid (markW m n u v = 0) := Lib.hid (by unfold markW; rw [if_pos (.inr h2)])
      subst h2
      go_enter Tryz.func133, Tryz.ntmps133
      go_wp2
      go_ret
      exact ⟨ret_int HE.out.symm, HB.out.1⟩
    · have HE : Hid (markW m n u v = if m = 48 ∨ n = 48 ∨ u = 48 ∨ v = 48 then 1 else 2) := Lib.hid (by unfold markW; rw [if_neg (by omega)])
      have b1 : (m == n) = false := by simpa using h1
      have b2 : (u == v) = false := by simpa using h2
      have i0 : ∀ w : World, (Instr.index 204 (.agg #[.int .i32 m, .int .i32 n, .int .i32 u, .int .i32 v]) (.int .i64 0)).run Tryz.prog w = .ok (.int .i32 m) w := fun _ => by kernel_rfl
      have i1 : ∀ w : World, (Instr.index 204 (.agg #[.int .i32 m, .int .i32 n, .int .i32 u, .int .i32 v]) (.int .i64 1)).run Tryz.prog w = .ok (.int .i32 n) w := fun _ => by kernel_rfl
      have i2 : ∀ w : World, (Instr.index 204 (.agg #[.int .i32 m, .int .i32 n, .int .i32 u, .int .i32 v]) (.int .i64 2)).run Tryz.prog w = .ok (.int .i32 u) w := fun _ => by kernel_rfl
      have i3 : ∀ w : World, (Instr.index 204 (.agg #[.int .i32 m, .int .i32 n, .int .i32 u, .int .i32 v]) (.int .i64 3)).run Tryz.prog w = .ok (.int .i32 v) w := fun _ => by kernel_rfl
      go_enter Tryz.func133, Tryz.ntmps133
      go_wp2
      go_loopg [6, 28] 4 (fun g s6 i wr => ∃ k : Nat, k + g = 4 ∧ i = .int .i64 k ∧ (∃ z : Value, s6 = z) ∧ Hid ((1 ≤ k → ¬ m = 48) ∧ (2 ≤ k → ¬ n = 48) ∧ (3 ≤ k → ¬ u = 48) ∧ (4 ≤ k → ¬ v = 48)) ∧ Below w.heap.size w wr)
      case atStart => exact ⟨0, by omega, rfl, ⟨_, rfl⟩, Lib.hid (by omega), HB.out.1⟩
      case round =>
        obtain ⟨k, hkg, rfl, ⟨z, rfl⟩, HI, hb⟩ := hrel
        rcases (by omega : k = 0 ∨ k = 1 ∨ k = 2 ∨ k = 3 ∨ k = 4) with rfl | rfl | rfl | rfl | rfl
        · obtain rfl : gk = 4 := by omega
          by_cases h : m = 48
          · have HF : Hid (markW m n u v = 1) := Lib.hid (by rw [HE.out, if_pos (by omega)])
            clear HE HI
            subst h
            go_wp2
            go_ret
            exact ⟨ret_int HF.out.symm, hb⟩
          · go_wp2
            go_roundg 3
            case measure => omega
            case rel => exact ⟨1, by omega, by go_num, ⟨_, rfl⟩, Lib.hid (by omega), hb⟩
        · obtain rfl : gk = 3 := by omega
          by_cases h : n = 48
          · have HF : Hid (markW m n u v = 1) := Lib.hid (by rw [HE.out, if_pos (by omega)])
            clear HE HI
            subst h
            go_wp2
            go_ret
            exact ⟨ret_int HF.out.symm, hb⟩
          · have hi := HI.out.1 (by omega)
            go_wp2
            go_roundg 2
            case measure => omega
            case rel => exact ⟨2, by omega, by go_num, ⟨_, rfl⟩, Lib.hid (by omega), hb⟩
        · obtain rfl : gk = 2 := by omega
          by_cases h : u = 48
          · have HF : Hid (markW m n u v = 1) := Lib.hid (by rw [HE.out, if_pos (by omega)])
            clear HE HI
            subst h
            go_wp2
            go_ret
            exact ⟨ret_int HF.out.symm, hb⟩
          · have hi := HI.out.1 (by omega)
            have hj := HI.out.2.1 (by omega)
            go_wp2
            go_roundg 1
            case measure => omega
            case rel => exact ⟨3, by omega, by go_num, ⟨_, rfl⟩, Lib.hid (by omega), hb⟩
        · obtain rfl : gk = 1 := by omega
          by_cases h : v = 48
          · have HF : Hid (markW m n u v = 1) := Lib.hid (by rw [HE.out, if_pos (by omega)])
            clear HE HI
            subst h
            go_wp2
            go_ret
            exact ⟨ret_int HF.out.symm, hb⟩
          · have hi := HI.out.1 (by omega)
            have hj := HI.out.2.1 (by omega)
            have hk := HI.out.2.2.1 (by omega)
            go_wp2
            go_roundg 0
            case measure => omega
            case rel => exact ⟨4, by omega, by go_num, ⟨_, rfl⟩, Lib.hid (by omega), hb⟩
        · obtain rfl : gk = 0 := by omega
          have HF : Hid (markW m n u v = 2) := Lib.hid (by
            have h0 := HI.out.1 (by omega)
            have h1 := HI.out.2.1 (by omega)
            have h2 := HI.out.2.2.1 (by omega)
            have h3 := HI.out.2.2.2 (by omega)
            rw [HE.out, if_neg (by omega)])
          clear HE HI
          go_wp2
          go_ret
          exact ⟨ret_int HF.out.symm, hb⟩
end Go.Proofs.YtbnjaaegbmhopaaGreatDoor

/- Segments: the ends of two segments that are on the other one, in the model. -/
import Derived.Test.YtbnjaaegbmhopaaGreatDoorSegS2
import Derived.Test.YtbnjaaegbmhopaaGreatDoorMemP
import Derived.Test.YtbnjaaegbmhopaaGreatDoorTabs
import Derived.Deep.LoopGhost
import Derived.Deep.DeepCutAuto
import Derived.Deep.QuietTactic
import Derived.BigQuiet
namespace Go.Proofs.YtbnjaaegbmhopaaGreatDoor
open Go.ChangeShapes Go.WideShapes Go.ChangeAt Go.RowKit
set_option linter.unusedVariables false

/-- The four ends. -/
def endsL (a b c d p q r s : Int) : List (Int × Int) := [(a, b), (c, d), (p, q), (r, s)]
/-- Is the k-th end on the other segment? -/
def onK (a b c d p q r s : Int) : Nat → Bool
  | 0 => onV p q r s a b
  | 1 => onV p q r s c d
  | 2 => onV a b c d p q
  | _ => onV a b c d r s
/-- What the first k ends give. -/
def shT (a b c d p q r s : Int) : Nat → List (Int × Int)
  | 0 => []
  | k + 1 => match (endsL a b c d p q r s)[k]? with
    | some e => addP (shT a b c d p q r s k) (onK a b c d p q r s k) e.1 e.2
    | none => shT a b c d p q r s k
theorem shT_step {a b c d p q r s x y : Int} {k : Nat} (h : (endsL a b c d p q r s)[k]? = some (x, y)) : shT a b c d p q r s (k + 1) = addP (shT a b c d p q r s k) (onK a b c d p q r s k) x y := by
  simp only [shT, h]
theorem shT_four (a b c d p q r s : Int) : shT a b c d p q r s 4 = shL a b c d p q r s := rfl
theorem shT_len (a b c d p q r s : Int) (k : Nat) : (shT a b c d p q r s k).length ≤ k := by
  induction k with
  | zero => simp [shT]
  | succ k ih =>
    simp only [shT]
    split
    · unfold addP; split
      · simp; omega
      · omega
    · omega
theorem onK_lo {a b c d p q r s x y : Int} {k : Nat} (h : (endsL a b c d p q r s)[k]? = some (x, y)) (hk : k < 2) : onV p q r s x y = onK a b c d p q r s k := by
  match k, hk with
  | 0, _ => simp [endsL] at h; obtain ⟨rfl, rfl⟩ := h; rfl
  | 1, _ => simp [endsL] at h; obtain ⟨rfl, rfl⟩ := h; rfl
theorem onK_hi {a b c d p q r s x y : Int} {k : Nat} (h : (endsL a b c d p q r s)[k]? = some (x, y)) (hk : 2 ≤ k) (hk4 : k < 4) : onV a b c d x y = onK a b c d p q r s k := by
  rcases (by omega : k = 2 ∨ k = 3) with rfl | rfl
  · simp [endsL] at h; obtain ⟨rfl, rfl⟩ := h; rfl
  · simp [endsL] at h; obtain ⟨rfl, rfl⟩ := h; rfl
/-- The loop's memory: the two segments, the ends, and the call's own row. -/
def ShRel (w wr : World) (a b c d p q r s : Int) (B : Option Addr) (cap : Nat) (L : List (Int × Int)) : Prop :=
  Vars w wr [SegC a b c d, SegC p q r s] ∧ SeesP wr (w.heap.size + 4) (some ⟨w.heap.size + 1 + 1 + 1, 0, none⟩) (endsL a b c d p q r s) ∧
  OwnP wr (w.heap.size + 2) 33 (.slice B L.length cap) L ∧ (∀ g, (Value.slice B L.length cap).ownBlock = some g → g ≠ w.heap.size + 3) ∧ w.heap.size + 4 ≤ wr.heap.size
section
variable {w wr wx : World} {a b c d p q r s x y : Int} {B : Option Addr} {cap k : Nat} {L : List (Int × Int)}
theorem ShRel.next (h : ShRel w wr a b c d p q r s B cap L) (hb : Below wr.heap.size wr wx) : ShRel w wx a b c d p q r s B cap L :=
  ⟨h.1.next hb, h.2.1.below (hb.mono h.2.2.2.2), h.2.2.1.belowAll hb, h.2.2.2.1, Nat.le_trans h.2.2.2.2 hb.size⟩
theorem ShRel.drew (h : ShRel w wr a b c d p q r s B cap L) : ShRel w wr.drew a b c d p q r s B cap L := h.next (Below.refl _ _).drew
theorem ShRel.drewN (h : ShRel w wr a b c d p q r s B cap L) (n : Nat) : ShRel w (wr.drewN n) a b c d p q r s B cap L := h.next ⟨rfl, rfl, rfl, Nat.le_refl _, fun _ _ => rfl⟩
theorem ShRel.at_ (h : ShRel w wr a b c d p q r s B cap L) (hk : (endsL a b c d p q r s)[k]? = some (x, y)) : wr.cell? ⟨w.heap.size + 1 + 1 + 1, k * 2, none⟩ = some (.int .i64 x) ∧ wr.cell? ⟨w.heap.size + 1 + 1 + 1, k * 2 + 1, none⟩ = some (.int .i64 y) := by
  obtain ⟨b', off, hA, _, c1, c2⟩ := h.2.1 k x y hk
  simp only [Option.some.injEq, Addr.mk.injEq, and_true] at hA
  obtain ⟨rfl, rfl⟩ := hA
  rw [Nat.zero_add] at c1 c2
  exact ⟨c1, c2⟩
theorem ShRel.cells (h : ShRel w wr a b c d p q r s B cap L) (hk : (endsL a b c d p q r s)[k]? = some (x, y)) : (fun w' => w'.cell? ⟨w.heap.size, 0, none⟩ = some (.int .i64 a) ∧ w'.cell? ⟨w.heap.size, 1, none⟩ = some (.int .i64 b) ∧ w'.cell? ⟨w.heap.size, 2, none⟩ = some (.int .i64 c) ∧ w'.cell? ⟨w.heap.size, 3, none⟩ = some (.int .i64 d) ∧ w'.cell? ⟨w.heap.size + 1, 0, none⟩ = some (.int .i64 p) ∧ w'.cell? ⟨w.heap.size + 1, 1, none⟩ = some (.int .i64 q) ∧ w'.cell? ⟨w.heap.size + 1, 2, none⟩ = some (.int .i64 r) ∧ w'.cell? ⟨w.heap.size + 1, 3, none⟩ = some (.int .i64 s) ∧ w'.cell? ⟨w.heap.size + 1 + 1 + 1, k * 2, none⟩ = some (.int .i64 x) ∧ w'.cell? ⟨w.heap.size + 1 + 1 + 1, k * 2 + 1, none⟩ = some (.int .i64 y)) wr := by
  obtain ⟨h0, h1, h2, h3, h4, h5, h6, h7⟩ := h.1.c44
  obtain ⟨c1, c2⟩ := h.at_ hk
  exact ⟨h0, h1, h2, h3, h4, h5, h6, h7, c1, c2⟩
/-- Behind an append. -/
theorem ShRel.app {B' : Option Addr} {cap' : Nat} {L' : List (Int × Int)} (h : ShRel w wr a b c d p q r s B cap L) (hg : wr.grownBy wx (Value.slice B L.length cap).ownBlock) (ho : OwnP wx (w.heap.size + 2) 33 (.slice B' L'.length cap') L')
    (hb : (Value.slice B' L'.length cap').ownBlock = (Value.slice B L.length cap).ownBlock ∨ (Value.slice B' L'.length cap').ownBlock = some wr.heap.size) : ShRel w wx a b c d p q r s B' cap' L' := by
  have hlt := h.2.2.1.lt
  have h5 := h.2.2.2.2
  have hbel : Below (w.heap.size + 2) wr wx := (Below.refl _ _).grown hg (by omega) fun g hg' => (hlt g hg').1
  refine ⟨⟨h.1.1.trans (hbel.mono (by omega)), Nat.le_trans h.1.2.1 hg.size, fun j cs hj => ?_⟩, fun j x y hj => ?_, ho, fun g hg' => ?_, Nat.le_trans h5 hg.size⟩
  · have hl : j < 2 := (List.getElem?_eq_some_iff.1 hj).1
    obtain ⟨T, h3⟩ := h.1.2.2 j cs hj
    exact ⟨T, (hbel.block _ (by omega)).trans h3⟩
  · obtain ⟨b', off, hA, hlt', c1, c2⟩ := h.2.1 j x y hj
    simp only [Option.some.injEq, Addr.mk.injEq, and_true] at hA
    obtain ⟨rfl, rfl⟩ := hA
    have hne : (Value.slice B L.length cap).ownBlock ≠ some (w.heap.size + 3) := fun e => h.2.2.2.1 _ e rfl
    refine ⟨_, _, rfl, hlt', ?_, ?_⟩
    · exact (World.cell?_of_block (w := wr) (hg.block (w.heap.size + 3) (by omega) (fun e => hne e.symm))).trans c1
    · exact (World.cell?_of_block (w := wr) (hg.block (w.heap.size + 3) (by omega) (fun e => hne e.symm))).trans c2
  · rcases hb with e | e
    · exact h.2.2.2.1 g (e ▸ hg')
    · rw [e] at hg'; injection hg' with hg'; omega
end
/-- One entry more is compared. -/
theorem look_step {o v : Bool} {L : List (Int × Int)} {j : Nat} {x y x' y' : Int} (hv : v = (o && decide ((x, y) ∉ L.take j))) (hj : L[j]? = some (x', y')) :
    (v && !decide (x' = x ∧ y' = y)) = (o && decide ((x, y) ∉ L.take (j + 1))) := by
  rw [hv, List.take_add_one, hj, Bool.and_assoc]
  congr 1
  have e : ((x, y) ∉ List.take j L ++ (some (x', y')).toList) ↔ ((x, y) ∉ List.take j L ∧ ¬ (x' = x ∧ y' = y)) := by
    simp only [Option.toList, List.mem_append, List.mem_singleton, Prod.mk.injEq, not_or]
    exact and_congr_right fun _ => not_congr ⟨fun h => ⟨h.1.symm, h.2.symm⟩, fun h => ⟨h.1.symm, h.2.symm⟩⟩
  rw [Bool.eq_iff_iff]
  simp only [Bool.and_eq_true, Bool.not_eq_true', decide_eq_true_eq, decide_eq_false_iff_not]
  exact e.symm
theorem addP_by {o v : Bool} {L : List (Int × Int)} {x y : Int} (hv : v = (o && decide ((x, y) ∉ L.take L.length))) : addP L o x y = if v = true then L ++ [(x, y)] else L := by
  unfold addP
  rw [hv, List.take_length]
  simp only [Bool.and_eq_true, decide_eq_true_eq]
set_option maxRecDepth 100000 in
set_option maxHeartbeats 4000000 in
theorem l5Shared_any (a b c d p q r s : Int) (w : World) :
    Calls Tryz.prog 139 #[SegV a b c d, SegV p q r s] w fun e w' => e = .returned (.int .i64 ((shL a b c d p q r s).length : Nat)) ∧ Below w.heap.size w w' := by
  go_enter Tryz.func139, Tryz.ntmps139
  go_wp2
  go_loopg [5, 7, 8, 9] 4 (fun g s5 s7 s8 s9 wr => ∃ (k : Nat) (B : Option Addr) (cap : Nat) (L : List (Int × Int)), k + g = 4 ∧ s5 = .slice B L.length cap ∧ s7 = .int .i64 k ∧ (∃ z : Value, s8 = z) ∧ (∃ z : Value, s9 = z) ∧ Hid (L = shT a b c d p q r s k) ∧ Hid (ShRel w wr a b c d p q r s B cap L))
  case atStart =>
    refine ⟨0, _, _, [], by omega, rfl, rfl, ⟨_, rfl⟩, ⟨_, rfl⟩, Lib.hid rfl, Lib.hid ?_⟩
    refine ⟨((Vars.of2 w (SegC a b c d) (SegC p q r s) 78 78).al _).al _, seesP_new _ _ (endsL a b c d p q r s) _ _ _ rfl (by simp) (by simp), ?_, ?_, ?_⟩
    · exact OwnP.alloc (OwnP.litAt ((w.alloc (.cells (SegC a b c d) 78)).alloc (.cells (SegC p q r s) 78)) (w.heap.size + 2) 33 (w.heap.size + 1 + 1) (by simp) (by simp)) _
    · intro g hg; simp [Value.ownBlock] at hg; omega
    · simp
  case round =>
    obtain ⟨k, B, cap, L, hkg, rfl, rfl, ⟨z8, rfl⟩, ⟨z9, rfl⟩, HL, HR⟩ := hrel
    cases gk with
    | zero =>
      have hkz : ¬ ((k : Int) < 4) := by omega
      have HE : Hid (L.length = (shL a b c d p q r s).length) := Lib.hid (by rw [HL.out, ← shT_four]; congr 2)
      go_wp2
      go_ret
      exact ⟨ret_int (by rw [HE.out]), HR.out.1.1⟩
    | succ g =>
      have hkz : (k : Int) < 4 := by omega
      have hk4 : k < 4 := by omega
      have hlen : L.length ≤ 4 := by have := shT_len a b c d p q r s k; rw [← HL.out] at this; omega
      obtain ⟨x, y, hxy⟩ : ∃ x y, (endsL a b c d p q r s)[k]? = some (x, y) := ⟨_, _, List.getElem?_eq_getElem (show k < (endsL a b c d p q r s).length from hk4)⟩
      obtain ⟨o, ho⟩ : ∃ o, onK a b c d p q r s k = o := ⟨_, rfl⟩
      have HS : Hid (shT a b c d p q r s (k + 1) = addP L o x y) := Lib.hid (by rw [shT_step hxy, HL.out, ho])
      clear HL
      go_upto_region 6 with fail
      go_cut [8] from 20 to 71 (fun s8 wx => s8 = .bool o ∧ Hid (ShRel w wx a b c d p q r s B cap L))
      case first =>
        by_cases hk2 : (k : Int) < 2
        · have HO := Lib.hid ((onK_lo hxy (by omega)).trans ho)
          have hk3 : ¬ (2 ≤ (k : Int)) := by omega
          have hk4b : decide (2 ≤ (k : Int)) = false := decide_eq_false hk3
          have HR := Lib.hid HR.out.drew
          refine wp_region_held_drew (S := (fun w' => w'.cell? ⟨w.heap.size, 0, none⟩ = some (.int .i64 a) ∧ w'.cell? ⟨w.heap.size, 1, none⟩ = some (.int .i64 b) ∧ w'.cell? ⟨w.heap.size, 2, none⟩ = some (.int .i64 c) ∧ w'.cell? ⟨w.heap.size, 3, none⟩ = some (.int .i64 d) ∧ w'.cell? ⟨w.heap.size + 1, 0, none⟩ = some (.int .i64 p) ∧ w'.cell? ⟨w.heap.size + 1, 1, none⟩ = some (.int .i64 q) ∧ w'.cell? ⟨w.heap.size + 1, 2, none⟩ = some (.int .i64 r) ∧ w'.cell? ⟨w.heap.size + 1, 3, none⟩ = some (.int .i64 s) ∧ w'.cell? ⟨w.heap.size + 1 + 1 + 1, k * 2, none⟩ = some (.int .i64 x) ∧ w'.cell? ⟨w.heap.size + 1 + 1 + 1, k * 2 + 1, none⟩ = some (.int .i64 y))) (by kernel_rfl) (HR.out.cells hxy) (fun hHeld => ?_)
          cases o
          · skip
            refine to_lin (T := [(0, 25, 128), (1, 26, 16777216), (2, 27, 33554432), (4, 28, 67108872), (4, 29, 67108928), (4, 30, 67108992), (52, 31, 872415232), (68, 32, 1140850688), (140, 33, 2348810240), (260, 34, 4362076160), (768, 35, 8589934592), (1024, 36, 17179869312), (3072, 37, 51539607552), (5120, 38, 85899345920), (8192, 39, 137438953476), (8192, 40, 137438953536), (8192, 41, 137438953600), (106496, 42, 1786706395136), (139264, 43, 2336462209024), (286720, 44, 4810363371520), (533504, 45, 8950711844864), (1049600, 46, 17609365913600), (4194303, 9, 35184372088832)]) (n := 23) [(0, true), (1, true), (2, true), (3, true), (4, true), (5, true), (6, true), (7, true), (8, false), (9, true), (10, true), (11, true), (12, true), (13, true), (14, true), (15, true), (16, true), (17, true), (18, true), (19, false), (20, true), (21, true), (22, true)] ⟨by kernel_rfl, by kernel_rfl, by kernel_rfl⟩ (by kernel_rfl) (fun hTag => ?_)
            iterate 8 (refine lin_on (v := ?_) rfl (fun _ _ _ h => h) (by rfl) ?_ (by assumption) ?_; rotate_left; (· (intro wq hSw; go_simp; try with_reducible rfl)); try simp only [Act.put, List.setIfInBounds_toArray, List.set_cons_zero, List.set_cons_succ])
            refine lin_call rfl (by rfl) (fun K hK => ?_)
            go_simp
            go_at_call 157
            refine (sIsOn_is _ _ _ _ _ _ _ _ HO.out).mono ?_
            rintro e w9 ⟨rfl, hb9⟩
            have HR := Lib.hid (HR.out.next hb9)
            clear hb9
            go_wp2_with fail
            refine hK.out _ _ ?_ (fun hHeld => ?_)
            · exact HR.out.cells hxy
            clear hK K
            try simp only [Act.put, List.setIfInBounds_toArray, List.set_cons_zero, List.set_cons_succ]
            iterate 5 (refine lin_on (v := ?_) rfl (fun _ _ _ h => h) (by rfl) ?_ (by assumption) ?_; rotate_left; (· (intro wq hSw; go_simp; try with_reducible rfl)); try simp only [Act.put, List.setIfInBounds_toArray, List.set_cons_zero, List.set_cons_succ])
            iterate 5 (refine lin_off rfl (fun _ _ _ h => h) (by rfl) (by assumption) ?_; try simp only [Act.put, List.setIfInBounds_toArray, List.set_cons_zero, List.set_cons_succ])
            (refine lin_skip rfl (by rfl) (by assumption) ?_; try simp only [Act.put, List.setIfInBounds_toArray, List.set_cons_zero, List.set_cons_succ])
            iterate 3 (refine lin_on (v := ?_) rfl (fun _ _ _ h => h) (by rfl) ?_ (by assumption) ?_; rotate_left; (· (intro wq hSw; go_simp; try with_reducible rfl)); try simp only [Act.put, List.setIfInBounds_toArray, List.set_cons_zero, List.set_cons_succ])
            refine lin_done ?_
            go_wp2_with fail
            go_meet
            exact ⟨rfl, HR⟩
          · skip
            refine to_lin (T := [(0, 25, 128), (1, 26, 16777216), (2, 27, 33554432), (4, 28, 67108872), (4, 29, 67108928), (4, 30, 67108992), (52, 31, 872415232), (68, 32, 1140850688), (140, 33, 2348810240), (260, 34, 4362076160), (768, 35, 8589934592), (1024, 36, 17179869312), (3072, 37, 51539607552), (5120, 38, 85899345920), (8192, 39, 137438953476), (8192, 40, 137438953536), (8192, 41, 137438953600), (106496, 42, 1786706395136), (139264, 43, 2336462209024), (286720, 44, 4810363371520), (533504, 45, 8950711844864), (1049600, 46, 17609365913600), (4194303, 9, 35184372088832)]) (n := 23) [(0, true), (1, true), (2, true), (3, true), (4, true), (5, true), (6, true), (7, true), (8, false), (9, true), (10, true), (11, true), (12, true), (13, true), (14, true), (15, true), (16, true), (17, true), (18, true), (19, false), (20, true), (21, true), (22, true)] ⟨by kernel_rfl, by kernel_rfl, by kernel_rfl⟩ (by kernel_rfl) (fun hTag => ?_)
            iterate 8 (refine lin_on (v := ?_) rfl (fun _ _ _ h => h) (by rfl) ?_ (by assumption) ?_; rotate_left; (· (intro wq hSw; go_simp; try with_reducible rfl)); try simp only [Act.put, List.setIfInBounds_toArray, List.set_cons_zero, List.set_cons_succ])
            refine lin_call rfl (by rfl) (fun K hK => ?_)
            go_simp
            go_at_call 157
            refine (sIsOn_is _ _ _ _ _ _ _ _ HO.out).mono ?_
            rintro e w9 ⟨rfl, hb9⟩
            have HR := Lib.hid (HR.out.next hb9)
            clear hb9
            go_wp2_with fail
            refine hK.out _ _ ?_ (fun hHeld => ?_)
            · exact HR.out.cells hxy
            clear hK K
            try simp only [Act.put, List.setIfInBounds_toArray, List.set_cons_zero, List.set_cons_succ]
            iterate 2 (refine lin_on (v := ?_) rfl (fun _ _ _ h => h) (by rfl) ?_ (by assumption) ?_; rotate_left; (· (intro wq hSw; go_simp; try with_reducible rfl)); try simp only [Act.put, List.setIfInBounds_toArray, List.set_cons_zero, List.set_cons_succ])
            iterate 8 (refine lin_off rfl (fun _ _ _ h => h) (by rfl) (by assumption) ?_; try simp only [Act.put, List.setIfInBounds_toArray, List.set_cons_zero, List.set_cons_succ])
            (refine lin_skip rfl (by rfl) (by assumption) ?_; try simp only [Act.put, List.setIfInBounds_toArray, List.set_cons_zero, List.set_cons_succ])
            (refine lin_off rfl (fun _ _ _ h => h) (by rfl) (by assumption) ?_; try simp only [Act.put, List.setIfInBounds_toArray, List.set_cons_zero, List.set_cons_succ])
            iterate 2 (refine lin_on (v := ?_) rfl (fun _ _ _ h => h) (by rfl) ?_ (by assumption) ?_; rotate_left; (· (intro wq hSw; go_simp; try with_reducible rfl)); try simp only [Act.put, List.setIfInBounds_toArray, List.set_cons_zero, List.set_cons_succ])
            refine lin_done ?_
            go_wp2_with fail
            go_meet
            exact ⟨rfl, HR⟩
        · have HO := Lib.hid ((onK_hi hxy (by omega) hk4).trans ho)
          have hk3 : 2 ≤ (k : Int) := by omega
          have HR := Lib.hid HR.out.drew
          refine wp_region_held_drew (S := (fun w' => w'.cell? ⟨w.heap.size, 0, none⟩ = some (.int .i64 a) ∧ w'.cell? ⟨w.heap.size, 1, none⟩ = some (.int .i64 b) ∧ w'.cell? ⟨w.heap.size, 2, none⟩ = some (.int .i64 c) ∧ w'.cell? ⟨w.heap.size, 3, none⟩ = some (.int .i64 d) ∧ w'.cell? ⟨w.heap.size + 1, 0, none⟩ = some (.int .i64 p) ∧ w'.cell? ⟨w.heap.size + 1, 1, none⟩ = some (.int .i64 q) ∧ w'.cell? ⟨w.heap.size + 1, 2, none⟩ = some (.int .i64 r) ∧ w'.cell? ⟨w.heap.size + 1, 3, none⟩ = some (.int .i64 s) ∧ w'.cell? ⟨w.heap.size + 1 + 1 + 1, k * 2, none⟩ = some (.int .i64 x) ∧ w'.cell? ⟨w.heap.size + 1 + 1 + 1, k * 2 + 1, none⟩ = some (.int .i64 y))) (by kernel_rfl) (HR.out.cells hxy) (fun hHeld => ?_)
          refine to_lin (T := [(0, 25, 128), (1, 26, 16777216), (2, 27, 33554432), (4, 28, 67108872), (4, 29, 67108928), (4, 30, 67108992), (52, 31, 872415232), (68, 32, 1140850688), (140, 33, 2348810240), (260, 34, 4362076160), (768, 35, 8589934592), (1024, 36, 17179869312), (3072, 37, 51539607552), (5120, 38, 85899345920), (8192, 39, 137438953476), (8192, 40, 137438953536), (8192, 41, 137438953600), (106496, 42, 1786706395136), (139264, 43, 2336462209024), (286720, 44, 4810363371520), (533504, 45, 8950711844864), (1049600, 46, 17609365913600), (4194303, 9, 35184372088832)]) (n := 23) [(0, true), (1, true), (2, true), (3, true), (4, true), (5, true), (6, true), (7, true), (8, false), (9, true), (10, true), (11, true), (12, true), (13, true), (14, true), (15, true), (16, true), (17, true), (18, true), (19, false), (20, true), (21, true), (22, true)] ⟨by kernel_rfl, by kernel_rfl, by kernel_rfl⟩ (by kernel_rfl) (fun hTag => ?_)
          iterate 3 (refine lin_on (v := ?_) rfl (fun _ _ _ h => h) (by rfl) ?_ (by assumption) ?_; rotate_left; (· (intro wq hSw; go_simp; try with_reducible rfl)); try simp only [Act.put, List.setIfInBounds_toArray, List.set_cons_zero, List.set_cons_succ])
          iterate 5 (refine lin_off rfl (fun _ _ _ h => h) (by rfl) (by assumption) ?_; try simp only [Act.put, List.setIfInBounds_toArray, List.set_cons_zero, List.set_cons_succ])
          (refine lin_skip rfl (by rfl) (by assumption) ?_; try simp only [Act.put, List.setIfInBounds_toArray, List.set_cons_zero, List.set_cons_succ])
          iterate 10 (refine lin_on (v := ?_) rfl (fun _ _ _ h => h) (by rfl) ?_ (by assumption) ?_; rotate_left; (· (intro wq hSw; go_simp; try with_reducible rfl)); try simp only [Act.put, List.setIfInBounds_toArray, List.set_cons_zero, List.set_cons_succ])
          refine lin_call rfl (by rfl) (fun K hK => ?_)
          go_simp
          go_at_call 157
          refine (sIsOn_is _ _ _ _ _ _ _ _ HO.out).mono ?_
          rintro e w9 ⟨rfl, hb9⟩
          have HR := Lib.hid (HR.out.next hb9)
          clear hb9
          go_wp2_with fail
          refine hK.out _ _ ?_ (fun hHeld => ?_)
          · exact HR.out.cells hxy
          clear hK K
          try simp only [Act.put, List.setIfInBounds_toArray, List.set_cons_zero, List.set_cons_succ]
          iterate 3 (refine lin_on (v := ?_) rfl (fun _ _ _ h => h) (by rfl) ?_ (by assumption) ?_; rotate_left; (· (intro wq hSw; go_simp; try with_reducible rfl)); try simp only [Act.put, List.setIfInBounds_toArray, List.set_cons_zero, List.set_cons_succ])
          refine lin_done ?_
          go_wp2_with fail
          go_meet
          exact ⟨rfl, HR⟩
      case rest =>
      obtain ⟨rfl, HR1⟩ := hcut
      clear HR ho
      go_wp2
      go_loopg [8, 9] L.length (fun g2 s8 s9 wy => ∃ (j : Nat) (v : Bool), j + g2 = L.length ∧ s9 = .int .i64 j ∧ s8 = .bool v ∧ Hid (v = (o && decide ((x, y) ∉ L.take j))) ∧ Hid (ShRel w wy a b c d p q r s B cap L))
      case atStart => exact ⟨0, o, by omega, rfl, rfl, Lib.hid (by simp), HR1⟩
      case round =>
        obtain ⟨j, v, hjg, rfl, rfl, HV, HR⟩ := hrel
        clear HR1
        cases gk with
        | zero =>
          have hjz : ¬ ((j : Int) < (L.length : Int)) := by omega
          have hv2 : v = (o && decide ((x, y) ∉ L.take L.length)) := by have := HV.out; rwa [show j = L.length by omega] at this
          have HA : Hid (shT a b c d p q r s (k + 1) = if v = true then L ++ [(x, y)] else L) := Lib.hid (HS.out.trans (addP_by hv2))
          clear hv2
          clear HS HV
          cases v
          · go_wp2
            go_roundg g
            case measure => omega
            case rel => exact ⟨k + 1, B, cap, L, by omega, rfl, by go_num, ⟨_, rfl⟩, ⟨_, rfl⟩, Lib.hid (by rw [HA.out]; rfl), HR⟩
          · obtain ⟨k0, k1⟩ := HR.out.at_ hxy
            go_wp2_with (at_builtin; go_loud (refine appP _ rfl _ _ rfl (w.heap.size + 2) _ L rfl (HR.out.2.2.1.alloc _) (wr.heap.size + 1) wr.heap.size 0 1 1 [(x, y)] rfl rfl (seesP_new _ _ [(x, y)] _ _ _ rfl rfl (by omega)) (by simp; omega) (by simp; have := HR.out.2.2.2.2; omega) ?_); intro B9 c9 L9 w9 hL9 ho9 hg9 hb9)
            go_roundg g
            case measure => omega
            case rel => exact ⟨k + 1, B9, c9, L9, by omega, rfl, by go_num, ⟨_, rfl⟩, ⟨_, rfl⟩, Lib.hid (by rw [HA.out, hL9.out]; rfl), Lib.hid ((HR.out.next ((Below.refl _ _).alloc (Nat.le_refl _) _)).app hg9 ho9 hb9)⟩
        | succ g2 =>
          have hjz : (j : Int) < (L.length : Int) := by omega
          obtain ⟨b', off, x', y', hB, hbB, hx, hcx, hcy⟩ := HR.out.2.2.1.sees.at_ (show j < L.length by omega)
          subst hB
          have HV' := Lib.hid (look_step HV.out hx)
          clear hx HV
          obtain ⟨k0, k1⟩ := HR.out.at_ hxy
          cases v
          · go_wp2_with fail
            go_quiet (fail)
            go_wp2
            go_roundg g2
            case measure => omega
            case rel => exact ⟨j + 1, _, by omega, by go_num, rfl, Lib.hid (by rw [← HV'.out]; rfl), Lib.hid (HR.out.drewN _)⟩
          · by_cases h1 : x' = x
            · by_cases h2 : y' = y
              · have HF : Hid (false = (o && decide ((x, y) ∉ L.take (j + 1)))) := Lib.hid (by rw [← HV'.out]; simp [h1, h2])
                clear HV'
                subst h1 h2
                go_wp2_with fail
                go_quiet (fail)
                go_wp2
                go_roundg g2
                case measure => omega
                case rel => exact ⟨j + 1, _, by omega, by go_num, rfl, HF, Lib.hid (HR.out.drewN _)⟩
              · have HF : Hid (true = (o && decide ((x, y) ∉ L.take (j + 1)))) := Lib.hid (by rw [← HV'.out]; simp [h2])
                clear HV'
                subst h1
                go_wp2_with fail
                go_quiet (fail)
                go_wp2
                go_roundg g2
                case measure => omega
                case rel => exact ⟨j + 1, _, by omega, by go_num, rfl, HF, Lib.hid (HR.out.drewN _)⟩
            · have HF : Hid (true = (o && decide ((x, y) ∉ L.take (j + 1)))) := Lib.hid (by rw [← HV'.out]; simp [h1])
              clear HV'
              go_wp2_with fail
              go_quiet (fail)
              go_wp2
              go_roundg g2
              case measure => omega
              case rel => exact ⟨j + 1, _, by omega, by go_num, rfl, HF, Lib.hid (HR.out.drewN _)⟩
end Go.Proofs.YtbnjaaegbmhopaaGreatDoor

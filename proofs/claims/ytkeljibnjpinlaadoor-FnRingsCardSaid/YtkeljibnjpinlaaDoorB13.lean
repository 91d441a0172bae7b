/- Texts of this seat, one behind the other. -/
import Derived.Test.YtkeljibnjpinlaaDoorB12
import Derived.Test.YtkeljibnjpinlaaDoorRows
import Derived.Stop.LaidErr
import Derived.LaidMore
import Derived.Test.YtkeljibnjpinlaaDoorB6
/- Inside a ring, by its edges in the order of their lower ends; IsInside of package impl. -/
namespace Go.Proofs.YtkeljibnjpinlaaDoor
open Go.RowKit
set_option linter.unusedVariables false

theorem crR_rs {p : Int × Int} {s : Int × Int × Int × Int} (hs : sOk s = true) (hp : isP p.1 p.2 = true) : crR p (rsS s) = crC p s := by
  obtain ⟨a, b, c, d⟩ := s
  obtain ⟨x, y⟩ := p
  have hs' : isS a b c d = true := hs
  obtain ⟨h1, h2, -⟩ := isS_at hs'
  have h3 := isP_bd hp
  have hc := crs_turn a b c d x y
  rw [Bool.eq_iff_iff]
  by_cases hd : d < b
  · have hr : rsS (a, b, c, d) = (c, d, a, b) := if_pos hd
    rw [hr]
    have hg := side_sg (isP3_of h2 h1 h3)
    rw [hc] at hg
    show (inB y d (b - 1) && decide (0 < sideV c d a b x y)) = true ↔ ((decide (b > y) != decide (d > y)) && ((decide (d > b) && decide (crs a b c d x y > 0)) || (decide (d < b) && decide (crs a b c d x y < 0)))) = true
    have e1 : decide (d > b) = false := decide_eq_false (by omega)
    have e2 : decide (d < b) = true := decide_eq_true hd
    have e3 : (decide (b > y) != decide (d > y)) = inB y d (b - 1) := by
      rw [Bool.eq_iff_iff]; simp only [inB, bne_iff_ne, ne_eq, decide_eq_decide, decide_eq_true_eq]; omega
    have e4 : decide (0 < sideV c d a b x y) = decide (crs a b c d x y < 0) := by
      rw [hg, decide_eq_decide]
      rcases sg_cases (-crs a b c d x y) with k | k | k <;> rw [k.1] <;> omega
    rw [e1, e2, e3, e4, Bool.false_and, Bool.false_or, Bool.true_and]
  · have hr : rsS (a, b, c, d) = (a, b, c, d) := if_neg hd
    rw [hr]
    have hg := side_sg (isP3_of h1 h2 h3)
    show (inB y b (d - 1) && decide (0 < sideV a b c d x y)) = true ↔ ((decide (b > y) != decide (d > y)) && ((decide (d > b) && decide (crs a b c d x y > 0)) || (decide (d < b) && decide (crs a b c d x y < 0)))) = true
    have e2 : decide (d < b) = false := decide_eq_false hd
    have e3 : (decide (b > y) != decide (d > y)) = inB y b (d - 1) := by
      rw [Bool.eq_iff_iff]; simp only [inB, bne_iff_ne, ne_eq, decide_eq_decide, decide_eq_true_eq]; omega
    have e4 : decide (0 < sideV a b c d x y) = decide (crs a b c d x y > 0) := by
      rw [hg, decide_eq_decide]
      rcases sg_cases (crs a b c d x y) with k | k | k <;> rw [k.1] <;> omega
    rw [e2, e3, e4, Bool.false_and, Bool.or_false]
    by_cases hbd : b = d
    · have e5 : inB y b (d - 1) = false := by unfold inB; exact decide_eq_false (by omega)
      rw [e5]; simp
    · have e6 : decide (d > b) = true := decide_eq_true (by omega)
      rw [e6, Bool.true_and]
theorem onS_rs (p : Int × Int) (s : Int × Int × Int × Int) : onS p (rsS s) = onS p s := by
  unfold rsS; split
  · exact onS_tr p s
  · rfl
theorem sOk_rs (s : Int × Int × Int × Int) : sOk (rsS s) = sOk s := by
  unfold rsS; split
  · exact sOk_tr s
  · rfl
theorem rs_up (s : Int × Int × Int × Int) : (rsS s).2.1 ≤ (rsS s).2.2.2 := by
  unfold rsS; split
  · show s.2.2.2 ≤ s.2.1; omega
  · omega
theorem crR_out {p : Int × Int} {s : Int × Int × Int × Int} (hp : isP p.1 p.2 = false) : crR p s = false := by
  have : sideV s.1 s.2.1 s.2.2.1 s.2.2.2 p.1 p.2 = 0 := by
    unfold sideV
    rw [if_neg]
    simp [isP3, hp]
  unfold crR
  rw [this]; simp
theorem onS_out {p : Int × Int} {s : Int × Int × Int × Int} (hp : isP p.1 p.2 = false) : onS p s = false := by
  cases h : onS p s
  · rfl
  · obtain ⟨h1, h2⟩ := onV_iff.1 h
    have := on_bd h1 h2
    rw [isP_of this.1 this.2.1 this.2.2.1 this.2.2.2] at hp
    cases hp
/-- By the edges. -/
def insV (p : Int × Int) (L : List (Int × Int × Int × Int)) : Bool := L.any (onS p) || decide (L.countP (crR p) % 2 = 1)
theorem insV_perm {p : Int × Int} {L L' : List (Int × Int × Int × Int)} (h : L'.Perm L) : insV p L' = insV p L := by
  unfold insV
  rw [h.countP_eq, h.any_eq]
theorem insV_rs {l : List (Int × Int)} (hl : isRg l = true) (p : Int × Int) : insV p ((rgS l).map rsS) = inV l p := by
  have hok := ((isRg_iff l).1 hl).2.1
  unfold inV insV
  rw [hl, Bool.true_and, List.any_map, List.countP_map]
  cases hp : isP p.1 p.2
  · rw [Bool.false_and]
    have e1 : (rgS l).any (onS p ∘ rsS) = false := by
      rw [List.any_eq_false]; intro s _; show ¬ onS p (rsS s) = true; rw [onS_out hp]; decide
    have e2 : (rgS l).countP (crR p ∘ rsS) = 0 := by
      rw [List.countP_eq_zero]; intro s _; show ¬ crR p (rsS s) = true; rw [crR_out hp]; decide
    rw [e1, e2]; rfl
  · rw [Bool.true_and]
    have e1 : onS p ∘ rsS = onS p := funext fun s => onS_rs p s
    have e2 : (rgS l).countP (crR p ∘ rsS) = (rgS l).countP (crC p) := List.countP_congr fun s hs => by
      show crR p (rsS s) = true ↔ _
      rw [crR_rs (hok s hs) hp]
    rw [e1, e2]
/-- So far. -/
def parV (p : Int × Int) (L : List (Int × Int × Int × Int)) (j : Nat) : Bool := decide ((L.take j).countP (crR p) % 2 = 1)
theorem parV_step {p : Int × Int} {L : List (Int × Int × Int × Int)} {j : Nat} {x : Int × Int × Int × Int} (h : L[j]? = some x) : parV p L (j + 1) = if crR p x = true then !(parV p L j) else parV p L j := by
  unfold parV
  rw [List.take_add_one, h, List.countP_append]
  show decide (((L.take j).countP (crR p) + List.countP (crR p) [x]) % 2 = 1) = _
  rw [List.countP_singleton]
  split
  · rw [← decide_not]; exact decide_eq_decide.2 (by omega)
  · rfl
theorem ins_end {p : Int × Int} {L : List (Int × Int × Int × Int)} (h : ∀ k, k < L.length → ∀ x, L[k]? = some x → onS p x = false) : insV p L = parV p L L.length := by
  have : L.any (onS p) = false := by
    rw [List.any_eq_false]; intro s hs
    obtain ⟨k, hk⟩ := List.getElem?_of_mem hs
    rw [h k (List.getElem?_eq_some_iff.1 hk).1 s hk]; decide
  unfold insV parV
  rw [this, List.take_length, Bool.false_or]
theorem ins_on {p : Int × Int} {L : List (Int × Int × Int × Int)} {j : Nat} {x : Int × Int × Int × Int} (hx : L[j]? = some x) (h : onS p x = true) : insV p L = true := by
  unfold insV
  rw [List.any_eq_true.2 ⟨x, List.mem_of_getElem? hx, h⟩, Bool.true_or]
/-- Behind an edge that begins above p there is none on p or to the right of it. -/
theorem ins_break {p : Int × Int} {L : List (Int × Int × Int × Int)} (hlow : LowFirst L) (hup : ∀ x ∈ L, x.2.1 ≤ x.2.2.2) {j : Nat} {x : Int × Int × Int × Int} (hx : L[j]? = some x) (hgt : p.2 < x.2.1) (h : ∀ k, k < j → ∀ x, L[k]? = some x → onS p x = false) : insV p L = parV p L j := by
  have hj := (List.getElem?_eq_some_iff.1 hx).1
  have hge : ∀ k y, j ≤ k → L[k]? = some y → p.2 < y.2.1 := fun k y hk hy => by
    by_cases e : k = j
    · subst e; rw [hx] at hy; cases hy; exact hgt
    · exact Int.lt_of_lt_of_le hgt (hlow j k x y (by omega) hx hy)
  have hon : ∀ y : Int × Int × Int × Int, y ∈ L → p.2 < y.2.1 → onS p y = false := fun y hyL hy => by
    cases ho : onS p y
    · rfl
    · obtain ⟨-, -, -, h3, -⟩ := onV_iff.1 ho
      have := hup y hyL
      omega
  have hall : ∀ k, k < L.length → ∀ x, L[k]? = some x → onS p x = false := fun k hk y hy => by
    by_cases e : k < j
    · exact h k e y hy
    · exact hon y (List.mem_of_getElem? hy) (hge k y (by omega) hy)
  rw [ins_end hall]
  unfold parV
  rw [List.take_length]
  have e0 : (L.drop j).countP (crR p) = 0 := by
    rw [List.countP_eq_zero]
    intro y hy
    obtain ⟨k, hk⟩ := List.getElem?_of_mem hy
    rw [List.getElem?_drop] at hk
    have := hge (j + k) y (by omega) hk
    unfold crR
    have e : inB p.2 y.2.1 (y.2.2.2 - 1) = false := inB_low this
    rw [e]; simp
  have e1 := List.countP_append (p := crR p) (l₁ := L.take j) (l₂ := L.drop j)
  rw [List.take_append_drop, e0] at e1
  rw [e1]; rfl
end Go.Proofs.YtkeljibnjpinlaaDoor
namespace Go.Proofs.YtkeljibnjpinlaaDoor
open Go.ChangeShapes Go.WideShapes Go.ChangeAt Go.RowKit
set_option linter.unusedVariables false

set_option maxRecDepth 100000 in
set_option maxHeartbeats 1000000 in
theorem isInside_is (a0 : Addr) (A : Option Addr) (c : Nat) (l : List (Int × Int)) (x y : Int) (w : World) (hE : ErrAt a0 w) (hs : SeesE 2 encPoint w w.heap.size A l) (hl : l.length ≤ 274877906944) (hlc : l.length ≤ c) (hc : (c : Int) ≤ 9223372036854775807) (z : Bool) (hz : inV l (x, y) = z) :
    Calls Tryd.prog 16 #[.slice A l.length c, PtV x y] w fun e w' => e = .returned (.bool z) ∧ Below w.heap.size w w' := by
  have HE := Lib.hid (hE.alloc (.cells #[.int .i64 x, .int .i64 y] 33))
  have HB0 := Lib.hid ((Below.refl w.heap.size w).alloc (Nat.le_refl _) (.cells #[.int .i64 x, .int .i64 y] 33))
  have HS := Lib.hid ((hs.alloc (Nat.le_refl _) (.cells #[.int .i64 x, .int .i64 y] 33)).mono HB0.out.size)
  have HP := Lib.hid (Vars.of1 w #[.int .i64 x, .int .i64 y] 33)
  have HV := Lib.hid hz
  clear hE hs hz
  cases hz : isRg l
  · obtain rfl : z = false := by rw [← HV.out]; unfold inV; rw [hz]; rfl
    go_enter Tryd.func16, Tryd.ntmps16
    go_wp2_with fail
    refine (joinRing_no a0 A c l _ HE.out HS.out hl hlc hc hz).mono ?_
    rintro e w1 ⟨rfl, hb1⟩
    have hE1 : ErrAt a0 w1 := HE.out.all hb1
    unfold ErrAt at hE1
    have HB1 := Lib.hid (HB0.out.trans (hb1.mono HB0.out.size))
    clear hb1
    go_wp2_with (go_at_call 35; refine (is_same a0 _).mono ?_; rintro e w2 ⟨rfl, rfl⟩)
    go_ret
    exact ⟨rfl, HB1.out⟩
  · have HOK : Hid ((∀ x ∈ rgS l, sOk x = true) ∧ (3 ≤ (rgS l).length ∧ (rgS l).length ≤ 10)) := Lib.hid ⟨((isRg_iff l).1 hz).2.1, by rw [rgS_len]; exact ((isRg_iff l).1 hz).1⟩
    have HW : Hid (insV (x, y) ((rgS l).map rsS) = z) := Lib.hid (by rw [insV_rs hz]; exact HV.out)
    go_enter Tryd.func16, Tryd.ntmps16
    go_wp2_with fail
    refine (joinRing_yes a0 A c l _ HE.out HS.out hl hlc hc hz).mono ?_
    rintro e w1 ⟨A1, c1, L, hL, rfl, ho1, hb1⟩
    have hE1 : ErrAt a0 w1 := HE.out.all hb1
    unfold ErrAt at hE1
    have HB1 := Lib.hid (HB0.out.trans (hb1.mono HB0.out.size)); have HO1 := Lib.hid ho1; have HL := hL
    have HP1 := Lib.hid (HP.out.next hb1)
    have hLn : 0 < L.length ∧ L.length ≤ 1000 := by rw [hL.out]; have := HOK.out.2; omega
    clear hb1 ho1 hL
    go_wp2_with (first
      | (go_at_call 35; refine (is_nil a0 _).mono ?_; rintro e w2 ⟨rfl, rfl⟩)
      | (go_at_call 40; refine (sortByHeight_any A1 c1 L _ (HO1.out.sees elSegment) hLn.1 hLn.2).mono ?_; rintro e w3 ⟨A3, c3, L3, hp3, hlow, rfl, hs3, hb3⟩))
    have HB3 := Lib.hid (HB1.out.trans (hb3.mono HB1.out.size))
    have HP3 := Lib.hid (HP1.out.next hb3)
    have HS3 := Lib.hid hs3
    have HI : Hid (insV (x, y) L3 = z) := Lib.hid (by rw [insV_perm hp3.out, HL.out]; exact HW.out)
    have HUP : Hid (∀ s ∈ L3, s.2.1 ≤ s.2.2.2 ∧ sOk s = true) := Lib.hid (fun s hs => by
      have := (hp3.out.mem_iff).1 hs
      obtain ⟨t, ht, rfl⟩ := List.mem_map.1 this
      exact ⟨rs_up t, by rw [sOk_rs]; exact HOK.out.1 t (by rw [← HL.out]; exact ht)⟩)
    have HLOW := Lib.hid hlow
    have h3 : L3.length ≤ 1000 := by rw [hp3.out.length_eq, List.length_map]; exact hLn.2
    clear hs3 hb3 hp3 hlow hLn
    go_loopw [7, 21] (fun v i wr => ∃ j : Nat, j ≤ L3.length ∧ v = .bool (parV (x, y) L3 j) ∧ i = .int .i64 j ∧ Hid (∀ k, k < j → ∀ s, L3[k]? = some s → onS (x, y) s = false) ∧ Hid (Below w3.heap.size w3 wr)) (fun _ i _ => L3.length - (intOf i).toNat)
    case atStart => exact ⟨0, Nat.zero_le _, rfl, rfl, Lib.hid (fun k hk => by omega), Lib.hid (Below.refl _ _)⟩
    case round =>
      obtain ⟨j, hj, rfl, rfl, hon, HB⟩ := hrel
      by_cases hlt : j < L3.length
      · have hlt' : (j : Int) < (L3.length : Int) := by omega
        obtain ⟨b, off, s, rfl, hbl, hx, -⟩ := (HS3.out.below HB.out).lt hlt
        obtain ⟨k0, k1, k2, k3⟩ := cells4 (HS3.out.below HB.out) hx
        have HX := Lib.hid hx
        have HUs := HUP.out s (List.mem_of_getElem? hx)
        have HPA := Lib.hid ((HP3.out.next HB.out).al (.cells (sC s) 60))
        have HEA := Lib.hid (Vars.of1 wr (sC s) 60)
        have HBA := Lib.hid (HB.out.alloc HB.out.size (.cells (sC s) 60))
        obtain ⟨q0, q1⟩ := HPA.out.c20
        clear hx
        by_cases hgt : y < s.2.1
        · obtain rfl : parV (x, y) L3 j = z := by rw [← HI.out]; exact (ins_break HLOW.out (fun t ht => (HUP.out t ht).1) HX.out hgt hon.out).symm
          go_wp2
          go_ret
          exact ⟨rfl, HB3.out.trans (HBA.out.mono HB3.out.size)⟩
        · have hSok : isS s.1 s.2.1 s.2.2.1 s.2.2.2 = true := HUs.2
          obtain ⟨N, hN⟩ : ∃ N, parV (x, y) L3 j = N := ⟨_, rfl⟩
          have HN := Lib.hid hN
          rw [hN]
          clear hN
          cases ho : onS (x, y) s
          · have hb' : ∀ k, k < j + 1 → ∀ t, L3[k]? = some t → onS (x, y) t = false := fun k hk t ht => by
              by_cases e : k = j
              · subst e; rw [HX.out] at ht; cases ht; exact ho
              · exact hon.out k (by omega) t ht
            have HON := Lib.hid hb'
            have HO : ∀ W, Calls Tryd.prog 41 #[sV s, PtV x y] W fun e w' => e = .returned (.bool false) ∧ Below W.heap.size W w' := fun W => isOn_is _ _ _ _ _ _ false W ho
            clear hb' ho
            cases hcr : crR (x, y) s
            · have HP1 : Hid (parV (x, y) L3 (j + 1) = N) := Lib.hid (by rw [parV_step HX.out, if_neg (by rw [hcr]; decide)]; exact HN.out)
              have HC : ∀ W, Calls Tryd.prog 42 #[sV s, PtV x y] W fun e w' => e = .returned (.bool false) ∧ Below W.heap.size W w' := fun W => crosses_is _ _ _ _ _ _ W hSok false hcr
              go_wp2_with (first
                | (go_at_call 41; refine (HO _).mono ?_; rintro e w5 ⟨rfl, hb5⟩; have HB5 := Lib.hid (HBA.out.trans (hb5.mono HBA.out.size)); have HP5 := Lib.hid (HPA.out.next hb5); have HE5 := Lib.hid (HEA.out.next hb5); obtain ⟨g0, g1, g2, g3⟩ := HE5.out.c40; obtain ⟨r0, r1⟩ := HP5.out.c20)
                | (go_at_call 42; refine (HC _).mono ?_; rintro e w6 ⟨rfl, hb6⟩; have HB6 := Lib.hid (HB5.out.trans (hb6.mono HB5.out.size))))
              go_roundw
              case rel => exact ⟨j + 1, by omega, by rw [HP1.out], by go_num, HON, HB6⟩
              case measure => simp [intOf]; omega
            · have HP1 : Hid (parV (x, y) L3 (j + 1) = !N) := Lib.hid (by rw [parV_step HX.out, if_pos hcr, HN.out])
              have HC : ∀ W, Calls Tryd.prog 42 #[sV s, PtV x y] W fun e w' => e = .returned (.bool true) ∧ Below W.heap.size W w' := fun W => crosses_is _ _ _ _ _ _ W hSok true hcr
              go_wp2_with (first
                | (go_at_call 41; refine (HO _).mono ?_; rintro e w5 ⟨rfl, hb5⟩; have HB5 := Lib.hid (HBA.out.trans (hb5.mono HBA.out.size)); have HP5 := Lib.hid (HPA.out.next hb5); have HE5 := Lib.hid (HEA.out.next hb5); obtain ⟨g0, g1, g2, g3⟩ := HE5.out.c40; obtain ⟨r0, r1⟩ := HP5.out.c20)
                | (go_at_call 42; refine (HC _).mono ?_; rintro e w6 ⟨rfl, hb6⟩; have HB6 := Lib.hid (HB5.out.trans (hb6.mono HB5.out.size))))
              go_roundw
              case rel => exact ⟨j + 1, by omega, by rw [HP1.out], by go_num, HON, HB6⟩
              case measure => simp [intOf]; omega
          · obtain rfl : z = true := by rw [← HI.out]; exact ins_on HX.out ho
            have HO : ∀ W, Calls Tryd.prog 41 #[sV s, PtV x y] W fun e w' => e = .returned (.bool true) ∧ Below W.heap.size W w' := fun W => isOn_is _ _ _ _ _ _ true W ho
            go_wp2_with (go_at_call 41; refine (HO _).mono ?_; rintro e w5 ⟨rfl, hb5⟩; have HB5 := Lib.hid (HBA.out.trans (hb5.mono HBA.out.size)))
            go_ret
            exact ⟨rfl, HB3.out.trans (HB5.out.mono HB3.out.size)⟩
      · obtain rfl : j = L3.length := by omega
        obtain rfl : parV (x, y) L3 L3.length = z := by rw [← HI.out]; exact (ins_end hon.out).symm
        go_wp2
        go_ret
        exact ⟨rfl, HB3.out.trans (HB.out.mono HB3.out.size)⟩
end Go.Proofs.YtkeljibnjpinlaaDoor

/- What the statements list of errNoRing, as the walks read it. -/
namespace Go.Proofs.YtkeljibnjpinlaaDoor
open Go.ChangeShapes Go.WideShapes Go.ChangeAt Go.RowKit Go.Stop
set_option linter.unusedVariables false
set_option maxRecDepth 100000

theorem errName : Tryd.prog.globalNamed "loop.example/g03005/impl.errNoRing" = some 0 := by kernel_rfl
theorem errType : (Tryd.prog.globals[0]?).map (·.type) = some 55 := by kernel_rfl
theorem errStar : "*" ++ "errors.errorString" = "*errors.errorString" := by decide
theorem errRow (u : TypeId) (h : Tryd.prog.typeName? 3 u = some "*errors.errorString") : u = 153 :=
  typeName_ptr_named (nm := "errors.errorString") (by rw [errStar]; kernel_rfl) (by kernel_rfl) (by decide) u (by rw [errStar]; exact h)
theorem errCells : Tryd.prog.cellsOf 178 = 1 := by kernel_rfl
theorem strCells : Tryd.prog.cellsOf 9 = 1 := by kernel_rfl
theorem errAt_of {w : World} (hL : laidMet Tryd.prog [("loop.example/g03005/impl.errNoRing", Rows.laid_loop_example_g03005_impl_errNoRing)] w) : ∃ a0, ErrAt a0 w := by
  obtain ⟨a, s, hv, -, -, -⟩ := laid_sentinel (tp := 153) (te := 178) (ts := 9) hL errName errType Tryd.underlying55 errRow Tryd.underlying153 Tryd.underlying178 rfl rfl Tryd.underlying9 errCells strCells
  exact ⟨a, by have := World.var?_cell errName hv 0; simpa [ErrAt] using this⟩
theorem errVar_of {w : World} (hL : laidMet Tryd.prog [("loop.example/g03005/impl.errNoRing", Rows.laid_loop_example_g03005_impl_errNoRing)] w) : ∃ a0, w.var? Tryd.prog "loop.example/g03005/impl.errNoRing" = some #[.iface 153 (.pointer (some a0))] := by
  obtain ⟨a, s, hv, -, -, -⟩ := laid_sentinel (tp := 153) (te := 178) (ts := 9) hL errName errType Tryd.underlying55 errRow Tryd.underlying153 Tryd.underlying178 rfl rfl Tryd.underlying9 errCells strCells
  exact ⟨a, hv⟩
theorem errVars {H : Type} (enc : TypeId × Value → H) {W : World} {a0 : Addr} (h : W.var? Tryd.prog "loop.example/g03005/impl.errNoRing" = some #[.iface 153 (.pointer (some a0))]) (sp : Nat → Bool) :
    DataW.TrodVars enc Tryd.prog W sp ["loop.example/g03005/impl.errNoRing"] [tok enc (.iface 153 (.pointer (some a0)))] [.cell 0 0] :=
  vars_read1 enc errName errType Tryd.underlying55 h trivial sp
theorem errVar_below {W W' : World} {a0 : Addr} (h : W.var? Tryd.prog "loop.example/g03005/impl.errNoRing" = some #[.iface 153 (.pointer (some a0))]) (hb : Below W.heap.size W W') : W'.var? Tryd.prog "loop.example/g03005/impl.errNoRing" = some #[.iface 153 (.pointer (some a0))] :=
  var?_below hb errName (World.block_lt_of_cell? _ _ (World.var?_cell errName h 0)) h
end Go.Proofs.YtkeljibnjpinlaaDoor

/- FnRings: its walk. -/
namespace Go.Proofs.YtkeljibnjpinlaaDoor
open Go.ChangeShapes Go.WideShapes Go.ChangeAt Go.RowKit
set_option linter.unusedVariables false

theorem OwnE.capLe {α : Type} {n : Nat} {enc : α → List Value} {w : World} {B : Nat} {e : TypeId} {A : Option Addr} {m c : Nat} {L : List α} (h : OwnE n enc w B e (.slice A m c) L) : (c : Int) ≤ 9223372036854775807 := by
  obtain ⟨A', c', hv, hc, -⟩ := h.form
  simp only [Value.slice.injEq] at hv
  unfold maxLen at hc
  omega
theorem twA_bd (l : List (Int × Int)) : -400000 ≤ twA l ∧ twA l ≤ 400000 := by
  cases h : isRg l
  · rw [twA_no h]; decide
  · rw [twA_yes h]
    have h1 := (isRg_iff l).1 h
    have := arV_bd_take (S := rgS l) h1.2.1 (by rw [rgS_len]; exact h1.1.2) (rgS l).length
    rwa [List.take_length] at this
theorem isRg_rotV (l : List (Int × Int)) (k : Int) : isRg (rotV l k) = isRg l := by
  unfold rotV; split
  · next h => simp only [inB, decide_eq_true_eq] at h; exact isRg_cut l (by omega)
  · rfl
theorem twA_rotV (l : List (Int × Int)) (k : Int) : twA (rotV l k) = twA l := by
  unfold rotV; split
  · next h => simp only [inB, decide_eq_true_eq] at h; exact twA_cut l (by omega)
  · rfl
theorem rotV_len' (l : List (Int × Int)) (k : Int) : (rotV l k).length = l.length := by
  unfold rotV; split
  · next h => simp only [inB, decide_eq_true_eq] at h; simp; omega
  · rfl
theorem rsV_eq (l : List (Int × Int)) (h0 : ¬ l.length = 0) : decide ((rsV l).length = l.length) = isRg l := by
  unfold rsV
  cases h : isRg l
  · simp; omega
  · simp [rgS_len]
set_option maxRecDepth 100000 in
set_option maxHeartbeats 8000000 in
theorem law_FnRings (w : World) (a0 : Addr) (hE : ErrAt a0 w) (A : Option Addr) (len cap : Nat) (hc : Code w w.heap.size A len) :
    Calls Tryd.prog 3 #[.slice A len cap] w fun e w' => e = .returned (.bool true) ∧ Below w.heap.size w w' := by
  have hlen := hc.1
  have HE := Lib.hid hE; clear hE
  by_cases hbig : 1048576 < len
  · go_enter Tryd.func3, Tryd.ntmps3
    go_wp2_with fail
    refine (big_yes A len cap _ hbig).mono ?_
    rintro e w0 ⟨rfl, rfl⟩
    go_wp2
    go_ret
    exact ⟨rfl, Below.refl _ _⟩
  · go_enter Tryd.func3, Tryd.ntmps3
    have HC := Lib.hid hc; clear hc
    go_wp2_with fail
    refine (big_no A len cap _ (by omega)).mono ?_
    rintro e w0 ⟨rfl, rfl⟩
    have HB := Lib.hid (Below.refl w.heap.size w)
    go_wp2_with fail
    refine (drawIsRing_any A len cap _ _ HC.out).mono ?_
    rintro e w9 ⟨Al, cl, l, rfl, hl2, hl6, hlc, hlm, hf, hs, hb9⟩
    have HSl := Lib.hid hs; have HF := Lib.hid hf; clear hs hf
    have hln : l.length ≤ 274877906944 := by omega
    have HB := Lib.hid (HB.out.trans (hb9.mono HB.out.size))
    clear hb9
    obtain ⟨z, hz⟩ : ∃ z, isRg l = z := ⟨_, rfl⟩
    obtain ⟨ar, har⟩ : ∃ z, twA l = z := ⟨_, rfl⟩
    have hab : -400000 ≤ ar ∧ ar ≤ 400000 := by rw [← har]; exact twA_bd l
    have hng : IntKind.i64.wrap (-ar) = -ar := IntWalk.i64_in _ (by omega)
    have HZ := Lib.hid hz; have HAr := Lib.hid har; clear hz har
    go_wp2_with fail
    refine (turnRing_any Al cl l _ HSl.out hln hlc hlm).mono ?_
    rintro e w9 ⟨At, ct, t, HLt, rfl, ho9, hb9⟩
    have HOt := Lib.hid ho9; clear ho9
    have htl : t.length = l.length := by rw [HLt.out, trn_len]
    have htn : t.length ≤ 274877906944 := by omega
    have htc := HOt.out.cap; have htm := HOt.out.capLe
    have HZt : Hid (isRg t = z) := Lib.hid (by rw [HLt.out, isRg_trn]; exact HZ.out)
    have HAt : Hid (twA t = -ar) := Lib.hid (by rw [HLt.out, twA_trn, HAr.out])
    have HTL := Lib.hid htl; clear htl
    have HB := Lib.hid (HB.out.trans (hb9.mono HB.out.size))
    have HSl := Lib.hid (HSl.out.belowAll hb9)
    clear hb9
    go_upto_region 5 with fail
    go_cut [38] (fun s wx => s = .bool false ∧ Hid (Below w.heap.size w wx) ∧ Hid (SeesE 2 encPoint wx wx.heap.size Al l))
    case first =>
      cases z
      · go_wp2_with (first
          | (go_at_call 11; with_reducible refine (isRing_is a0 Al cl l _ (HE.out.all HB.out) HSl.out hln hlc hlm false HZ.out).mono ?_; rintro e w9 ⟨rfl, hb9⟩; have HB := Lib.hid (HB.out.trans (hb9.mono HB.out.size)); have HSl := Lib.hid (HSl.out.belowAll hb9); have HOt := Lib.hid (HOt.out.belowAll hb9); clear hb9)
          | (go_at_call 11; with_reducible refine (isRing_is a0 At ct t _ (HE.out.all HB.out) (HOt.out.sees elPoint) htn htc htm false HZt.out).mono ?_; rintro e w9 ⟨rfl, hb9⟩; have HB := Lib.hid (HB.out.trans (hb9.mono HB.out.size)); have HSl := Lib.hid (HSl.out.belowAll hb9); have HOt := Lib.hid (HOt.out.belowAll hb9); clear hb9)
          | (go_at_call 12; with_reducible refine (twiceArea_is a0 At ct t _ (HE.out.all HB.out) (HOt.out.sees elPoint) htn htc htm (-ar) HAt.out).mono ?_; rintro e w9 ⟨rfl, hb9⟩; have HB := Lib.hid (HB.out.trans (hb9.mono HB.out.size)); have HSl := Lib.hid (HSl.out.belowAll hb9); have HOt := Lib.hid (HOt.out.belowAll hb9); clear hb9)
          | (go_at_call 12; with_reducible refine (twiceArea_is a0 Al cl l _ (HE.out.all HB.out) HSl.out hln hlc hlm ar HAr.out).mono ?_; rintro e w9 ⟨rfl, hb9⟩; have HB := Lib.hid (HB.out.trans (hb9.mono HB.out.size)); have HSl := Lib.hid (HSl.out.belowAll hb9); have HOt := Lib.hid (HOt.out.belowAll hb9); clear hb9)
          | fail)
        go_meet
        exact ⟨rfl, HB, HSl⟩
      · have hne : ¬ ar = 0 := by rw [← HAr.out]; exact HF.out HZ.out
        have hne' : (ar == 0) = false := by simp [hne]
        go_wp2_with (first
          | (go_at_call 11; with_reducible refine (isRing_is a0 Al cl l _ (HE.out.all HB.out) HSl.out hln hlc hlm true HZ.out).mono ?_; rintro e w9 ⟨rfl, hb9⟩; have HB := Lib.hid (HB.out.trans (hb9.mono HB.out.size)); have HSl := Lib.hid (HSl.out.belowAll hb9); have HOt := Lib.hid (HOt.out.belowAll hb9); clear hb9)
          | (go_at_call 11; with_reducible refine (isRing_is a0 At ct t _ (HE.out.all HB.out) (HOt.out.sees elPoint) htn htc htm true HZt.out).mono ?_; rintro e w9 ⟨rfl, hb9⟩; have HB := Lib.hid (HB.out.trans (hb9.mono HB.out.size)); have HSl := Lib.hid (HSl.out.belowAll hb9); have HOt := Lib.hid (HOt.out.belowAll hb9); clear hb9)
          | (go_at_call 12; with_reducible refine (twiceArea_is a0 At ct t _ (HE.out.all HB.out) (HOt.out.sees elPoint) htn htc htm (-ar) HAt.out).mono ?_; rintro e w9 ⟨rfl, hb9⟩; have HB := Lib.hid (HB.out.trans (hb9.mono HB.out.size)); have HSl := Lib.hid (HSl.out.belowAll hb9); have HOt := Lib.hid (HOt.out.belowAll hb9); clear hb9)
          | (go_at_call 12; with_reducible refine (twiceArea_is a0 Al cl l _ (HE.out.all HB.out) HSl.out hln hlc hlm ar HAr.out).mono ?_; rintro e w9 ⟨rfl, hb9⟩; have HB := Lib.hid (HB.out.trans (hb9.mono HB.out.size)); have HSl := Lib.hid (HSl.out.belowAll hb9); have HOt := Lib.hid (HOt.out.belowAll hb9); clear hb9)
          | fail)
        go_meet
        exact ⟨rfl, HB, HSl⟩
    case rest =>
    obtain ⟨rfl, HB', HSl'⟩ := hcut
    clear HB HSl HOt HTL HLt HZt HAt htn htc htm; have HB := HB'; have HSl := HSl'; clear HB' HSl'
    go_wp2_with fail
    refine (drawRotateRing_any A len cap _ _ (code_below HC.out HB.out)).mono ?_
    rintro e w9 ⟨Ax, cx, x, k, rfl, hx2, hx6, hxc, hxm, ⟨hk0, hk1⟩, hs, hb9⟩
    have HSx := Lib.hid hs; clear hs
    have hxn : x.length ≤ 274877906944 := by omega
    have HB := Lib.hid (HB.out.trans (hb9.mono HB.out.size))
    have HSl := Lib.hid (HSl.out.belowAll hb9)
    clear hb9
    obtain ⟨zx, hz⟩ : ∃ z, isRg x = z := ⟨_, rfl⟩
    obtain ⟨ax, har⟩ : ∃ z, twA x = z := ⟨_, rfl⟩
    have HZx := Lib.hid hz; have HAx := Lib.hid har; clear hz har
    have hkw : (Lit.int .i64 k).wf = true := by
      have e1 : IntKind.i64.min = -9223372036854775808 := by decide
      have e2 : IntKind.i64.max = 9223372036854775807 := by decide
      simp only [Lit.wf, e1, e2, Bool.and_eq_true, decide_eq_true_eq]; omega
    go_wp2_with fail
    refine (rotateRing_any Ax cx x k _ HSx.out hxn hxc hxm hkw).mono ?_
    rintro e w9 ⟨Ar, cr, r, HLr, rfl, ho9, hb9⟩
    have HOr := Lib.hid ho9; clear ho9
    have hrl : r.length = x.length := by rw [HLr.out, rotV_len']
    have hrn : r.length ≤ 274877906944 := by omega
    have hrc := HOr.out.cap; have hrm := HOr.out.capLe
    have HZr : Hid (isRg r = zx) := Lib.hid (by rw [HLr.out, isRg_rotV]; exact HZx.out)
    have HAr' : Hid (twA r = ax) := Lib.hid (by rw [HLr.out, twA_rotV, HAx.out])
    have hri : (r.length : Int) = (x.length : Int) := by omega
    clear hrl
    have HB := Lib.hid (HB.out.trans (hb9.mono HB.out.size))
    have HSl := Lib.hid (HSl.out.belowAll hb9)
    have HSx := Lib.hid (HSx.out.belowAll hb9)
    clear hb9
    go_upto_region 9 with fail
    go_cut [65] (fun s wx => s = .bool false ∧ Hid (Below w.heap.size w wx) ∧ Hid (SeesE 2 encPoint wx wx.heap.size Al l))
    case first =>
      cases zx
      · go_wp2_with (first
          | (go_at_call 11; with_reducible refine (isRing_is a0 Ax cx x _ (HE.out.all HB.out) HSx.out hxn hxc hxm false HZx.out).mono ?_; rintro e w9 ⟨rfl, hb9⟩; have HB := Lib.hid (HB.out.trans (hb9.mono HB.out.size)); have HSl := Lib.hid (HSl.out.belowAll hb9); have HSx := Lib.hid (HSx.out.belowAll hb9); have HOr := Lib.hid (HOr.out.belowAll hb9); clear hb9)
          | (go_at_call 11; with_reducible refine (isRing_is a0 Ar cr r _ (HE.out.all HB.out) (HOr.out.sees elPoint) hrn hrc hrm false HZr.out).mono ?_; rintro e w9 ⟨rfl, hb9⟩; have HB := Lib.hid (HB.out.trans (hb9.mono HB.out.size)); have HSl := Lib.hid (HSl.out.belowAll hb9); have HSx := Lib.hid (HSx.out.belowAll hb9); have HOr := Lib.hid (HOr.out.belowAll hb9); clear hb9)
          | (go_at_call 12; with_reducible refine (twiceArea_is a0 Ax cx x _ (HE.out.all HB.out) HSx.out hxn hxc hxm ax HAx.out).mono ?_; rintro e w9 ⟨rfl, hb9⟩; have HB := Lib.hid (HB.out.trans (hb9.mono HB.out.size)); have HSl := Lib.hid (HSl.out.belowAll hb9); have HSx := Lib.hid (HSx.out.belowAll hb9); have HOr := Lib.hid (HOr.out.belowAll hb9); clear hb9)
          | (go_at_call 12; with_reducible refine (twiceArea_is a0 Ar cr r _ (HE.out.all HB.out) (HOr.out.sees elPoint) hrn hrc hrm ax HAr'.out).mono ?_; rintro e w9 ⟨rfl, hb9⟩; have HB := Lib.hid (HB.out.trans (hb9.mono HB.out.size)); have HSl := Lib.hid (HSl.out.belowAll hb9); have HSx := Lib.hid (HSx.out.belowAll hb9); have HOr := Lib.hid (HOr.out.belowAll hb9); clear hb9)
          | fail)
        go_meet
        exact ⟨rfl, HB, HSl⟩
      · go_wp2_with (first
          | (go_at_call 11; with_reducible refine (isRing_is a0 Ax cx x _ (HE.out.all HB.out) HSx.out hxn hxc hxm true HZx.out).mono ?_; rintro e w9 ⟨rfl, hb9⟩; have HB := Lib.hid (HB.out.trans (hb9.mono HB.out.size)); have HSl := Lib.hid (HSl.out.belowAll hb9); have HSx := Lib.hid (HSx.out.belowAll hb9); have HOr := Lib.hid (HOr.out.belowAll hb9); clear hb9)
          | (go_at_call 11; with_reducible refine (isRing_is a0 Ar cr r _ (HE.out.all HB.out) (HOr.out.sees elPoint) hrn hrc hrm true HZr.out).mono ?_; rintro e w9 ⟨rfl, hb9⟩; have HB := Lib.hid (HB.out.trans (hb9.mono HB.out.size)); have HSl := Lib.hid (HSl.out.belowAll hb9); have HSx := Lib.hid (HSx.out.belowAll hb9); have HOr := Lib.hid (HOr.out.belowAll hb9); clear hb9)
          | (go_at_call 12; with_reducible refine (twiceArea_is a0 Ax cx x _ (HE.out.all HB.out) HSx.out hxn hxc hxm ax HAx.out).mono ?_; rintro e w9 ⟨rfl, hb9⟩; have HB := Lib.hid (HB.out.trans (hb9.mono HB.out.size)); have HSl := Lib.hid (HSl.out.belowAll hb9); have HSx := Lib.hid (HSx.out.belowAll hb9); have HOr := Lib.hid (HOr.out.belowAll hb9); clear hb9)
          | (go_at_call 12; with_reducible refine (twiceArea_is a0 Ar cr r _ (HE.out.all HB.out) (HOr.out.sees elPoint) hrn hrc hrm ax HAr'.out).mono ?_; rintro e w9 ⟨rfl, hb9⟩; have HB := Lib.hid (HB.out.trans (hb9.mono HB.out.size)); have HSl := Lib.hid (HSl.out.belowAll hb9); have HSx := Lib.hid (HSx.out.belowAll hb9); have HOr := Lib.hid (HOr.out.belowAll hb9); clear hb9)
          | fail)
        go_meet
        exact ⟨rfl, HB, HSl⟩
    case rest =>
    obtain ⟨rfl, HB', HSl'⟩ := hcut
    clear HB HSl HOr HLr HZr HAr' hrn hrc hrm HSx hri; have HB := HB'; have HSl := HSl'; clear HB' HSl'
    go_wp2_with fail
    refine (drawIsInside_any A len cap _ _ (code_below HC.out HB.out)).mono ?_
    rintro e w9 ⟨Ay, cy, y, px, py, rfl, hy2, hy6, hyc, hym, hs, hb9⟩
    have HSy := Lib.hid hs; clear hs; have hw9 : Hid (w.heap.size ≤ w9.heap.size) := Lib.hid (Nat.le_trans HB.out.size hb9.size)
    have hyn : y.length ≤ 274877906944 := by omega
    have HB := Lib.hid (HB.out.trans (hb9.mono HB.out.size))
    have HSl := Lib.hid (HSl.out.belowAll hb9)
    clear hb9
    obtain ⟨v, hv⟩ : ∃ z, inV y (px, py) = z := ⟨_, rfl⟩
    have HV := Lib.hid hv; clear hv
    go_upto_region 12 with fail
    have HP := Lib.hid (Vars.of1 w9 #[.int .i64 px, .int .i64 py] 33)
    have HSl' := Lib.hid (HSl.out.belowAll ((Below.refl _ _).alloc (Nat.le_refl _) (.cells #[.int .i64 px, .int .i64 py] 33))); have HSy' := Lib.hid (HSy.out.belowAll ((Below.refl _ _).alloc (Nat.le_refl _) (.cells #[.int .i64 px, .int .i64 py] 33))); have HB' := Lib.hid (HB.out.alloc HB.out.size (.cells #[.int .i64 px, .int .i64 py] 33))
    clear HB HSl HSy; have HB := HB'; have HSl := HSl'; have HSy := HSy'; clear HB' HSl' HSy'
    have hz9 : w.heap.size ≤ w9.heap.size := hw9.out
    generalize w9.alloc (.cells #[.int .i64 px, .int .i64 py] 33) = wp at HB HSl HSy HP ⊢
    have HBd := Lib.hid HB.out.drew; have HPd := Lib.hid HP.out.drew; have HSyd := Lib.hid HSy.out.drew; have HSld := Lib.hid HSl.out.drew
    have hq := HP.out.c20; have HQd := Lib.hid HPd.out.c20
    have HVu : Hid (∀ u, u = trn y → inV u (px, py) = v) := Lib.hid (fun u hu => by rw [hu, inV_trn]; exact HV.out)
    go_cut [78] (fun s wx => s = .bool false ∧ Hid (Below w.heap.size w wx) ∧ Hid (SeesE 2 encPoint wx wx.heap.size Al l) ∧ Hid (SeesE 2 encPoint wx wx.heap.size Ay y) ∧ Hid (Vars w9 wx [#[.int .i64 px, .int .i64 py]]))
    case first =>
      go_region_held3 (fun w' => w'.cell? ⟨w9.heap.size, 0, none⟩ = some (.int .i64 px) ∧ w'.cell? ⟨w9.heap.size, 1, none⟩ = some (.int .i64 py)) (first | with_reducible exact hq | with_reducible exact HQd.out | with_reducible exact HQa.out | with_reducible exact HQb.out | with_reducible exact HQc.out) (first
        | (go_at_call 16; refine (isInside_is a0 Au cu u px py _ (HE.out.all HBb.out) HOb.out hun HUC.out.1 HUC.out.2 v (HVu.out u HLu.out)).mono ?_; rintro e wc ⟨rfl, hbc⟩; have HBc := Lib.hid (HBb.out.trans (hbc.mono HBb.out.size)); have HPc := Lib.hid (HPb.out.next hbc); have HQc := Lib.hid HPc.out.c20; have HSlc := Lib.hid (HSlb.out.belowAll hbc); have HSyc := Lib.hid (HSyb.out.belowAll hbc))
        | (go_at_call 10; refine (turnRing_any Ay cy y _ HSya.out hyn hyc hym).mono ?_; rintro e wb ⟨Au, cu, u, HLu, rfl, hob, hbb⟩; have HBb := Lib.hid (HBa.out.trans (hbb.mono HBa.out.size)); have HPb := Lib.hid (HPa.out.next hbb); have HQb := Lib.hid HPb.out.c20; have HSlb := Lib.hid (HSla.out.belowAll hbb); have HSyb := Lib.hid (HSya.out.belowAll hbb); have HOb := Lib.hid (hob.sees elPoint); have HUC := Lib.hid (And.intro hob.cap hob.capLe); have hun : u.length ≤ 274877906944 := (by rw [HLu.out, trn_len]; exact hyn))
        | (go_at_call 16; refine (isInside_is a0 Ay cy y px py _ (HE.out.all HBd.out) HSyd.out hyn hyc hym v HV.out).mono ?_; rintro e wa ⟨rfl, hba⟩; have HBa := Lib.hid (HBd.out.trans (hba.mono HBd.out.size)); have HPa := Lib.hid (HPd.out.next hba); have HQa := Lib.hid HPa.out.c20; have HSla := Lib.hid (HSld.out.belowAll hba); have HSya := Lib.hid (HSyd.out.belowAll hba))
        | fail)
      all_goals
        go_wp2_with fail
        go_meet
        exact ⟨by simp, HBc, HSlc, HSyc, HPc⟩
    case rest =>
    obtain ⟨rfl, HB', HSl', HSy', HP'⟩ := hcut
    clear HB HSl HSy HP HBd HPd HSyd HSld hq HQd HVu; have HB := HB'; have HSl := HSl'; have HSy := HSy'; have HP := HP'; clear HB' HSl' HSy' HP'
    obtain ⟨k0, k1⟩ := HP.out.c20
    go_upto_region 14 with fail
    go_cut [86] (fun s wx => s = .bool false ∧ Hid (Below w.heap.size w wx) ∧ Hid (SeesE 2 encPoint wx wx.heap.size Al l))
    case first =>
      cases v
      · go_wp2_with (first
          | (go_at_call 16; refine (isInside_is a0 Ay cy y px py _ (HE.out.all HB.out) HSy.out hyn hyc hym false HV.out).mono ?_; rintro e w9 ⟨rfl, hb9⟩; have HP := Lib.hid (HP.out.next hb9); obtain ⟨q0, q1⟩ := HP.out.c20; have HB := Lib.hid (HB.out.trans (hb9.mono HB.out.size)); have HSl := Lib.hid (HSl.out.belowAll hb9); have HSy := Lib.hid (HSy.out.belowAll hb9); clear hb9)
          | fail)
        go_meet
        exact ⟨rfl, HB, HSl⟩
      · have HPP : Hid (isP px py = true) := Lib.hid (inV_isP HV.out)
        go_wp2_with (first
          | (go_at_call 16; refine (isInside_is a0 Ay cy y px py _ (HE.out.all HB.out) HSy.out hyn hyc hym true HV.out).mono ?_; rintro e w9 ⟨rfl, hb9⟩; have HP := Lib.hid (HP.out.next hb9); obtain ⟨q0, q1⟩ := HP.out.c20; have HB := Lib.hid (HB.out.trans (hb9.mono HB.out.size)); have HSl := Lib.hid (HSl.out.belowAll hb9); have HSy := Lib.hid (HSy.out.belowAll hb9); clear hb9)
          | (go_at_call 17; refine (isPoint_is px py true _ HPP.out).mono ?_; rintro e w9 ⟨rfl, hb9⟩; have HB := Lib.hid (HB.out.trans (hb9.mono HB.out.size)); have HSl := Lib.hid (HSl.out.belowAll hb9); have HSy := Lib.hid (HSy.out.belowAll hb9); clear hb9)
          | fail)
        go_meet
        exact ⟨rfl, HB, HSl⟩
    case rest =>
    obtain ⟨rfl, HB', HSl'⟩ := hcut
    clear HB HSl HSy HP HV k0 k1; have HB := HB'; have HSl := HSl'; clear HB' HSl'
    have hl0 : (0 : Int) < (l.length : Int) := by omega
    have hl0' : ¬ ((l.length : Int) = 0) := by omega
    cases z
    · have HRL : Hid (((rsV l).length : Int) = 0) := Lib.hid (by unfold rsV; rw [HZ.out]; rfl)
      go_wp2
      go_loopw [10] (fun i wr => i = .int .i64 0 ∧ Hid (Below w.heap.size w wr) ∧ Hid (SeesE 2 encPoint wr wr.heap.size Al l)) (fun _ _ => 0)
      case atStart => exact ⟨rfl, HB, HSl⟩
      case round =>
        obtain ⟨rfl, HB', HSl'⟩ := hrel
        clear HB HSl; have HB := HB'; have HSl := HSl'; clear HB' HSl'
        go_wp2_with (first
          | (go_at_call 18; refine (ringSegments_any a0 Al cl l _ (HE.out.all HB.out) HSl.out hln hlc hlm).mono ?_; rintro e w9 ⟨As, cs, S, HLs, rfl, ho9, hb9⟩; have HB := Lib.hid (HB.out.trans (hb9.mono HB.out.size)); have HSl := Lib.hid (HSl.out.belowAll hb9); clear hb9; have hsi : (S.length : Int) = 0 := (by rw [HLs.out]; exact HRL.out))
          | (go_at_call 11; with_reducible refine (isRing_is a0 Al cl l _ (HE.out.all HB.out) HSl.out hln hlc hlm false HZ.out).mono ?_; rintro e w9 ⟨rfl, hb9⟩; have HB := Lib.hid (HB.out.trans (hb9.mono HB.out.size)); have HSl := Lib.hid (HSl.out.belowAll hb9); clear hb9)
          | fail)
        go_ret
        exact ⟨rfl, HB.out⟩
    · have HRL : Hid (((rsV l).length : Int) = (l.length : Int)) := Lib.hid (by unfold rsV; rw [HZ.out, if_pos rfl, rgS_len])
      go_wp2
      go_loopw [10] (fun i wr => ∃ j : Nat, j ≤ l.length ∧ i = .int .i64 (j : Int) ∧ Hid (Below w.heap.size w wr) ∧ Hid (SeesE 2 encPoint wr wr.heap.size Al l)) (fun i _ => l.length - (intOf i).toNat)
      case atStart => exact ⟨0, Nat.zero_le _, rfl, HB, HSl⟩
      case round =>
        obtain ⟨j, hj, rfl, HB', HSl'⟩ := hrel
        clear HB HSl; have HB := HB'; have HSl := HSl'; clear HB' HSl'
        by_cases hlt : j < l.length
        · have hlt' : (j : Int) < (l.length : Int) := by omega
          obtain ⟨⟨x0, y0⟩, hx⟩ : ∃ p, l[j]? = some p := ⟨_, List.getElem?_eq_getElem hlt⟩
          have HI : Hid (inV l (x0, y0) = true) := Lib.hid (inV_corner HZ.out hx)
          have HX := Lib.hid hx; clear hx
          obtain ⟨b, off, rfl, hbl, -⟩ := HSl.out j _ HX.out
          go_wp2_with (first
            | (go_at_call 11; with_reducible refine (isRing_is a0 _ cl l _ (HE.out.all HB.out) HSl.out hln hlc hlm true HZ.out).mono ?_; rintro e w9 ⟨rfl, hb9⟩; have HB := Lib.hid (HB.out.trans (hb9.mono HB.out.size)); have HSl := Lib.hid (HSl.out.belowAll hb9); clear hb9; obtain ⟨q0, q1⟩ := cellsPoint HSl.out HX.out)
            | (go_at_call 16; refine (isInside_is a0 _ cl l x0 y0 _ (HE.out.all HB.out) HSl.out hln hlc hlm true HI.out).mono ?_; rintro e w9 ⟨rfl, hb9⟩; have HB := Lib.hid (HB.out.trans (hb9.mono HB.out.size)); have HSl := Lib.hid (HSl.out.belowAll hb9); clear hb9)
            | fail)
          go_roundw
          case rel => exact ⟨j + 1, by omega, by go_num, HB, HSl⟩
          case measure => simp [intOf]; omega
        · have hlt' : ¬ (j : Int) < (l.length : Int) := by omega
          go_wp2_with (first
            | (go_at_call 18; refine (ringSegments_any a0 Al cl l _ (HE.out.all HB.out) HSl.out hln hlc hlm).mono ?_; rintro e w9 ⟨As, cs, S, HLs, rfl, ho9, hb9⟩; have HB := Lib.hid (HB.out.trans (hb9.mono HB.out.size)); have HSl := Lib.hid (HSl.out.belowAll hb9); clear hb9; have hsi : (S.length : Int) = (l.length : Int) := (by rw [HLs.out]; exact HRL.out))
            | (go_at_call 11; with_reducible refine (isRing_is a0 Al cl l _ (HE.out.all HB.out) HSl.out hln hlc hlm true HZ.out).mono ?_; rintro e w9 ⟨rfl, hb9⟩; have HB := Lib.hid (HB.out.trans (hb9.mono HB.out.size)); have HSl := Lib.hid (HSl.out.belowAll hb9); clear hb9)
            | fail)
          go_ret
          exact ⟨rfl, HB.out⟩
theorem law_FnRings_laid (w : World) (A : Option Addr) (len cap : Nat) (z : List Int) (hrow : IsRow .u8 w A len cap z) (hL : laidMet Tryd.prog Rows.fnRingsRow.laid w) :
    Calls Tryd.prog 3 #[.slice A len cap] w fun e w' => e = .returned (.bool true) ∧ Below w.heap.size w w' := by
  obtain ⟨a0, hE⟩ := errAt_of hL
  exact law_FnRings w a0 hE A len cap (code_of_row hrow)
end Go.Proofs.YtkeljibnjpinlaaDoor

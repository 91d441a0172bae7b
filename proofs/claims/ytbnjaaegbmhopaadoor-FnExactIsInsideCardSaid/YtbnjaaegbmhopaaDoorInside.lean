/- Inside a ring, by its edges in the order of their lower ends; IsInside of package impl. -/
import Derived.Test.YtbnjaaegbmhopaaDoorSortH
import Derived.Test.YtbnjaaegbmhopaaDoorRingI
namespace Go.Proofs.YtbnjaaegbmhopaaDoor
open Go.RowKit
set_option linter.unusedVariables false

theorem crR_rs {p : Int × Int} {s : Int × Int × Int × Int} (hs : sOk s = true) (hp : isP p.1 p.2 = true) : crR p (rsS s) = crC p s := by
  obtain ⟨a, b, c, d⟩ := s
  obtain ⟨x, y⟩ := p
  have hs' : isS a b c d = true := hs
  obtain ⟨h1, h2, -⟩ := isS_at hs'
  have h3 := isP_bd hp
  have hc := crs_turn a b c d x y
  rw [Bool.eq_iff_iff]
  by_cases hd : d < b
  · have hr : rsS (a, b, c, d) = (c, d, a, b) := if_pos hd
    rw [hr]
    have hg := side_sg (isP3_of h2 h1 h3)
    rw [hc] at hg
    show (inB y d (b - 1) && decide (0 < sideV c d a b x y)) = true ↔ ((decide (b > y) != decide (d > y)) && ((decide (d > b) && decide (crs a b c d x y > 0)) || (decide (d < b) && decide (crs a b c d x y < 0)))) = true
    have e1 : decide (d > b) = false := decide_eq_false (by omega)
    have e2 : decide (d < b) = true := decide_eq_true hd
    have e3 : (decide (b > y) != decide (d > y)) = inB y d (b - 1) := by
      rw [Bool.eq_iff_iff]; simp only [inB, bne_iff_ne, ne_eq, decide_eq_decide, decide_eq_true_eq]; omega
    have e4 : decide (0 < sideV c d a b x y) = decide (crs a b c d x y < 0) := by
      rw [hg, decide_eq_decide]
      rcases sg_cases (-crs a b c d x y) with k | k | k <;> rw [k.1] <;> omega
    rw [e1, e2, e3, e4, Bool.false_and, Bool.false_or, Bool.true_and]
  · have hr : rsS (a, b, c, d) = (a, b, c, d) := if_neg hd
    rw [hr]
    have hg := side_sg (isP3_of h1 h2 h3)
    show (inB y b (d - 1) && decide (0 < sideV a b c d x y)) = true ↔ ((decide (b > y) != decide (d > y)) && ((decide (d > b) && decide (crs a b c d x y > 0)) || (decide (d < b) && decide (crs a b c d x y < 0)))) = true
    have e2 : decide (d < b) = false := decide_eq_false hd
    have e3 : (decide (b > y) != decide (d > y)) = inB y b (d - 1) := by
      rw [Bool.eq_iff_iff]; simp only [inB, bne_iff_ne, ne_eq, decide_eq_decide, decide_eq_true_eq]; omega
    have e4 : decide (0 < sideV a b c d x y) = decide (crs a b c d x y > 0) := by
      rw [hg, decide_eq_decide]
      rcases sg_cases (crs a b c d x y) with k | k | k <;> rw [k.1] <;> omega
    rw [e2, e3, e4, Bool.false_and, Bool.or_false]
    by_cases hbd : b = d
    · have e5 : inB y b (d - 1) = false := by unfold inB; exact decide_eq_false (by omega)
      rw [e5]; simp
    · have e6 : decide (d > b) = true := decide_eq_true (by omega)
      rw [e6, Bool.true_and]
theorem onS_rs (p : Int × Int) (s : Int × Int × Int × Int) : onS p (rsS s) = onS p s := by
  unfold rsS; split
  · exact onS_tr p s
  · rfl
theorem sOk_rs (s : Int × Int × Int × Int) : sOk (rsS s) = sOk s := by
  unfold rsS; split
  · exact sOk_tr s
  · rfl
theorem rs_up (s : Int × Int × Int × Int) : (rsS s).2.1 ≤ (rsS s).2.2.2 := by
  unfold rsS; split
  · show s.2.2.2 ≤ s.2.1; omega
  · omega
theorem crR_out {p : Int × Int} {s : Int × Int × Int × Int} (hp : isP p.1 p.2 = false) : crR p s = false := by
  have : sideV s.1 s.2.1 s.2.2.1 s.2.2.2 p.1 p.2 = 0 := by
    unfold sideV
    rw [if_neg]
    simp [isP3, hp]
  unfold crR
  rw [this]; simp
theorem onS_out {p : Int × Int} {s : Int × Int × Int × Int} (hp : isP p.1 p.2 = false) : onS p s = false := by
  cases h : onS p s
  · rfl
  · obtain ⟨h1, h2⟩ := onV_iff.1 h
    have := on_bd h1 h2
    rw [isP_of this.1 this.2.1 this.2.2.1 this.2.2.2] at hp
    cases hp
/-- By the edges. -/
def insV (p : Int × Int) (L : List (Int × Int × Int × Int)) : Bool := L.any (onS p) || decide (L.countP (crR p) % 2 = 1)
theorem insV_perm {p : Int × Int} {L L' : List (Int × Int × Int × Int)} (h : L'.Perm L) : insV p L' = insV p L := by
  unfold insV
  rw [h.countP_eq, h.any_eq]
theorem insV_rs {l : List (Int × Int)} (hl : isRg l = true) (p : Int × Int) : insV p ((rgS l).map rsS) = inV l p := by
  have hok := ((isRg_iff l).1 hl).2.1
  unfold inV insV
  rw [hl, Bool.true_and, List.any_map, List.countP_map]
  cases hp : isP p.1 p.2
  · rw [Bool.false_and]
    have e1 : (rgS l).any (onS p ∘ rsS) = false := by
      rw [List.any_eq_false]; intro s _; show ¬ onS p (rsS s) = true; rw [onS_out hp]; decide
    have e2 : (rgS l).countP (crR p ∘ rsS) = 0 := by
      rw [List.countP_eq_zero]; intro s _; show ¬ crR p (rsS s) = true; rw [crR_out hp]; decide
    rw [e1, e2]; rfl
  · rw [Bool.true_and]
    have e1 : onS p ∘ rsS = onS p := funext fun s => onS_rs p s
    have e2 : (rgS l).countP (crR p ∘ rsS) = (rgS l).countP (crC p) := List.countP_congr fun s hs => by
      show crR p (rsS s) = true ↔ _
      rw [crR_rs (hok s hs) hp]
    rw [e1, e2]
/-- So far. -/
def parV (p : Int × Int) (L : List (Int × Int × Int × Int)) (j : Nat) : Bool := decide ((L.take j).countP (crR p) % 2 = 1)
theorem parV_step {p : Int × Int} {L : List (Int × Int × Int × Int)} {j : Nat} {x : Int × Int × Int × Int} (h : L[j]? = some x) : parV p L (j + 1) = if crR p x = true then !(parV p L j) else parV p L j := by
  unfold parV
  rw [List.take_add_one, h, List.countP_append]
  show decide (((L.take j).countP (crR p) + List.countP (crR p) [x]) % 2 = 1) = _
  rw [List.countP_singleton]
  split
  · rw [← decide_not]; exact decide_eq_decide.2 (by omega)
  · rfl
theorem ins_end {p : Int × Int} {L : List (Int × Int × Int × Int)} (h : ∀ k, k < L.length → ∀ x, L[k]? = some x → onS p x = false) : insV p L = parV p L L.length := by
  have : L.any (onS p) = false := by
    rw [List.any_eq_false]; intro s hs
    obtain ⟨k, hk⟩ := List.getElem?_of_mem hs
    rw [h k (List.getElem?_eq_some_iff.1 hk).1 s hk]; decide
  unfold insV parV
  rw [this, List.take_length, Bool.false_or]
theorem ins_on {p : Int × Int} {L : List (Int × Int × Int × Int)} {j : Nat} {x : Int × Int × Int × Int} (hx : L[j]? = some x) (h : onS p x = true) : insV p L = true := by
  unfold insV
  rw [List.any_eq_true.2 ⟨x, List.mem_of_getElem? hx, h⟩, Bool.true_or]
/-- Behind an edge that begins above p there is none on p or to the right of it. -/
theorem ins_break {p : Int × Int} {L : List (Int × Int × Int × Int)} (hlow : LowFirst L) (hup : ∀ x ∈ L, x.2.1 ≤ x.2.2.2) {j : Nat} {x : Int × Int × Int × Int} (hx : L[j]? = some x) (hgt : p.2 < x.2.1) (h : ∀ k, k < j → ∀ x, L[k]? = some x → onS p x = false) : insV p L = parV p L j := by
  have hj := (List.getElem?_eq_some_iff.1 hx).1
  have hge : ∀ k y, j ≤ k → L[k]? = some y → p.2 < y.2.1 := fun k y hk hy => by
    by_cases e : k = j
    · subst e; rw [hx] at hy; cases hy; exact hgt
    · exact Int.lt_of_lt_of_le hgt (hlow j k x y (by omega) hx hy)
  have hon : ∀ y : Int × Int × Int × Int, y ∈ L → p.2 < y.2.1 → onS p y = false := fun y hyL hy => by
    cases ho : onS p y
    · rfl
    · obtain ⟨-, -, -, h3, -⟩ := onV_iff.1 ho
      have := hup y hyL
      omega
  have hall : ∀ k, k < L.length → ∀ x, L[k]? = some x → onS p x = false := fun k hk y hy => by
    by_cases e : k < j
    · exact h k e y hy
    · exact hon y (List.mem_of_getElem? hy) (hge k y (by omega) hy)
  rw [ins_end hall]
  unfold parV
  rw [List.take_length]
  have e0 : (L.drop j).countP (crR p) = 0 := by
    rw [List.countP_eq_zero]
    intro y hy
    obtain ⟨k, hk⟩ := List.getElem?_of_mem hy
    rw [List.getElem?_drop] at hk
    have := hge (j + k) y (by omega) hk
    unfold crR
    have e : inB p.2 y.2.1 (y.2.2.2 - 1) = false := inB_low this
    rw [e]; simp
  have e1 := List.countP_append (p := crR p) (l₁ := L.take j) (l₂ := L.drop j)
  rw [List.take_append_drop, e0] at e1
  rw [e1]; rfl
end Go.Proofs.YtbnjaaegbmhopaaDoor
namespace Go.Proofs.YtbnjaaegbmhopaaDoor
open Go.ChangeShapes Go.WideShapes Go.ChangeAt Go.RowKit
set_option linter.unusedVariables false

set_option maxRecDepth 100000 in
set_option maxHeartbeats 1000000 in
theorem isInside_is (a0 : Addr) (A : Option Addr) (c : Nat) (l : List (Int × Int)) (x y : Int) (w : World) (hE : ErrAt a0 w) (hs : SeesE 2 encPoint w w.heap.size A l) (hl : l.length ≤ 274877906944) (hlc : l.length ≤ c) (hc : (c : Int) ≤ 9223372036854775807) (z : Bool) (hz : inV l (x, y) = z) :
    Calls Tryd.prog 17 #[.slice A l.length c, PtV x y] w fun e w' => e = .returned (.bool z) ∧ Below w.heap.size w w' := by
  have HE := Lib.hid (hE.alloc (.cells #[.int .i64 x, .int .i64 y] 33))
  have HB0 := Lib.hid ((Below.refl w.heap.size w).alloc (Nat.le_refl _) (.cells #[.int .i64 x, .int .i64 y] 33))
  have HS := Lib.hid ((hs.alloc (Nat.le_refl _) (.cells #[.int .i64 x, .int .i64 y] 33)).mono HB0.out.size)
  have HP := Lib.hid (Vars.of1 w #[.int .i64 x, .int .i64 y] 33)
  have HV := Lib.hid hz
  clear hE hs hz
  cases hz : isRg l
  · obtain rfl : z = false := by rw [← HV.out]; unfold inV; rw [hz]; rfl
    go_enter Tryd.func17, Tryd.ntmps17
    go_wp2_with fail
    refine (joinRing_no a0 A c l _ HE.out HS.out hl hlc hc hz).mono ?_
    rintro e w1 ⟨rfl, hb1⟩
    have hE1 : ErrAt a0 w1 := HE.out.all hb1
    unfold ErrAt at hE1
    have HB1 := Lib.hid (HB0.out.trans (hb1.mono HB0.out.size))
    clear hb1
    go_wp2_with (go_at_call 34; refine (is_same a0 _).mono ?_; rintro e w2 ⟨rfl, rfl⟩)
    go_ret
    exact ⟨rfl, HB1.out⟩
  · have HOK : Hid ((∀ x ∈ rgS l, sOk x = true) ∧ (3 ≤ (rgS l).length ∧ (rgS l).length ≤ 10)) := Lib.hid ⟨((isRg_iff l).1 hz).2.1, by rw [rgS_len]; exact ((isRg_iff l).1 hz).1⟩
    have HW : Hid (insV (x, y) ((rgS l).map rsS) = z) := Lib.hid (by rw [insV_rs hz]; exact HV.out)
    go_enter Tryd.func17, Tryd.ntmps17
    go_wp2_with fail
    refine (joinRing_yes a0 A c l _ HE.out HS.out hl hlc hc hz).mono ?_
    rintro e w1 ⟨A1, c1, L, hL, rfl, ho1, hb1⟩
    have hE1 : ErrAt a0 w1 := HE.out.all hb1
    unfold ErrAt at hE1
    have HB1 := Lib.hid (HB0.out.trans (hb1.mono HB0.out.size)); have HO1 := Lib.hid ho1; have HL := hL
    have HP1 := Lib.hid (HP.out.next hb1)
    have hLn : 0 < L.length ∧ L.length ≤ 1000 := by rw [hL.out]; have := HOK.out.2; omega
    clear hb1 ho1 hL
    go_wp2_with (first
      | (go_at_call 34; refine (is_nil a0 _).mono ?_; rintro e w2 ⟨rfl, rfl⟩)
      | (go_at_call 39; refine (sortByHeight_any A1 c1 L _ (HO1.out.sees elSegment) hLn.1 hLn.2).mono ?_; rintro e w3 ⟨A3, c3, L3, hp3, hlow, rfl, hs3, hb3⟩))
    have HB3 := Lib.hid (HB1.out.trans (hb3.mono HB1.out.size))
    have HP3 := Lib.hid (HP1.out.next hb3)
    have HS3 := Lib.hid hs3
    have HI : Hid (insV (x, y) L3 = z) := Lib.hid (by rw [insV_perm hp3.out, HL.out]; exact HW.out)
    have HUP : Hid (∀ s ∈ L3, s.2.1 ≤ s.2.2.2 ∧ sOk s = true) := Lib.hid (fun s hs => by
      have := (hp3.out.mem_iff).1 hs
      obtain ⟨t, ht, rfl⟩ := List.mem_map.1 this
      exact ⟨rs_up t, by rw [sOk_rs]; exact HOK.out.1 t (by rw [← HL.out]; exact ht)⟩)
    have HLOW := Lib.hid hlow
    have h3 : L3.length ≤ 1000 := by rw [hp3.out.length_eq, List.length_map]; exact hLn.2
    clear hs3 hb3 hp3 hlow hLn
    go_loopw [7, 21] (fun v i wr => ∃ j : Nat, j ≤ L3.length ∧ v = .bool (parV (x, y) L3 j) ∧ i = .int .i64 j ∧ Hid (∀ k, k < j → ∀ s, L3[k]? = some s → onS (x, y) s = false) ∧ Hid (Below w3.heap.size w3 wr)) (fun _ i _ => L3.length - (intOf i).toNat)
    case atStart => exact ⟨0, Nat.zero_le _, rfl, rfl, Lib.hid (fun k hk => by omega), Lib.hid (Below.refl _ _)⟩
    case round =>
      obtain ⟨j, hj, rfl, rfl, hon, HB⟩ := hrel
      by_cases hlt : j < L3.length
      · have hlt' : (j : Int) < (L3.length : Int) := by omega
        obtain ⟨b, off, s, rfl, hbl, hx, -⟩ := (HS3.out.below HB.out).lt hlt
        obtain ⟨k0, k1, k2, k3⟩ := cells4 (HS3.out.below HB.out) hx
        have HX := Lib.hid hx
        have HUs := HUP.out s (List.mem_of_getElem? hx)
        have HPA := Lib.hid ((HP3.out.next HB.out).al (.cells (sC s) 53))
        have HEA := Lib.hid (Vars.of1 wr (sC s) 53)
        have HBA := Lib.hid (HB.out.alloc HB.out.size (.cells (sC s) 53))
        obtain ⟨q0, q1⟩ := HPA.out.c20
        clear hx
        by_cases hgt : y < s.2.1
        · obtain rfl : parV (x, y) L3 j = z := by rw [← HI.out]; exact (ins_break HLOW.out (fun t ht => (HUP.out t ht).1) HX.out hgt hon.out).symm
          go_wp2
          go_ret
          exact ⟨rfl, HB3.out.trans (HBA.out.mono HB3.out.size)⟩
        · have hSok : isS s.1 s.2.1 s.2.2.1 s.2.2.2 = true := HUs.2
          obtain ⟨N, hN⟩ : ∃ N, parV (x, y) L3 j = N := ⟨_, rfl⟩
          have HN := Lib.hid hN
          rw [hN]
          clear hN
          cases ho : onS (x, y) s
          · have hb' : ∀ k, k < j + 1 → ∀ t, L3[k]? = some t → onS (x, y) t = false := fun k hk t ht => by
              by_cases e : k = j
              · subst e; rw [HX.out] at ht; cases ht; exact ho
              · exact hon.out k (by omega) t ht
            have HON := Lib.hid hb'
            have HO : ∀ W, Calls Tryd.prog 40 #[sV s, PtV x y] W fun e w' => e = .returned (.bool false) ∧ Below W.heap.size W w' := fun W => isOn_is _ _ _ _ _ _ false W ho
            clear hb' ho
            cases hcr : crR (x, y) s
            · have HP1 : Hid (parV (x, y) L3 (j + 1) = N) := Lib.hid (by rw [parV_step HX.out, if_neg (by rw [hcr]; decide)]; exact HN.out)
              have HC : ∀ W, Calls Tryd.prog 41 #[sV s, PtV x y] W fun e w' => e = .returned (.bool false) ∧ Below W.heap.size W w' := fun W => crosses_is _ _ _ _ _ _ W hSok false hcr
              go_wp2_with (first
                | (go_at_call 40; refine (HO _).mono ?_; rintro e w5 ⟨rfl, hb5⟩; have HB5 := Lib.hid (HBA.out.trans (hb5.mono HBA.out.size)); have HP5 := Lib.hid (HPA.out.next hb5); have HE5 := Lib.hid (HEA.out.next hb5); obtain ⟨g0, g1, g2, g3⟩ := HE5.out.c40; obtain ⟨r0, r1⟩ := HP5.out.c20)
                | (go_at_call 41; refine (HC _).mono ?_; rintro e w6 ⟨rfl, hb6⟩; have HB6 := Lib.hid (HB5.out.trans (hb6.mono HB5.out.size))))
              go_roundw
              case rel => exact ⟨j + 1, by omega, by rw [HP1.out], by go_num, HON, HB6⟩
              case measure => simp [intOf]; omega
            · have HP1 : Hid (parV (x, y) L3 (j + 1) = !N) := Lib.hid (by rw [parV_step HX.out, if_pos hcr, HN.out])
              have HC : ∀ W, Calls Tryd.prog 41 #[sV s, PtV x y] W fun e w' => e = .returned (.bool true) ∧ Below W.heap.size W w' := fun W => crosses_is _ _ _ _ _ _ W hSok true hcr
              go_wp2_with (first
                | (go_at_call 40; refine (HO _).mono ?_; rintro e w5 ⟨rfl, hb5⟩; have HB5 := Lib.hid (HBA.out.trans (hb5.mono HBA.out.size)); have HP5 := Lib.hid (HPA.out.next hb5); have HE5 := Lib.hid (HEA.out.next hb5); obtain ⟨g0, g1, g2, g3⟩ := HE5.out.c40; obtain ⟨r0, r1⟩ := HP5.out.c20)
                | (go_at_call 41; refine (HC _).mono ?_; rintro e w6 ⟨rfl, hb6⟩; have HB6 := Lib.hid (HB5.out.trans (hb6.mono HB5.out.size))))
              go_roundw
              case rel => exact ⟨j + 1, by omega, by rw [HP1.out], by go_num, HON, HB6⟩
              case measure => simp [intOf]; omega
          · obtain rfl : z = true := by rw [← HI.out]; exact ins_on HX.out ho
            have HO : ∀ W, Calls Tryd.prog 40 #[sV s, PtV x y] W fun e w' => e = .returned (.bool true) ∧ Below W.heap.size W w' := fun W => isOn_is _ _ _ _ _ _ true W ho
            go_wp2_with (go_at_call 40; refine (HO _).mono ?_; rintro e w5 ⟨rfl, hb5⟩; have HB5 := Lib.hid (HBA.out.trans (hb5.mono HBA.out.size)))
            go_ret
            exact ⟨rfl, HB3.out.trans (HB5.out.mono HB3.out.size)⟩
      · obtain rfl : j = L3.length := by omega
        obtain rfl : parV (x, y) L3 L3.length = z := by rw [← HI.out]; exact (ins_end hon.out).symm
        go_wp2
        go_ret
        exact ⟨rfl, HB3.out.trans (HB.out.mono HB3.out.size)⟩
end Go.Proofs.YtbnjaaegbmhopaaDoor

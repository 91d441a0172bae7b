/- EqualInts of package impl: it goes back to a label (written by gotogen.py). -/
import Derived.Test.YtalghkfkeaogfaaCrypt2
import Derived.WalkMore
import Derived.ScopeJumps
namespace Go.Proofs.Ytalghkfkeaogfaa
open Go.RowKit
set_option linter.unusedVariables false

/-- What holds at every jump. -/
def JumpRel (A A' : Option Addr) (c c' : Nat) (l l' : List Int) (w : World) (a : Act) (w' : World) : Prop :=
  ∃ (j n : Nat) (u6 u7 u8 u9 u10 u11 u12 u13 u14 u15 u16 u17 u18 u19 u20 u21 u22 u23 u24 u25 : Value), a = { tmps := #[.slice A l.length c, .slice A' l'.length c', undef, undef, .bool false, .int .i64 j, u6, u7, u8, u9, u10, u11, u12, u13, u14, u15, u16, u17, u18, u19, u20, u21, u22, u23, u24, u25], defers := [] } ∧ w' = w.drewN n ∧ j ≤ l.length ∧ Hid (l.take j = l'.take j)
set_option maxRecDepth 1000000 in
theorem eqI_any (A A' : Option Addr) (c c' B B' : Nat) (l l' : List Int) (b : Bool) (w : World) (hs : Sees w B .i64 A l) (hs' : Sees w B' .i64 A' l') (hb : decide (l = l') = b) (hl : l.length ≤ 17592186044416) :
    Calls Try.prog 43 #[.slice A l.length c, .slice A' l'.length c'] w fun e w' => e = .returned (.bool b) ∧ Below w.heap.size w w' := by
  have HS := Lib.hid hs; have HS' := Lib.hid hs'; have HE := Lib.hid hb
  clear hs hs' hb
  by_cases hln : l.length = l'.length
  · go_enter Try.func43, Try.ntmps43
    go_wp2
    refine wp_scope_jumps 0 (fun a' w' => JumpRel A A' c c' l l' w a' w') (fun a' _ => l.length - (intOf (a'.tmps.getD 5 undef)).toNat) rfl ?_ ?_
    · by_cases hlt : 0 < l.length
      · obtain ⟨b1, off, x, rfl, hbl, hx, hc⟩ := HS.out.lt hlt
        obtain ⟨b2, off', y, rfl, hbl', hy, hc'⟩ := HS'.out.lt (j := 0) (by omega)
        have HX := Lib.hid hx; have HY := Lib.hid hy; clear hx hy
        have h0 : 0 < l'.length := by omega
        rw [Nat.add_zero] at hc hc'
        by_cases hxy : x = y
        · subst hxy
          go_wp2
          go_step3; go_wp2
          go_quiet (fail)
          go_wp2
          go_step3
          exact ⟨rfl, ⟨0 + 1, _, _, _, _, _, _, _, _, _, _, _, _, _, _, _, _, _, _, _, _, _, by first | rfl | (go_num; rfl) , by first | rfl | simp, by omega, Lib.hid (by rw [List.take_add_one, List.take_add_one, HX.out, HY.out, List.take_zero, List.take_zero])⟩⟩
        · go_wp2
          go_step3; go_wp2
          go_quiet (fail)
          go_wp2
          simp only [Exit.jump]
          go_ret
          have hne : l ≠ l' := fun h => hxy (by subst h; exact Option.some.inj (HX.out.symm.trans HY.out))
          exact ⟨by rw [← HE.out]; simp [hne], below_drewN (Below.refl _ _) _⟩
      · have hjl : 0 = l.length := by omega
        go_wp2
        go_step3; go_wp2
        simp only [Exit.jump]
        go_ret
        have he : l = l' := by rw [List.eq_nil_of_length_eq_zero hjl.symm, List.eq_nil_of_length_eq_zero (hln.symm.trans hjl.symm)]
        exact ⟨by rw [← HE.out]; simp [he], Below.refl _ _⟩
    · rintro a' w' ⟨j, n, u6, u7, u8, u9, u10, u11, u12, u13, u14, u15, u16, u17, u18, u19, u20, u21, u22, u23, u24, u25, rfl, rfl, hj, ht⟩
      by_cases hlt : j < l.length
      · obtain ⟨b1, off, x, rfl, hbl, hx, hc⟩ := HS.out.lt hlt
        obtain ⟨b2, off', y, rfl, hbl', hy, hc'⟩ := HS'.out.lt (j := j) (by omega)
        have HX := Lib.hid hx; have HY := Lib.hid hy; clear hx hy
        by_cases hxy : x = y
        · subst hxy
          go_wp2
          go_quiet (fail)
          go_wp2
          go_step3
          exact ⟨rfl, ⟨j + 1, _, _, _, _, _, _, _, _, _, _, _, _, _, _, _, _, _, _, _, _, _, by first | rfl | (go_num; rfl) , by first | rfl | simp, by omega, Lib.hid (by rw [List.take_add_one, List.take_add_one, HX.out, HY.out, ht.out])⟩, by simp [intOf]; omega⟩
        · go_wp2
          go_quiet (fail)
          go_wp2
          simp only [Exit.jump]
          go_ret
          have hne : l ≠ l' := fun h => hxy (by subst h; exact Option.some.inj (HX.out.symm.trans HY.out))
          exact ⟨by rw [← HE.out]; simp [hne], below_drewN (Below.refl _ _) _⟩
      · have hjl : j = l.length := by omega
        go_wp2
        simp only [Exit.jump]
        go_ret
        have he : l = l' := by have := ht.out; rwa [hjl, List.take_length, hln, List.take_length] at this
        exact ⟨by rw [← HE.out]; simp [he], below_drewN (Below.refl _ _) _⟩
  · go_enter Try.func43, Try.ntmps43
    go_wp2
    refine wp_scope_jumps 0 (fun a' w' => False) (fun _ _ => 0) rfl ?_ (fun a' w' h => h.elim)
    go_wp2
    simp only [Exit.jump]
    go_ret
    have hne : l ≠ l' := fun h => hln (by rw [h])
    exact ⟨by rw [← HE.out]; simp [hne], Below.refl _ _⟩
end Go.Proofs.Ytalghkfkeaogfaa

/- Simpler lines: the model's draws. -/
import Derived.Test.YtpbmngbigdaklaaDoorDrawLine2
import Derived.Test.YtpbmngbigdaklaaDoorDrawSeg
namespace Go.Proofs.YtpbmngbigdaklaaDoor
open Go.ChangeShapes Go.WideShapes Go.ChangeAt Go.RowKit
set_option linter.unusedVariables false

theorem l11Near_any (p : Nat) (w : World) (hc : Cur w p) :
    Calls Tryd.prog 24 #[.pointer (some ⟨p, 0, none⟩)] w (DInt p w (-1) 201) := by
  have HC := Lib.hid hc
  clear hc
  go_enter Tryd.func24, Tryd.ntmps24
  go_wp2_with fail
  refine (ints_made p 8 8 _ [0, 1, 2, 3, 5, 200, 201, -1] (-1) 201 w _ _ rfl (by decide) (by decide) rfl rfl (by decide) HC.out).mono ?_
  rintro e w1 ⟨⟨n, h0, h1, rfl⟩, hc1, hg1⟩
  go_wp2
  go_ret
  exact ⟨⟨n, h0, h1, rfl⟩, hc1, hg1⟩
def GotNear (w : World) (e : Ending) (w' : World) : Prop :=
  ∃ A c l n, e = .returned (.tuple #[.slice A l.length c, .int .i64 n]) ∧ 1 ≤ l.length ∧ (l.length ≤ 11 ∧ l.length ≤ c ∧ (c : Int) ≤ 9223372036854775807) ∧ (-1 ≤ n ∧ n ≤ 201) ∧ SeesE 2 encPoint w' w'.heap.size A l ∧ Below w.heap.size w w'
theorem drawSimplifyLine_any (A : Option Addr) (len cap B : Nat) (w : World) (hc : Code w B A len) :
    Calls Tryd.prog 7 #[.slice A len cap] w (GotNear w) := by
  have HC := Lib.hid hc
  clear hc
  go_enter Tryd.func7, Tryd.ntmps7
  go_wp2_with fail
  refine (new_any A len cap B _ HC.out).mono ?_
  rintro e w1 ⟨p, hp, rfl, hc1, hb1⟩
  have HB1 := Lib.hid hb1
  have hpl := cur_lt hc1
  clear hb1
  go_wp2_with fail
  refine (l6Any_any p _ hc1).mono ?_
  rintro e w2 ⟨A2, c2, l, rfl, h1, h2, hs, hlo, hc2, hg2⟩
  have HS := Lib.hid hs
  have HB2 := Lib.hid (below_grown HB1.out hg2 HB1.out.size hp)
  have HL := Lib.hid hlo
  clear hs hg2 hc1 hlo
  go_wp2_with fail
  refine (l11Near_any p _ hc2).mono ?_
  rintro e w3 ⟨⟨n, h3, h4, rfl⟩, -, hg3⟩
  have HS2 := Lib.hid ((HS.out.kept hg3 (fun a ha => by have := HL.out a ha; omega)).mono hg3.size)
  have HB3 := Lib.hid (below_grown HB2.out hg3 HB2.out.size hp)
  clear hg3 hc2
  go_wp2
  refine bodyPost_ret (v := .tuple #[.slice A2 l.length c2, .int .i64 n]) (by simp [results, Tryd.results7, go_sem]) rfl ?_
  exact ⟨A2, c2, l, n, rfl, h1, h2, ⟨h3, h4⟩, HS2.out, HB3.out⟩
def GotSegPtN (w : World) (e : Ending) (w' : World) : Prop :=
  ∃ a b c d x y n, e = .returned (.tuple #[SegV a b c d, PtV x y, .int .i64 n]) ∧ (-1 ≤ n ∧ n ≤ 201) ∧ Below w.heap.size w w'
set_option maxRecDepth 100000 in
set_option maxHeartbeats 4000000 in
theorem drawIsNear_any (A : Option Addr) (len cap B : Nat) (w : World) (hc : Code w B A len) :
    Calls Tryd.prog 13 #[.slice A len cap] w (GotSegPtN w) := by
  have HC := Lib.hid (code_below hc (((Below.refl B w).alloc hc.2.1 (.cells (SegC 0 0 0 0) 35)).alloc (by simp; have := hc.2.1; omega) (.cells (PtC 0 0) 33)))
  have HB := Lib.hid (Vars.of2 w (SegC 0 0 0 0) (PtC 0 0) 35 33)
  clear hc
  go_enter Tryd.func13, Tryd.ntmps13
  go_wp2_with fail
  refine (new_any A len cap B _ HC.out).mono ?_
  rintro e w1 ⟨p, hp, rfl, hc1, hb1⟩
  have HB1 := Lib.hid (HB.out.next hb1)
  have hp' : w.heap.size + 2 ≤ p := by have := HB.out.2.1; exact Nat.le_trans this hp
  clear HB hb1 hp HC
  go_wp2_with fail
  refine (l5Any_any p _ hc1).mono ?_
  rintro e w2 ⟨⟨a, b, c, d, h64, rfl⟩, hc2, hg2⟩
  have HB2 := Lib.hid ((HB1.out.nextG hg2 (by simpa using hp')).al (.cells (SegC a b c d) 35))
  have HQ2 := Lib.hid (((Pad.start hc1).next hc2 hg2).moreAt w2.heap.size rfl 35 (SegC a b c d))
  have l2 := (HB1.out.nextG hg2 (by simpa using hp')).more2
  clear hc2 hg2 HB1 h64 hc1
  go_wp2_with fail
  refine (l4Any_any p _ HQ2.out.2.1).mono ?_
  rintro e w3 ⟨⟨x, y, hx0, hx1, hy0, hy1, rfl⟩, hc3, hg3⟩
  have HB3 := Lib.hid ((HB2.out.nextG hg3 (by simpa using hp')).al (.cells (PtC x y) 33)).drew
  have HQ3 := Lib.hid ((HQ2.out.next hc3 hg3).moreAt w3.heap.size rfl 33 (PtC x y))
  have l3 := (HB2.out.nextG hg3 (by simpa using hp')).more2
  clear hc3 hg3 HB2 HQ2 hx0 hx1 hy0 hy1
  have n1 : ¬ w.heap.size = w2.heap.size := by omega
  have n2 : ¬ w.heap.size + 1 = w2.heap.size := by omega
  have n3 : ¬ w.heap.size = w3.heap.size := by omega
  have n4 : ¬ w.heap.size + 1 = w3.heap.size := by omega
  have n5 : ¬ w2.heap.size = w.heap.size := by omega
  have n6 : ¬ w2.heap.size = w.heap.size + 1 := by omega
  have n7 : ¬ w3.heap.size = w.heap.size := by omega
  have n8 : ¬ w3.heap.size = w.heap.size + 1 := by omega
  have n0 := HQ3.out.ne 0 1 rfl rfl (by decide)
  go_wp2_with fail
  generalize w3.alloc (.cells (PtC x y) 33) = w4 at HB3 HQ3 ⊢
  have HQd := Lib.hid HQ3.out.drew
  have HK := Lib.hid (And.intro (HQ3.out.c4 0 rfl) (HQ3.out.c2 1 rfl))
  have HKd := Lib.hid (And.intro (HQd.out.c4 0 rfl) (HQd.out.c2 1 rfl))
  go_region_held3 (fun w' => (w'.cell? ⟨w2.heap.size, 0, none⟩ = some (.int .i64 a) ∧ w'.cell? ⟨w2.heap.size, 1, none⟩ = some (.int .i64 b) ∧ w'.cell? ⟨w2.heap.size, 2, none⟩ = some (.int .i64 c) ∧ w'.cell? ⟨w2.heap.size, 3, none⟩ = some (.int .i64 d)) ∧ (w'.cell? ⟨w3.heap.size, 0, none⟩ = some (.int .i64 x) ∧ w'.cell? ⟨w3.heap.size, 1, none⟩ = some (.int .i64 y))) (first | with_reducible exact HK.out | with_reducible exact HKd.out | with_reducible exact HK9.out | (refine ⟨⟨?_, ?_, ?_, ?_⟩, ?_, ?_⟩ <;> simp [go_sem, q0, q1, q2, q3, q4, q5]) | fail) (first
    | (go_at_call 24; refine (l11Near_any p _ HQd.out.2.1).mono ?_; rintro e w9 ⟨⟨n9, u0, u1, rfl⟩, hc9, hg9⟩; have HB9 := Lib.hid (HB3.out.nextG hg9 (by simpa using hp')); have HQ9 := Lib.hid (HQd.out.next hc9 hg9); have HK9 := Lib.hid (And.intro (HQ9.out.c4 0 rfl) (HQ9.out.c2 1 rfl)); obtain ⟨⟨q0, q1, q2, q3⟩, q4, q5⟩ := HK9.out; obtain ⟨j0, j1, j2, j3, j4, j5⟩ := HB9.out.c42p; obtain ⟨g0, g1, g2, g3, g4, g5⟩ : _ ∧ _ ∧ _ ∧ _ ∧ _ ∧ _ := ⟨HB9.out.frz0 0, HB9.out.frz0 1, HB9.out.frz0 2, HB9.out.frz0 3, HB9.out.frozen (w.heap.size + 1) 1 0 rfl rfl, HB9.out.frozen (w.heap.size + 1) 1 1 rfl rfl⟩) | fail)
  all_goals
    go_wp2
    refine bodyPost_ret (v := .tuple #[SegV a b c d, PtV x y, .int .i64 n9]) (by simp [results, Tryd.results13, go_sem, j0, j1, j2, j3, j4, j5]) rfl ?_
    have hbl : Below w.heap.size w w9 := HB9.out.1
    exact ⟨a, b, c, d, x, y, n9, rfl, ⟨u0, u1⟩, by repeat' (first | with_reducible exact hbl | with_reducible exact Nat.le_refl _ | with_reducible exact Nat.le_succ _ | with_reducible refine Below.setCell ?_ ?_ _ | with_reducible refine Below.drew ?_)⟩
end Go.Proofs.YtpbmngbigdaklaaDoor

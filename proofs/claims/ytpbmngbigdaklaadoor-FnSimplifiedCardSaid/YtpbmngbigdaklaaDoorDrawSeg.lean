/- The model's draws of segments. -/
import Derived.Test.YtpbmngbigdaklaaDoorPad
import Derived.Test.YtpbmngbigdaklaaDoorSegS
namespace Go.Proofs.YtpbmngbigdaklaaDoor
open Go.ChangeShapes Go.WideShapes Go.ChangeAt Go.RowKit
set_option linter.unusedVariables false

/-- A segment was drawn. -/
def DSeg (p : Nat) (w : World) (e : Ending) (w' : World) : Prop :=
  (∃ a b c d : Int, (Is64 a ∧ Is64 b ∧ Is64 c ∧ Is64 d) ∧ e = .returned (SegV a b c d)) ∧ Cur w' p ∧ w.grownBy w' (some p)
theorem is64_of {x : Int} (h : 0 ≤ x) (h' : x ≤ 11) : Is64 x := ⟨by omega, by omega⟩
theorem l5Draw_any (p : Nat) (w : World) (hc : Cur w p) :
    Calls Tryd.prog 55 #[.pointer (some ⟨p, 0, none⟩)] w (DSeg p w) := by
  have HP := Lib.hid ((Pad.start hc).more 35 (SegC 0 0 0 0))
  clear hc
  go_enter Tryd.func55, Tryd.ntmps55
  go_wp2_with fail
  refine (l4Draw_any p _ HP.out.2.1).mono ?_
  rintro e w1 ⟨⟨x, y, hx0, hx1, hy0, hy1, rfl⟩, hc1, hg1⟩
  have HP1 := Lib.hid ((HP.out.next hc1 hg1).more 33 (PtC x y))
  clear hc1 hg1 HP
  go_upto_region 2 with fail
  go_cut [4] (fun s4 wx => Hid (∃ b4 n, s4 = .pointer (some ⟨b4, 0, none⟩) ∧ 0 ≤ n ∧ n ≤ 11 ∧ Pad p w wx [(w.heap.size, SegC 0 0 0 0), (w1.heap.size, PtC x y), (b4, PtC n y)]))
  case first =>
    have k := HP1.out.drew.c2 1 rfl
    go_region_held3 (fun w' => w'.cell? ⟨w1.heap.size, 0, none⟩ = some (.int .i64 x) ∧ w'.cell? ⟨w1.heap.size, 1, none⟩ = some (.int .i64 y)) (first | with_reducible exact k | with_reducible exact HP9.out.c2 1 rfl | with_reducible exact (HP9.out.al _).c2 1 rfl | with_reducible exact (HP1.out.al _).drew.c2 1 rfl | with_reducible exact (HP9.out.set2 2 0 rfl _ _).c2 1 rfl) (first
      | (go_at_call 45; refine (below_any p 12 _ (by decide) (by decide) (by first | exact HP1.out.drew.2.1 | exact (HP1.out.al _).drew.2.1)).mono ?_; rintro e w9 ⟨⟨n, hn0, hn1, rfl⟩, hc9, hg9⟩; (first | have HP9 := Lib.hid (HP1.out.drew.next hc9 hg9) | have HP9 := Lib.hid ((HP1.out.moreAt (w1.heap.size + 1) (by simp) _ _).drew.next hc9 hg9)); clear hc9 hg9; (first | (obtain ⟨q0, q1⟩ := HP9.out.c2 2 rfl; obtain ⟨f0, f1⟩ := HP9.out.f2 2 rfl) | skip)) | fail)
    all_goals
      go_wp2_with fail
      go_meet
      first
        | exact Lib.hid ⟨_, _, rfl, hn0, hn1, HP9.out.more _ _⟩
        | exact Lib.hid ⟨_, _, rfl, hn0, hn1, HP9.out.set2 2 0 rfl _ _⟩
  case rest =>
  obtain ⟨b4, n, rfl, hn0, hn1, hp2⟩ := hcut.out
  have HP2 := Lib.hid hp2
  clear hp2 hcut HP1
  go_wp2_with fail
  refine (once_any p 3 _ (by decide) (by decide) HP2.out.2.1).mono ?_
  rintro e w3 ⟨⟨k, rfl⟩, hc3, hg3⟩
  have HP3 := Lib.hid (HP2.out.next hc3 hg3)
  clear hc3 hg3 HP2
  cases k
  · go_wp2_with fail
    refine (below_any p 12 _ (by decide) (by decide) HP3.out.2.1).mono ?_
    rintro e w4 ⟨⟨m, hm0, hm1, rfl⟩, hc4, hg4⟩
    have HP4 := Lib.hid (HP3.out.next hc4 hg4)
    clear hc4 hg4 HP3
    have n1 := HP4.out.ne 1 2 rfl rfl (by decide)
    have n2 := HP4.out.ne 0 1 rfl rfl (by decide)
    have n3 := HP4.out.ne 0 2 rfl rfl (by decide)
    obtain ⟨k0, k1⟩ := HP4.out.c2 1 rfl
    obtain ⟨k2, k3⟩ := HP4.out.c2 2 rfl
    obtain ⟨f0, f1⟩ := HP4.out.f2 2 rfl
    obtain ⟨g0, g1, g2, g3⟩ := HP4.out.f4 0 rfl
    obtain ⟨j0, j1, j2, j3⟩ := HP4.out.c4 0 rfl
    go_wp2
    refine bodyPost_ret (v := SegV x y n m) (by simp [results, Tryd.results55, go_sem, j0, j1, j2, j3]) rfl ?_
    have h := (HP4.out.set 2 1 rfl (.int .i64 m)).set4 0 rfl (.int .i64 x) (.int .i64 y) (.int .i64 n) (.int .i64 m)
    exact ⟨⟨x, y, n, m, ⟨is64_of hx0 hx1, is64_of hy0 hy1, is64_of hn0 (by omega), is64_of hm0 (by omega)⟩, rfl⟩, h.out.1, h.out.2⟩
  · have n2 := HP3.out.ne 0 1 rfl rfl (by decide)
    have n3 := HP3.out.ne 0 2 rfl rfl (by decide)
    obtain ⟨k0, k1⟩ := HP3.out.c2 1 rfl
    obtain ⟨k2, k3⟩ := HP3.out.c2 2 rfl
    obtain ⟨g0, g1, g2, g3⟩ := HP3.out.f4 0 rfl
    obtain ⟨j0, j1, j2, j3⟩ := HP3.out.c4 0 rfl
    go_wp2
    refine bodyPost_ret (v := SegV x y n y) (by simp [results, Tryd.results55, go_sem, j0, j1, j2, j3]) rfl ?_
    have h := HP3.out.set4 0 rfl (.int .i64 x) (.int .i64 y) (.int .i64 n) (.int .i64 y)
    exact ⟨⟨x, y, n, y, ⟨is64_of hx0 hx1, is64_of hy0 hy1, is64_of hn0 (by omega), is64_of hy0 hy1⟩, rfl⟩, h.out.1, h.out.2⟩
theorem l5Any_any (p : Nat) (w : World) (hc : Cur w p) :
    Calls Tryd.prog 34 #[.pointer (some ⟨p, 0, none⟩)] w (DSeg p w) := by
  have HP := Lib.hid ((Pad.start hc).more 35 (SegC 0 0 0 0))
  clear hc
  go_enter Tryd.func34, Tryd.ntmps34
  go_wp2_with fail
  refine (l5Draw_any p _ HP.out.2.1).mono ?_
  rintro e w1 ⟨⟨a, b, c, d, h64, rfl⟩, hc1, hg1⟩
  have H64 := Lib.hid h64
  have HP1 := Lib.hid ((HP.out.next hc1 hg1).more 35 (SegC a b c d))
  clear hc1 hg1 HP h64
  go_wp2_with fail
  refine (once_any p 9 _ (by decide) (by decide) HP1.out.2.1).mono ?_
  rintro e w2 ⟨⟨k, rfl⟩, hc2, hg2⟩
  have HP2 := Lib.hid (HP1.out.next hc2 hg2)
  clear hc2 hg2 HP1
  cases k
  · have n1 := HP2.out.ne 0 1 rfl rfl (by decide)
    obtain ⟨k0, k1, k2, k3⟩ := HP2.out.c4 1 rfl
    obtain ⟨g0, g1, g2, g3⟩ := HP2.out.f4 0 rfl
    obtain ⟨j0, j1, j2, j3⟩ := HP2.out.c4 0 rfl
    go_wp2
    refine bodyPost_ret (v := SegV a b c d) (by simp [results, Tryd.results34, go_sem, j0, j1, j2, j3]) rfl ?_
    have h := HP2.out.set4 0 rfl (.int .i64 a) (.int .i64 b) (.int .i64 c) (.int .i64 d)
    exact ⟨⟨a, b, c, d, H64.out, rfl⟩, h.out.1, h.out.2⟩
  · go_wp2_with fail
    refine (l4Any_any p _ HP2.out.2.1).mono ?_
    rintro e w3 ⟨⟨x, y, hx0, hx1, hy0, hy1, rfl⟩, hc3, hg3⟩
    have HP3 := Lib.hid (HP2.out.next hc3 hg3)
    clear hc3 hg3 HP2
    have n1 := HP3.out.ne 0 1 rfl rfl (by decide)
    obtain ⟨k0, k1, k2, k3⟩ := HP3.out.c4 1 rfl
    obtain ⟨f0, f1, f2, f3⟩ := HP3.out.f4 1 rfl
    obtain ⟨g0, g1, g2, g3⟩ := HP3.out.f4 0 rfl
    obtain ⟨j0, j1, j2, j3⟩ := HP3.out.c4 0 rfl
    go_wp2
    refine bodyPost_ret (v := SegV x y c d) (by simp [results, Tryd.results34, go_sem, j0, j1, j2, j3]) rfl ?_
    have h := (HP3.out.set2 1 0 rfl (.int .i64 x) (.int .i64 y)).set4 0 rfl (.int .i64 x) (.int .i64 y) (.int .i64 c) (.int .i64 d)
    exact ⟨⟨x, y, c, d, ⟨⟨hx0, hx1⟩, ⟨hy0, hy1⟩, H64.out.2.2.1, H64.out.2.2.2⟩, rfl⟩, h.out.1, h.out.2⟩
theorem below_set2 {B : Nat} {w w' : World} (h : Below B w w') {b i j : Nat} (hb : B ≤ b) (u v : Value) : Below B w ((w'.setCell ⟨b, i, none⟩ u).setCell ⟨b, j, none⟩ v) := (h.setCell hb u).setCell hb v
theorem below_set4 {B : Nat} {w w' : World} (h : Below B w w') {b i j k l : Nat} (hb : B ≤ b) (u v x y : Value) :
    Below B w ((((w'.setCell ⟨b, i, none⟩ u).setCell ⟨b, j, none⟩ v).setCell ⟨b, k, none⟩ x).setCell ⟨b, l, none⟩ y) := (((h.setCell hb u).setCell hb v).setCell hb x).setCell hb y
/-- Whole draws. -/
def GotSeg2 (w : World) (e : Ending) (w' : World) : Prop :=
  (∃ a b c d p q r s : Int, e = .returned (.tuple #[SegV a b c d, SegV p q r s])) ∧ Below w.heap.size w w'
def GotSegPt (w : World) (e : Ending) (w' : World) : Prop :=
  (∃ a b c d x y : Int, e = .returned (.tuple #[SegV a b c d, PtV x y])) ∧ Below w.heap.size w w'
end Go.Proofs.YtpbmngbigdaklaaDoor

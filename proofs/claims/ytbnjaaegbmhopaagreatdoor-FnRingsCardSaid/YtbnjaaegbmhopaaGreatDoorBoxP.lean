/- Boxes: bounds, picked one by one along a text, in package impl. -/
import Derived.Test.YtbnjaaegbmhopaaGreatDoorBoxV
import Derived.Test.YtbnjaaegbmhopaaGreatDoorOneVar
import Derived.Lib.OthersKept
import Derived.Deep.RegionHeld3
import Derived.Deep.DeepCutAuto
namespace Go.Proofs.YtbnjaaegbmhopaaGreatDoor
open Go.ChangeShapes Go.WideShapes Go.ChangeAt Go.RowKit
set_option linter.unusedVariables false

section
variable {w0 w w' : World} {l : List (Array Value)} {m b k : Nat} {cs : Array Value} {s s' : ByteArray} {p p' : Nat}
/-- An iterator of a text that is ranged over moves on: what lies elsewhere stays. -/
theorem Vars.iter (h : Vars w0 w l) (hk : w0.heap.size + l.length ≤ k) (s : ByteArray) (p : Nat) : Vars w0 (w.iterAt k s p) l := by
  refine ⟨Lib.below_iterAt h.1 (by omega) s p, by rw [Lib.iterAt_size]; exact h.2.1, fun j c hj => ?_⟩
  have hl : j < l.length := (List.getElem?_eq_some_iff.1 hj).1
  obtain ⟨T, h3⟩ := h.2.2 j c hj
  exact ⟨T, (Lib.iterAt_other w k _ s p (by omega)).trans h3⟩
theorem OneV.iter (h : OneV m w b cs) (hk : ¬ b = k) (s : ByteArray) (p : Nat) : OneV m (w.iterAt k s p) b cs := by
  obtain ⟨h1, T, h2⟩ := h
  exact ⟨h1, T, (Lib.iterAt_other w k b s p hk).trans h2⟩
theorem Vars.putB3 {w0 : World} {cs cs' cs'' : Array Value} (h : Vars w0 w [cs, cs', cs'']) (hb : w0.heap.size + 3 ≤ b) (u0 u1 u2 u3 : Value) : Vars w0 ((((w.setCell ⟨b, 0, none⟩ u0).setCell ⟨b, 1, none⟩ u1).setCell ⟨b, 2, none⟩ u2).setCell ⟨b, 3, none⟩ u3) [cs, cs', cs''] :=
  (((h.put3 hb 0 u0).put3 hb 1 u1).put3 hb 2 u2).put3 hb 3 u3
theorem OneV.new2 (w : World) (hz : m ≤ w.heap.size) (o : Obj) (cs : Array Value) (T : TypeId) : OneV m ((w.alloc o).alloc (.cells cs T)) (w.heap.size + 1) cs := by
  have h := OneV.new (m := m) (w.alloc o) (by simp; omega) cs T
  simpa using h
theorem OneV.le (h : OneV m w b cs) : m ≤ b := h.1
/-- Two variables of the call's own, apart. -/
def Pair (w0 w : World) (s7 s8 : Value) (c7 c8 : Array Value) : Prop :=
  ∃ b7 b8, s7 = .pointer (some ⟨b7, 0, none⟩) ∧ s8 = .pointer (some ⟨b8, 0, none⟩) ∧ ¬ b7 = b8 ∧ OneV (w0.heap.size + 3) w b7 c7 ∧ OneV (w0.heap.size + 3) w b8 c8
section
variable {w0 : World} {b7 b8 : Nat} {x y z c7 c8 : Array Value} {o0 o1 o2 o3 p0 p1 p2 p3 q0 q1 q2 q3 r0 r1 r2 r3 : Value}
theorem pair_V (h : Vars w0 w [x, y, z]) (h7 : OneV (w0.heap.size + 3) w b7 c7) (h8 : OneV (w0.heap.size + 3) w b8 c8) (hn : ¬ b7 = b8) :
    Hid (Vars w0 w [x, y, z]) ∧ Hid (Pair w0 w (.pointer (some ⟨b7, 0, none⟩)) (.pointer (some ⟨b8, 0, none⟩)) c7 c8) := ⟨Lib.hid h, Lib.hid ⟨_, _, rfl, rfl, hn, h7, h8⟩⟩
theorem pair_U (h : Vars w0 w [x, y, z]) (h7 : OneV (w0.heap.size + 3) w b7 c7) (h8 : OneV (w0.heap.size + 3) w b8 #[o0, o1, o2, o3]) (hn : ¬ b7 = b8) :
    Hid (Vars w0 ((((w.setCell ⟨b8, 0, none⟩ p0).setCell ⟨b8, 1, none⟩ p1).setCell ⟨b8, 2, none⟩ p2).setCell ⟨b8, 3, none⟩ p3) [x, y, z]) ∧
    Hid (Pair w0 ((((w.setCell ⟨b8, 0, none⟩ p0).setCell ⟨b8, 1, none⟩ p1).setCell ⟨b8, 2, none⟩ p2).setCell ⟨b8, 3, none⟩ p3) (.pointer (some ⟨b7, 0, none⟩)) (.pointer (some ⟨b8, 0, none⟩)) c7 #[p0, p1, p2, p3]) :=
  pair_V (h.putB3 h8.le _ _ _ _) (h7.other4 hn _ _ _ _) (h8.set4 _ _ _ _) hn
theorem pair_T (h : Vars w0 w [x, y, z]) (h7 : OneV (w0.heap.size + 3) w b7 #[q0, q1, q2, q3]) (h8 : OneV (w0.heap.size + 3) w b8 #[o0, o1, o2, o3]) (hn : ¬ b7 = b8) :
    Hid (Vars w0 ((((((((w.setCell ⟨b7, 0, none⟩ r0).setCell ⟨b7, 1, none⟩ r1).setCell ⟨b7, 2, none⟩ r2).setCell ⟨b7, 3, none⟩ r3).setCell ⟨b8, 0, none⟩ p0).setCell ⟨b8, 1, none⟩ p1).setCell ⟨b8, 2, none⟩ p2).setCell ⟨b8, 3, none⟩ p3) [x, y, z]) ∧
    Hid (Pair w0 ((((((((w.setCell ⟨b7, 0, none⟩ r0).setCell ⟨b7, 1, none⟩ r1).setCell ⟨b7, 2, none⟩ r2).setCell ⟨b7, 3, none⟩ r3).setCell ⟨b8, 0, none⟩ p0).setCell ⟨b8, 1, none⟩ p1).setCell ⟨b8, 2, none⟩ p2).setCell ⟨b8, 3, none⟩ p3) (.pointer (some ⟨b7, 0, none⟩)) (.pointer (some ⟨b8, 0, none⟩)) #[r0, r1, r2, r3] #[p0, p1, p2, p3]) :=
  pair_U (h.putB3 h7.le _ _ _ _) (h7.set4 _ _ _ _) (h8.other4 (fun e => hn e.symm) _ _ _ _) hn
end
/-- Where an iterator is. -/
def ItAt (w : World) (k : Nat) (s : ByteArray) (p : Nat) : Prop := w.heap[k]? = some (.stringIter s p)
theorem ItAt.lt (h : ItAt w k s p) : k < w.heap.size := (Array.getElem?_eq_some_iff.1 h).1
theorem ItAt.next (h : ItAt w k s p) (hb : Below w.heap.size w w') : ItAt w' k s p := (hb.block k h.lt).trans h
theorem ItAt.drew (h : ItAt w k s p) : ItAt w.drew k s p := h
theorem ItAt.al (h : ItAt w k s p) (o : Obj) : ItAt (w.alloc o) k s p := h.next ((Below.refl _ _).alloc (Nat.le_refl _) o)
theorem ItAt.put (h : ItAt w k s p) {c : Nat} (hn : ¬ c = k) (i : Nat) (v : Value) : ItAt (w.setCell ⟨c, i, none⟩ v) k s p := (Below.heap_setCell _ _ _ _ (by simp; omega)).trans h
theorem ItAt.moved (h : ItAt w k s p) (p' : Nat) : ItAt (w.iterAt k s p') k s p' := Lib.iterAt_heap w k s p p' h
end
theorem boundsOf_any (a b c d : Int) (w : World) :
    Calls Tryz.prog 168 #[SegV a b c d] w fun e w' => e = .returned (SegV a b c d) ∧ Below w.heap.size w w' := by
  go_enter Tryz.func168, Tryz.ntmps168
  go_wp2
  refine bodyPost_ret (v := SegV a b c d) (by simp [results, Tryz.results168, go_sem]) rfl ⟨rfl, ?_⟩
  exact (Vars.of2 w (SegC a b c d) (SegC a b c d) 123 215).1
theorem boxB_any (a b c d : Int) (w : World) :
    Calls Tryz.prog 170 #[SegV a b c d] w fun e w' => e = .returned (SegV a b c d) ∧ Below w.heap.size w w' := by
  go_enter Tryz.func170, Tryz.ntmps170
  go_wp2
  refine bodyPost_ret (v := SegV a b c d) (by simp [results, Tryz.results170, go_sem]) rfl ⟨rfl, ?_⟩
  exact (Vars.of2 w (SegC a b c d) (SegC a b c d) 215 123).1
/-- The runes that lead outward. -/
abbrev outS : ByteArray := ⟨#[60, 60, 62, 62]⟩
/-- The first j bounds are done. -/
def pkC (f g : Int → Int → Int) (a b c d p q r s : Int) : Nat → Array Value
  | 0 => SegC a b c d
  | 1 => SegC (f a p) b c d
  | 2 => SegC (f a p) (f b q) c d
  | 3 => SegC (f a p) (f b q) (g c r) d
  | _ => SegC (f a p) (f b q) (g c r) (g d s)
set_option maxRecDepth 100000 in
set_option maxHeartbeats 8000000 in
theorem pick_lo (a b c d p q r s : Int) (w : World) :
    Calls Tryz.prog 155 #[SegV a b c d, SegV p q r s, .int .i32 60] w fun e w' => e = .returned (SegV (min a p) (min b q) (max c r) (max d s)) ∧ Below w.heap.size w w' := by
  have HV0 := Lib.hid (Vars.of3 w (SegC a b c d) (SegC p q r s) (SegC 0 0 0 0) 123 123 123)
  go_enter Tryz.func155, Tryz.ntmps155
  go_upto_region 1 with fail
  generalize (((w.alloc (.cells (SegC a b c d) 123)).alloc (.cells (SegC p q r s) 123)).alloc (.cells (SegC 0 0 0 0) 123)) = wz at HV0 ⊢
  go_cut [7, 8] (fun s7 s8 wx => Hid (Vars w wx [SegC a b c d, SegC p q r s, SegC 0 0 0 0]) ∧ Hid (Pair w wx s7 s8 (SegC a b c d) (SegC p q r s)))
  case first =>
    have HKD := Lib.hid HV0.out.drew.c44
    obtain ⟨k0, k1, k2, k3, k4, k5, k6, k7⟩ := HV0.out.c44
    go_region_held3 (fun w' => w'.cell? ⟨w.heap.size, 0, none⟩ = some (.int .i64 a) ∧ w'.cell? ⟨w.heap.size, 1, none⟩ = some (.int .i64 b) ∧ w'.cell? ⟨w.heap.size, 2, none⟩ = some (.int .i64 c) ∧ w'.cell? ⟨w.heap.size, 3, none⟩ = some (.int .i64 d) ∧ w'.cell? ⟨w.heap.size + 1, 0, none⟩ = some (.int .i64 p) ∧ w'.cell? ⟨w.heap.size + 1, 1, none⟩ = some (.int .i64 q) ∧ w'.cell? ⟨w.heap.size + 1, 2, none⟩ = some (.int .i64 r) ∧ w'.cell? ⟨w.heap.size + 1, 3, none⟩ = some (.int .i64 s)) (first | with_reducible exact ⟨k0, k1, k2, k3, k4, k5, k6, k7⟩ | with_reducible exact HKD.out | with_reducible exact HK.out | with_reducible exact (HV.out.al _).c44 | with_reducible exact ((HV.out.al _).al _).c44 | with_reducible exact ((HV0.out.al _).drew).c44 | with_reducible exact (HV0.out.drew.al _).c44 | with_reducible exact (((HV0.out.al _).al _).drew).c44 | with_reducible exact ((HV0.out.drew.al _).al _).c44 | with_reducible exact (Vars.putB3 HV.out HX.out.le _ _ _ _).c44 | with_reducible exact (Vars.putB3 HV.out HY.out.le _ _ _ _).c44 | with_reducible exact (Vars.putB3 (HV.out.al _) HX.out.le _ _ _ _).c44 | with_reducible exact (Vars.putB3 (Vars.putB3 HV.out HX.out.le _ _ _ _) HY.out.le _ _ _ _).c44 | with_reducible exact (Vars.putB3 (Vars.putB3 HV.out HY.out.le _ _ _ _) HX.out.le _ _ _ _).c44 | with_reducible exact (Vars.putB3 (Vars.putB3 (HV.out.al _) HX.out.le _ _ _ _) HV.out.more3 _ _ _ _).c44 | with_reducible exact (Vars.putB3 (Vars.putB3 (HV.out.al _) HV.out.more3 _ _ _ _) HX.out.le _ _ _ _).c44 | fail) (first
      | (go_at_call 168; refine (boundsOf_any _ _ _ _ _).mono ?_; rintro e w9 ⟨rfl, hb9⟩;
         (first
          | (with_reducible have HX := Lib.hid (OneV.next HX.out hb9); with_reducible have HY := Lib.hid (OneV.next HY.out hb9))
          | (with_reducible have HY := Lib.hid (OneV.next (OneV.new (m := w.heap.size + 3) _ HV.out.more3 _ _) hb9); have hxy := Nat.ne_of_lt HX.out.lt; have hyx := Nat.ne_of_gt HX.out.lt; with_reducible have HX := Lib.hid (OneV.next (OneV.al HX.out _) hb9))
          | (with_reducible have HX := Lib.hid (OneV.next HX.out hb9))
          | (with_reducible have HX := Lib.hid (OneV.next (OneV.al (OneV.new (m := w.heap.size + 3) _ HV0.out.more3 _ _) _).drew hb9); with_reducible have HY := Lib.hid (OneV.next (OneV.drew (OneV.new2 (m := w.heap.size + 3) _ HV0.out.more3 _ _ _)) hb9))
          | (with_reducible have HX := Lib.hid (OneV.next (OneV.al (OneV.new (m := w.heap.size + 3) _ HV.out.more3 _ _) _) hb9); with_reducible have HY := Lib.hid (OneV.next (OneV.new2 (m := w.heap.size + 3) _ HV.out.more3 _ _ _) hb9))
          | (with_reducible have HX := Lib.hid (OneV.next (OneV.drew (OneV.new (m := w.heap.size + 3) _ HV0.out.more3 _ _)) hb9))
          | (with_reducible have HX := Lib.hid (OneV.next (OneV.new (m := w.heap.size + 3) _ HV.out.more3 _ _) hb9))
          | skip);
         with_reducible have HV := Lib.hid (Vars.next (by first | exact HV.out | exact HV.out.al _ | exact (HV.out.al _).al _ | exact HV0.out.drew | exact (HV0.out.al _).drew | exact ((HV0.out.al _).al _).drew) hb9); have HK := Lib.hid HV.out.c44;
         (first | (obtain ⟨x0, x1, x2, x3⟩ := HX.out.c4; obtain ⟨y0, y1, y2, y3⟩ := HX.out.f4) | skip);
         (first | (obtain ⟨u0, u1, u2, u3⟩ := (HX.out.al (.cells (SegC 0 0 0 0) 215)).c4; obtain ⟨v0, v1, v2, v3⟩ := (HX.out.al (.cells (SegC 0 0 0 0) 215)).f4; obtain ⟨m0, m1, m2, m3⟩ := (HX.out.al (.cells (SegC a b c d) 215)).c4; obtain ⟨n0, n1, n2, n3⟩ := (HX.out.al (.cells (SegC a b c d) 215)).f4; have hxw := Nat.ne_of_lt HX.out.lt; have hwx := Nat.ne_of_gt HX.out.lt) | skip);
         (first | (obtain ⟨x4, x5, x6, x7⟩ := HY.out.c4; obtain ⟨y4, y5, y6, y7⟩ := HY.out.f4) | skip))
      | fail)
    all_goals
      go_wp2_with fail
      go_meet
      first
        | with_reducible exact pair_T HV.out HX.out HY.out (by first | exact hxy | simp)
        | with_reducible exact pair_T HV.out HY.out HX.out (by first | exact hyx | simp)
        | with_reducible exact pair_T (HV.out.al _) (HX.out.al _) (OneV.new _ HV.out.more3 _ _) (by first | exact hxw | simp)
        | with_reducible exact pair_U (HV.out.al _) (OneV.new _ HV.out.more3 _ _) (HX.out.al _) (by first | exact hwx | simp)
        | with_reducible exact pair_V ((HV.out.al _).al _) ((OneV.new _ HV.out.more3 _ _).al _) (OneV.new2 _ HV.out.more3 _ _ _) (by simp)
        | with_reducible exact pair_V ((HV.out.al _).al _) (OneV.new2 _ HV.out.more3 _ _ _) ((OneV.new _ HV.out.more3 _ _).al _) (by simp)
  case rest =>
  obtain ⟨HV, HPr⟩ := hcut
  obtain ⟨b7, b8, rfl, rfl, hn, hx7, hx8⟩ := HPr.out
  have H7 := Lib.hid hx7
  have H8 := Lib.hid hx8
  clear HV0 hx7 hx8 HPr
  have hk7 : b7 < wc.heap.size := H7.out.lt
  have hk8 : b8 < wc.heap.size := H8.out.lt
  have hkv := HV.out.more3
  go_wp2
  go_loopg [] 4 (fun g wr => ∃ j : Nat, j + g = 4 ∧ Hid (ItAt wr wc.heap.size outS j) ∧ Hid (Vars w wr [SegC a b c d, SegC p q r s, SegC 0 0 0 0]) ∧ Hid (OneV (w.heap.size + 3) wr b7 (pkC min max a b c d p q r s j)) ∧ Hid (OneV (w.heap.size + 3) wr b8 (SegC p q r s)))
  case atStart => exact ⟨0, by omega, Lib.hid (World.iter_heap _ _ _), Lib.hid (HV.out.al _), Lib.hid (H7.out.al _), Lib.hid (H8.out.al _)⟩
  case round =>
    obtain ⟨j, hjg, HI, HVr, H7r, H8r⟩ := hrel
    clear HV H7 H8
    rcases (by omega : j = 0 ∨ j = 1 ∨ j = 2 ∨ j = 3 ∨ j = 4) with rfl | rfl | rfl | rfl | rfl
    · obtain rfl : gk = 4 := by omega
      have hnx : ∀ ty, (Instr.next (.pointer (some ⟨wc.heap.size, 0, none⟩)) true ty).run Tryz.prog wr = .ok (.tuple #[.bool true, .int .i64 0, .int .i32 60]) (wr.iterAt wc.heap.size outS 1) := fun ty => Lib.run_next_ascii_at wr wc.heap.size outS 0 ty HI.out (by decide) (by decide)
      obtain ⟨wn, hwn⟩ : ∃ wn, wr.iterAt wc.heap.size outS 1 = wn := ⟨_, rfl⟩
      have HI1 : Hid (ItAt wn wc.heap.size outS 1) := Lib.hid (by rw [← hwn]; exact HI.out.moved 1)
      have HV1 : Hid (Vars w wn [SegC a b c d, SegC p q r s, SegC 0 0 0 0]) := Lib.hid (by rw [← hwn]; exact HVr.out.iter hkv _ _)
      have H71 : Hid (OneV (w.heap.size + 3) wn b7 (pkC min max a b c d p q r s 0)) := Lib.hid (by rw [← hwn]; exact OneV.iter H7r.out (by omega) _ _)
      have H81 : Hid (OneV (w.heap.size + 3) wn b8 (SegC p q r s)) := Lib.hid (by rw [← hwn]; exact OneV.iter H8r.out (by omega) _ _)
      rw [hwn] at hnx
      clear hwn HI HVr H7r H8r
      go_wp2_with fail
      obtain ⟨x0, x1, x2, x3⟩ := H71.out.c4
      obtain ⟨y0, y1, y2, y3⟩ := H81.out.c4
      go_region_with (first | (go_at_call 169; refine (minB _ _ _).mono ?_; rintro e w9 ⟨rfl, hb9⟩; have HI9 := Lib.hid (HI1.out.drew.next hb9); have HV9 := Lib.hid (HV1.out.drew.next hb9); have H79 := Lib.hid (H71.out.drew.next hb9); have H89 := Lib.hid (H81.out.drew.next hb9); obtain ⟨x0, x1, x2, x3⟩ := H79.out.c4; obtain ⟨f0, f1, f2, f3⟩ := H79.out.f4) | fail)
      all_goals
        go_wp2
        go_roundg 3
        case measure => omega
        case rel => exact ⟨1, by omega, Lib.hid (HI9.out.put (by omega) 0 _), Lib.hid (HV9.out.put3 H79.out.le 0 _), Lib.hid (H79.out.set 0 _), Lib.hid (H89.out.other (fun e => hn e.symm) 0 _)⟩
    · obtain rfl : gk = 3 := by omega
      have hnx : ∀ ty, (Instr.next (.pointer (some ⟨wc.heap.size, 0, none⟩)) true ty).run Tryz.prog wr = .ok (.tuple #[.bool true, .int .i64 1, .int .i32 60]) (wr.iterAt wc.heap.size outS 2) := fun ty => Lib.run_next_ascii_at wr wc.heap.size outS 1 ty HI.out (by decide) (by decide)
      obtain ⟨wn, hwn⟩ : ∃ wn, wr.iterAt wc.heap.size outS 2 = wn := ⟨_, rfl⟩
      have HI1 : Hid (ItAt wn wc.heap.size outS 2) := Lib.hid (by rw [← hwn]; exact HI.out.moved 2)
      have HV1 : Hid (Vars w wn [SegC a b c d, SegC p q r s, SegC 0 0 0 0]) := Lib.hid (by rw [← hwn]; exact HVr.out.iter hkv _ _)
      have H71 : Hid (OneV (w.heap.size + 3) wn b7 (pkC min max a b c d p q r s 1)) := Lib.hid (by rw [← hwn]; exact OneV.iter H7r.out (by omega) _ _)
      have H81 : Hid (OneV (w.heap.size + 3) wn b8 (SegC p q r s)) := Lib.hid (by rw [← hwn]; exact OneV.iter H8r.out (by omega) _ _)
      rw [hwn] at hnx
      clear hwn HI HVr H7r H8r
      go_wp2_with fail
      obtain ⟨x0, x1, x2, x3⟩ := H71.out.c4
      obtain ⟨y0, y1, y2, y3⟩ := H81.out.c4
      go_region_with (first | (go_at_call 169; refine (minB _ _ _).mono ?_; rintro e w9 ⟨rfl, hb9⟩; have HI9 := Lib.hid (HI1.out.drew.next hb9); have HV9 := Lib.hid (HV1.out.drew.next hb9); have H79 := Lib.hid (H71.out.drew.next hb9); have H89 := Lib.hid (H81.out.drew.next hb9); obtain ⟨x0, x1, x2, x3⟩ := H79.out.c4; obtain ⟨f0, f1, f2, f3⟩ := H79.out.f4) | fail)
      all_goals
        go_wp2
        go_roundg 2
        case measure => omega
        case rel => exact ⟨2, by omega, Lib.hid (HI9.out.put (by omega) 1 _), Lib.hid (HV9.out.put3 H79.out.le 1 _), Lib.hid (H79.out.set 1 _), Lib.hid (H89.out.other (fun e => hn e.symm) 1 _)⟩
    · obtain rfl : gk = 2 := by omega
      have hnx : ∀ ty, (Instr.next (.pointer (some ⟨wc.heap.size, 0, none⟩)) true ty).run Tryz.prog wr = .ok (.tuple #[.bool true, .int .i64 2, .int .i32 62]) (wr.iterAt wc.heap.size outS 3) := fun ty => Lib.run_next_ascii_at wr wc.heap.size outS 2 ty HI.out (by decide) (by decide)
      obtain ⟨wn, hwn⟩ : ∃ wn, wr.iterAt wc.heap.size outS 3 = wn := ⟨_, rfl⟩
      have HI1 : Hid (ItAt wn wc.heap.size outS 3) := Lib.hid (by rw [← hwn]; exact HI.out.moved 3)
      have HV1 : Hid (Vars w wn [SegC a b c d, SegC p q r s, SegC 0 0 0 0]) := Lib.hid (by rw [← hwn]; exact HVr.out.iter hkv _ _)
      have H71 : Hid (OneV (w.heap.size + 3) wn b7 (pkC min max a b c d p q r s 2)) := Lib.hid (by rw [← hwn]; exact OneV.iter H7r.out (by omega) _ _)
      have H81 : Hid (OneV (w.heap.size + 3) wn b8 (SegC p q r s)) := Lib.hid (by rw [← hwn]; exact OneV.iter H8r.out (by omega) _ _)
      rw [hwn] at hnx
      clear hwn HI HVr H7r H8r
      go_wp2_with fail
      obtain ⟨x0, x1, x2, x3⟩ := H71.out.c4
      obtain ⟨y0, y1, y2, y3⟩ := H81.out.c4
      go_region_with (first | (go_at_call 94; refine (maxB _ _ _).mono ?_; rintro e w9 ⟨rfl, hb9⟩; have HI9 := Lib.hid (HI1.out.drew.next hb9); have HV9 := Lib.hid (HV1.out.drew.next hb9); have H79 := Lib.hid (H71.out.drew.next hb9); have H89 := Lib.hid (H81.out.drew.next hb9); obtain ⟨x0, x1, x2, x3⟩ := H79.out.c4; obtain ⟨f0, f1, f2, f3⟩ := H79.out.f4) | fail)
      all_goals
        go_wp2
        go_roundg 1
        case measure => omega
        case rel => exact ⟨3, by omega, Lib.hid (HI9.out.put (by omega) 2 _), Lib.hid (HV9.out.put3 H79.out.le 2 _), Lib.hid (H79.out.set 2 _), Lib.hid (H89.out.other (fun e => hn e.symm) 2 _)⟩
    · obtain rfl : gk = 1 := by omega
      have hnx : ∀ ty, (Instr.next (.pointer (some ⟨wc.heap.size, 0, none⟩)) true ty).run Tryz.prog wr = .ok (.tuple #[.bool true, .int .i64 3, .int .i32 62]) (wr.iterAt wc.heap.size outS 4) := fun ty => Lib.run_next_ascii_at wr wc.heap.size outS 3 ty HI.out (by decide) (by decide)
      obtain ⟨wn, hwn⟩ : ∃ wn, wr.iterAt wc.heap.size outS 4 = wn := ⟨_, rfl⟩
      have HI1 : Hid (ItAt wn wc.heap.size outS 4) := Lib.hid (by rw [← hwn]; exact HI.out.moved 4)
      have HV1 : Hid (Vars w wn [SegC a b c d, SegC p q r s, SegC 0 0 0 0]) := Lib.hid (by rw [← hwn]; exact HVr.out.iter hkv _ _)
      have H71 : Hid (OneV (w.heap.size + 3) wn b7 (pkC min max a b c d p q r s 3)) := Lib.hid (by rw [← hwn]; exact OneV.iter H7r.out (by omega) _ _)
      have H81 : Hid (OneV (w.heap.size + 3) wn b8 (SegC p q r s)) := Lib.hid (by rw [← hwn]; exact OneV.iter H8r.out (by omega) _ _)
      rw [hwn] at hnx
      clear hwn HI HVr H7r H8r
      go_wp2_with fail
      obtain ⟨x0, x1, x2, x3⟩ := H71.out.c4
      obtain ⟨y0, y1, y2, y3⟩ := H81.out.c4
      go_region_with (first | (go_at_call 94; refine (maxB _ _ _).mono ?_; rintro e w9 ⟨rfl, hb9⟩; have HI9 := Lib.hid (HI1.out.drew.next hb9); have HV9 := Lib.hid (HV1.out.drew.next hb9); have H79 := Lib.hid (H71.out.drew.next hb9); have H89 := Lib.hid (H81.out.drew.next hb9); obtain ⟨x0, x1, x2, x3⟩ := H79.out.c4; obtain ⟨f0, f1, f2, f3⟩ := H79.out.f4) | fail)
      all_goals
        go_wp2
        go_roundg 0
        case measure => omega
        case rel => exact ⟨4, by omega, Lib.hid (HI9.out.put (by omega) 3 _), Lib.hid (HV9.out.put3 H79.out.le 3 _), Lib.hid (H79.out.set 3 _), Lib.hid (H89.out.other (fun e => hn e.symm) 3 _)⟩
    · obtain rfl : gk = 0 := by omega
      have hnx : ∀ ty, (Instr.next (.pointer (some ⟨wc.heap.size, 0, none⟩)) true ty).run Tryz.prog wr = .ok (.tuple #[.bool false]) wr := fun ty => Lib.run_next_end_at wr wc.heap.size outS 4 ty HI.out (by decide)
      obtain ⟨x0, x1, x2, x3⟩ := H7r.out.c4
      go_wp2_with fail
      refine (boxB_any _ _ _ _ _).mono ?_
      rintro e w9 ⟨rfl, hb9⟩
      have HV9 := Lib.hid (HVr.out.next hb9)
      clear hb9 x0 x1 x2 x3 HVr H7r H8r HI
      obtain ⟨j0, j1, j2, j3⟩ := HV9.out.c42
      obtain ⟨f0, f1, f2, f3⟩ := HV9.out.fr42
      go_wp2
      refine bodyPost_ret (v := SegV (min a p) (min b q) (max c r) (max d s)) (by simp [results, Tryz.results155, go_sem, j0, j1, j2, j3]) rfl ?_
      exact ⟨rfl, HV9.out.set40 (by omega) _ _ _ _⟩
set_option maxRecDepth 100000 in
set_option maxHeartbeats 8000000 in
theorem pick_hi (a b c d p q r s : Int) (w : World) :
    Calls Tryz.prog 155 #[SegV a b c d, SegV p q r s, .int .i32 62] w fun e w' => e = .returned (SegV (max a p) (max b q) (min c r) (min d s)) ∧ Below w.heap.size w w' := by
  have HV0 := Lib.hid (Vars.of3 w (SegC a b c d) (SegC p q r s) (SegC 0 0 0 0) 123 123 123)
  go_enter Tryz.func155, Tryz.ntmps155
  go_upto_region 1 with fail
  generalize (((w.alloc (.cells (SegC a b c d) 123)).alloc (.cells (SegC p q r s) 123)).alloc (.cells (SegC 0 0 0 0) 123)) = wz at HV0 ⊢
  go_cut [7, 8] (fun s7 s8 wx => Hid (Vars w wx [SegC a b c d, SegC p q r s, SegC 0 0 0 0]) ∧ Hid (Pair w wx s7 s8 (SegC a b c d) (SegC p q r s)))
  case first =>
    have HKD := Lib.hid HV0.out.drew.c44
    obtain ⟨k0, k1, k2, k3, k4, k5, k6, k7⟩ := HV0.out.c44
    go_region_held3 (fun w' => w'.cell? ⟨w.heap.size, 0, none⟩ = some (.int .i64 a) ∧ w'.cell? ⟨w.heap.size, 1, none⟩ = some (.int .i64 b) ∧ w'.cell? ⟨w.heap.size, 2, none⟩ = some (.int .i64 c) ∧ w'.cell? ⟨w.heap.size, 3, none⟩ = some (.int .i64 d) ∧ w'.cell? ⟨w.heap.size + 1, 0, none⟩ = some (.int .i64 p) ∧ w'.cell? ⟨w.heap.size + 1, 1, none⟩ = some (.int .i64 q) ∧ w'.cell? ⟨w.heap.size + 1, 2, none⟩ = some (.int .i64 r) ∧ w'.cell? ⟨w.heap.size + 1, 3, none⟩ = some (.int .i64 s)) (first | with_reducible exact ⟨k0, k1, k2, k3, k4, k5, k6, k7⟩ | with_reducible exact HKD.out | with_reducible exact HK.out | with_reducible exact (HV.out.al _).c44 | with_reducible exact ((HV.out.al _).al _).c44 | with_reducible exact ((HV0.out.al _).drew).c44 | with_reducible exact (HV0.out.drew.al _).c44 | with_reducible exact (((HV0.out.al _).al _).drew).c44 | with_reducible exact ((HV0.out.drew.al _).al _).c44 | with_reducible exact (Vars.putB3 HV.out HX.out.le _ _ _ _).c44 | with_reducible exact (Vars.putB3 HV.out HY.out.le _ _ _ _).c44 | with_reducible exact (Vars.putB3 (HV.out.al _) HX.out.le _ _ _ _).c44 | with_reducible exact (Vars.putB3 (Vars.putB3 HV.out HX.out.le _ _ _ _) HY.out.le _ _ _ _).c44 | with_reducible exact (Vars.putB3 (Vars.putB3 HV.out HY.out.le _ _ _ _) HX.out.le _ _ _ _).c44 | with_reducible exact (Vars.putB3 (Vars.putB3 (HV.out.al _) HX.out.le _ _ _ _) HV.out.more3 _ _ _ _).c44 | with_reducible exact (Vars.putB3 (Vars.putB3 (HV.out.al _) HV.out.more3 _ _ _ _) HX.out.le _ _ _ _).c44 | fail) (first
      | (go_at_call 168; refine (boundsOf_any _ _ _ _ _).mono ?_; rintro e w9 ⟨rfl, hb9⟩;
         (first
          | (with_reducible have HX := Lib.hid (OneV.next HX.out hb9); with_reducible have HY := Lib.hid (OneV.next HY.out hb9))
          | (with_reducible have HY := Lib.hid (OneV.next (OneV.new (m := w.heap.size + 3) _ HV.out.more3 _ _) hb9); have hxy := Nat.ne_of_lt HX.out.lt; have hyx := Nat.ne_of_gt HX.out.lt; with_reducible have HX := Lib.hid (OneV.next (OneV.al HX.out _) hb9))
          | (with_reducible have HX := Lib.hid (OneV.next HX.out hb9))
          | (with_reducible have HX := Lib.hid (OneV.next (OneV.al (OneV.new (m := w.heap.size + 3) _ HV0.out.more3 _ _) _).drew hb9); with_reducible have HY := Lib.hid (OneV.next (OneV.drew (OneV.new2 (m := w.heap.size + 3) _ HV0.out.more3 _ _ _)) hb9))
          | (with_reducible have HX := Lib.hid (OneV.next (OneV.al (OneV.new (m := w.heap.size + 3) _ HV.out.more3 _ _) _) hb9); with_reducible have HY := Lib.hid (OneV.next (OneV.new2 (m := w.heap.size + 3) _ HV.out.more3 _ _ _) hb9))
          | (with_reducible have HX := Lib.hid (OneV.next (OneV.drew (OneV.new (m := w.heap.size + 3) _ HV0.out.more3 _ _)) hb9))
          | (with_reducible have HX := Lib.hid (OneV.next (OneV.new (m := w.heap.size + 3) _ HV.out.more3 _ _) hb9))
          | skip);
         with_reducible have HV := Lib.hid (Vars.next (by first | exact HV.out | exact HV.out.al _ | exact (HV.out.al _).al _ | exact HV0.out.drew | exact (HV0.out.al _).drew | exact ((HV0.out.al _).al _).drew) hb9); have HK := Lib.hid HV.out.c44;
         (first | (obtain ⟨x0, x1, x2, x3⟩ := HX.out.c4; obtain ⟨y0, y1, y2, y3⟩ := HX.out.f4) | skip);
         (first | (obtain ⟨u0, u1, u2, u3⟩ := (HX.out.al (.cells (SegC 0 0 0 0) 215)).c4; obtain ⟨v0, v1, v2, v3⟩ := (HX.out.al (.cells (SegC 0 0 0 0) 215)).f4; obtain ⟨m0, m1, m2, m3⟩ := (HX.out.al (.cells (SegC a b c d) 215)).c4; obtain ⟨n0, n1, n2, n3⟩ := (HX.out.al (.cells (SegC a b c d) 215)).f4; have hxw := Nat.ne_of_lt HX.out.lt; have hwx := Nat.ne_of_gt HX.out.lt) | skip);
         (first | (obtain ⟨x4, x5, x6, x7⟩ := HY.out.c4; obtain ⟨y4, y5, y6, y7⟩ := HY.out.f4) | skip))
      | fail)
    all_goals
      go_wp2_with fail
      go_meet
      first
        | with_reducible exact pair_T HV.out HX.out HY.out (by first | exact hxy | simp)
        | with_reducible exact pair_T HV.out HY.out HX.out (by first | exact hyx | simp)
        | with_reducible exact pair_T (HV.out.al _) (HX.out.al _) (OneV.new _ HV.out.more3 _ _) (by first | exact hxw | simp)
        | with_reducible exact pair_U (HV.out.al _) (OneV.new _ HV.out.more3 _ _) (HX.out.al _) (by first | exact hwx | simp)
        | with_reducible exact pair_V ((HV.out.al _).al _) ((OneV.new _ HV.out.more3 _ _).al _) (OneV.new2 _ HV.out.more3 _ _ _) (by simp)
        | with_reducible exact pair_V ((HV.out.al _).al _) (OneV.new2 _ HV.out.more3 _ _ _) ((OneV.new _ HV.out.more3 _ _).al _) (by simp)
  case rest =>
  obtain ⟨HV, HPr⟩ := hcut
  obtain ⟨b7, b8, rfl, rfl, hn, hx7, hx8⟩ := HPr.out
  have H7 := Lib.hid hx7
  have H8 := Lib.hid hx8
  clear HV0 hx7 hx8 HPr
  have hk7 : b7 < wc.heap.size := H7.out.lt
  have hk8 : b8 < wc.heap.size := H8.out.lt
  have hkv := HV.out.more3
  go_wp2
  go_loopg [] 4 (fun g wr => ∃ j : Nat, j + g = 4 ∧ Hid (ItAt wr wc.heap.size outS j) ∧ Hid (Vars w wr [SegC a b c d, SegC p q r s, SegC 0 0 0 0]) ∧ Hid (OneV (w.heap.size + 3) wr b7 (pkC max min a b c d p q r s j)) ∧ Hid (OneV (w.heap.size + 3) wr b8 (SegC p q r s)))
  case atStart => exact ⟨0, by omega, Lib.hid (World.iter_heap _ _ _), Lib.hid (HV.out.al _), Lib.hid (H7.out.al _), Lib.hid (H8.out.al _)⟩
  case round =>
    obtain ⟨j, hjg, HI, HVr, H7r, H8r⟩ := hrel
    clear HV H7 H8
    rcases (by omega : j = 0 ∨ j = 1 ∨ j = 2 ∨ j = 3 ∨ j = 4) with rfl | rfl | rfl | rfl | rfl
    · obtain rfl : gk = 4 := by omega
      have hnx : ∀ ty, (Instr.next (.pointer (some ⟨wc.heap.size, 0, none⟩)) true ty).run Tryz.prog wr = .ok (.tuple #[.bool true, .int .i64 0, .int .i32 60]) (wr.iterAt wc.heap.size outS 1) := fun ty => Lib.run_next_ascii_at wr wc.heap.size outS 0 ty HI.out (by decide) (by decide)
      obtain ⟨wn, hwn⟩ : ∃ wn, wr.iterAt wc.heap.size outS 1 = wn := ⟨_, rfl⟩
      have HI1 : Hid (ItAt wn wc.heap.size outS 1) := Lib.hid (by rw [← hwn]; exact HI.out.moved 1)
      have HV1 : Hid (Vars w wn [SegC a b c d, SegC p q r s, SegC 0 0 0 0]) := Lib.hid (by rw [← hwn]; exact HVr.out.iter hkv _ _)
      have H71 : Hid (OneV (w.heap.size + 3) wn b7 (pkC max min a b c d p q r s 0)) := Lib.hid (by rw [← hwn]; exact OneV.iter H7r.out (by omega) _ _)
      have H81 : Hid (OneV (w.heap.size + 3) wn b8 (SegC p q r s)) := Lib.hid (by rw [← hwn]; exact OneV.iter H8r.out (by omega) _ _)
      rw [hwn] at hnx
      clear hwn HI HVr H7r H8r
      go_wp2_with fail
      obtain ⟨x0, x1, x2, x3⟩ := H71.out.c4
      obtain ⟨y0, y1, y2, y3⟩ := H81.out.c4
      go_region_with (first | (go_at_call 94; refine (maxB _ _ _).mono ?_; rintro e w9 ⟨rfl, hb9⟩; have HI9 := Lib.hid (HI1.out.drew.next hb9); have HV9 := Lib.hid (HV1.out.drew.next hb9); have H79 := Lib.hid (H71.out.drew.next hb9); have H89 := Lib.hid (H81.out.drew.next hb9); obtain ⟨x0, x1, x2, x3⟩ := H79.out.c4; obtain ⟨f0, f1, f2, f3⟩ := H79.out.f4) | fail)
      all_goals
        go_wp2
        go_roundg 3
        case measure => omega
        case rel => exact ⟨1, by omega, Lib.hid (HI9.out.put (by omega) 0 _), Lib.hid (HV9.out.put3 H79.out.le 0 _), Lib.hid (H79.out.set 0 _), Lib.hid (H89.out.other (fun e => hn e.symm) 0 _)⟩
    · obtain rfl : gk = 3 := by omega
      have hnx : ∀ ty, (Instr.next (.pointer (some ⟨wc.heap.size, 0, none⟩)) true ty).run Tryz.prog wr = .ok (.tuple #[.bool true, .int .i64 1, .int .i32 60]) (wr.iterAt wc.heap.size outS 2) := fun ty => Lib.run_next_ascii_at wr wc.heap.size outS 1 ty HI.out (by decide) (by decide)
      obtain ⟨wn, hwn⟩ : ∃ wn, wr.iterAt wc.heap.size outS 2 = wn := ⟨_, rfl⟩
      have HI1 : Hid (ItAt wn wc.heap.size outS 2) := Lib.hid (by rw [← hwn]; exact HI.out.moved 2)
      have HV1 : Hid (Vars w wn [SegC a b c d, SegC p q r s, SegC 0 0 0 0]) := Lib.hid (by rw [← hwn]; exact HVr.out.iter hkv _ _)
      have H71 : Hid (OneV (w.heap.size + 3) wn b7 (pkC max min a b c d p q r s 1)) := Lib.hid (by rw [← hwn]; exact OneV.iter H7r.out (by omega) _ _)
      have H81 : Hid (OneV (w.heap.size + 3) wn b8 (SegC p q r s)) := Lib.hid (by rw [← hwn]; exact OneV.iter H8r.out (by omega) _ _)
      rw [hwn] at hnx
      clear hwn HI HVr H7r H8r
      go_wp2_with fail
      obtain ⟨x0, x1, x2, x3⟩ := H71.out.c4
      obtain ⟨y0, y1, y2, y3⟩ := H81.out.c4
      go_region_with (first | (go_at_call 94; refine (maxB _ _ _).mono ?_; rintro e w9 ⟨rfl, hb9⟩; have HI9 := Lib.hid (HI1.out.drew.next hb9); have HV9 := Lib.hid (HV1.out.drew.next hb9); have H79 := Lib.hid (H71.out.drew.next hb9); have H89 := Lib.hid (H81.out.drew.next hb9); obtain ⟨x0, x1, x2, x3⟩ := H79.out.c4; obtain ⟨f0, f1, f2, f3⟩ := H79.out.f4) | fail)
      all_goals
        go_wp2
        go_roundg 2
        case measure => omega
        case rel => exact ⟨2, by omega, Lib.hid (HI9.out.put (by omega) 1 _), Lib.hid (HV9.out.put3 H79.out.le 1 _), Lib.hid (H79.out.set 1 _), Lib.hid (H89.out.other (fun e => hn e.symm) 1 _)⟩
    · obtain rfl : gk = 2 := by omega
      have hnx : ∀ ty, (Instr.next (.pointer (some ⟨wc.heap.size, 0, none⟩)) true ty).run Tryz.prog wr = .ok (.tuple #[.bool true, .int .i64 2, .int .i32 62]) (wr.iterAt wc.heap.size outS 3) := fun ty => Lib.run_next_ascii_at wr wc.heap.size outS 2 ty HI.out (by decide) (by decide)
      obtain ⟨wn, hwn⟩ : ∃ wn, wr.iterAt wc.heap.size outS 3 = wn := ⟨_, rfl⟩
      have HI1 : Hid (ItAt wn wc.heap.size outS 3) := Lib.hid (by rw [← hwn]; exact HI.out.moved 3)
      have HV1 : Hid (Vars w wn [SegC a b c d, SegC p q r s, SegC 0 0 0 0]) := Lib.hid (by rw [← hwn]; exact HVr.out.iter hkv _ _)
      have H71 : Hid (OneV (w.heap.size + 3) wn b7 (pkC max min a b c d p q r s 2)) := Lib.hid (by rw [← hwn]; exact OneV.iter H7r.out (by omega) _ _)
      have H81 : Hid (OneV (w.heap.size + 3) wn b8 (SegC p q r s)) := Lib.hid (by rw [← hwn]; exact OneV.iter H8r.out (by omega) _ _)
      rw [hwn] at hnx
      clear hwn HI HVr H7r H8r
      go_wp2_with fail
      obtain ⟨x0, x1, x2, x3⟩ := H71.out.c4
      obtain ⟨y0, y1, y2, y3⟩ := H81.out.c4
      go_region_with (first | (go_at_call 169; refine (minB _ _ _).mono ?_; rintro e w9 ⟨rfl, hb9⟩; have HI9 := Lib.hid (HI1.out.drew.next hb9); have HV9 := Lib.hid (HV1.out.drew.next hb9); have H79 := Lib.hid (H71.out.drew.next hb9); have H89 := Lib.hid (H81.out.drew.next hb9); obtain ⟨x0, x1, x2, x3⟩ := H79.out.c4; obtain ⟨f0, f1, f2, f3⟩ := H79.out.f4) | fail)
      all_goals
        go_wp2
        go_roundg 1
        case measure => omega
        case rel => exact ⟨3, by omega, Lib.hid (HI9.out.put (by omega) 2 _), Lib.hid (HV9.out.put3 H79.out.le 2 _), Lib.hid (H79.out.set 2 _), Lib.hid (H89.out.other (fun e => hn e.symm) 2 _)⟩
    · obtain rfl : gk = 1 := by omega
      have hnx : ∀ ty, (Instr.next (.pointer (some ⟨wc.heap.size, 0, none⟩)) true ty).run Tryz.prog wr = .ok (.tuple #[.bool true, .int .i64 3, .int .i32 62]) (wr.iterAt wc.heap.size outS 4) := fun ty => Lib.run_next_ascii_at wr wc.heap.size outS 3 ty HI.out (by decide) (by decide)
      obtain ⟨wn, hwn⟩ : ∃ wn, wr.iterAt wc.heap.size outS 4 = wn := ⟨_, rfl⟩
      have HI1 : Hid (ItAt wn wc.heap.size outS 4) := Lib.hid (by rw [← hwn]; exact HI.out.moved 4)
      have HV1 : Hid (Vars w wn [SegC a b c d, SegC p q r s, SegC 0 0 0 0]) := Lib.hid (by rw [← hwn]; exact HVr.out.iter hkv _ _)
      have H71 : Hid (OneV (w.heap.size + 3) wn b7 (pkC max min a b c d p q r s 3)) := Lib.hid (by rw [← hwn]; exact OneV.iter H7r.out (by omega) _ _)
      have H81 : Hid (OneV (w.heap.size + 3) wn b8 (SegC p q r s)) := Lib.hid (by rw [← hwn]; exact OneV.iter H8r.out (by omega) _ _)
      rw [hwn] at hnx
      clear hwn HI HVr H7r H8r
      go_wp2_with fail
      obtain ⟨x0, x1, x2, x3⟩ := H71.out.c4
      obtain ⟨y0, y1, y2, y3⟩ := H81.out.c4
      go_region_with (first | (go_at_call 169; refine (minB _ _ _).mono ?_; rintro e w9 ⟨rfl, hb9⟩; have HI9 := Lib.hid (HI1.out.drew.next hb9); have HV9 := Lib.hid (HV1.out.drew.next hb9); have H79 := Lib.hid (H71.out.drew.next hb9); have H89 := Lib.hid (H81.out.drew.next hb9); obtain ⟨x0, x1, x2, x3⟩ := H79.out.c4; obtain ⟨f0, f1, f2, f3⟩ := H79.out.f4) | fail)
      all_goals
        go_wp2
        go_roundg 0
        case measure => omega
        case rel => exact ⟨4, by omega, Lib.hid (HI9.out.put (by omega) 3 _), Lib.hid (HV9.out.put3 H79.out.le 3 _), Lib.hid (H79.out.set 3 _), Lib.hid (H89.out.other (fun e => hn e.symm) 3 _)⟩
    · obtain rfl : gk = 0 := by omega
      have hnx : ∀ ty, (Instr.next (.pointer (some ⟨wc.heap.size, 0, none⟩)) true ty).run Tryz.prog wr = .ok (.tuple #[.bool false]) wr := fun ty => Lib.run_next_end_at wr wc.heap.size outS 4 ty HI.out (by decide)
      obtain ⟨x0, x1, x2, x3⟩ := H7r.out.c4
      go_wp2_with fail
      refine (boxB_any _ _ _ _ _).mono ?_
      rintro e w9 ⟨rfl, hb9⟩
      have HV9 := Lib.hid (HVr.out.next hb9)
      clear hb9 x0 x1 x2 x3 HVr H7r H8r HI
      obtain ⟨j0, j1, j2, j3⟩ := HV9.out.c42
      obtain ⟨f0, f1, f2, f3⟩ := HV9.out.fr42
      go_wp2
      refine bodyPost_ret (v := SegV (max a p) (max b q) (min c r) (min d s)) (by simp [results, Tryz.results155, go_sem, j0, j1, j2, j3]) rfl ?_
      exact ⟨rfl, HV9.out.set40 (by omega) _ _ _ _⟩
end Go.Proofs.YtbnjaaegbmhopaaGreatDoor

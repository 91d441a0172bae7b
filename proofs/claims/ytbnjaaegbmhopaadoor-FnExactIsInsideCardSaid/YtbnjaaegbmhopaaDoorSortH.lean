/- sortByHeight of package impl: the segments, none of which goes down, by their lower ends. -/
import Derived.Test.YtbnjaaegbmhopaaDoorJoin
namespace Go.Proofs.YtbnjaaegbmhopaaDoor
open Go.Shelf Go.ChangeShapes Go.WideShapes Go.ChangeAt Go.RowKit
set_option linter.unusedVariables false

/-- Not going down. -/
def rsS (s : Int × Int × Int × Int) : Int × Int × Int × Int := if s.2.2.2 < s.2.1 then trS s else s
set_option maxRecDepth 100000 in
set_option maxHeartbeats 1000000 in
theorem rise_is (s : Int × Int × Int × Int) (w : World) : Calls Tryd.prog 57 #[sV s] w fun e w' => e = .returned (sV (rsS s)) ∧ Below w.heap.size w w' := by
  obtain ⟨a, b, c, d⟩ := s
  go_enter Tryd.func57, Tryd.ntmps57
  by_cases h : d < b
  · have hr : rsS (a, b, c, d) = (c, d, a, b) := if_pos h
    rw [hr]
    go_wp2_with fail
    refine (turn_any a b c d _).mono ?_
    rintro e w9 ⟨rfl, hb9⟩
    have HB := Lib.hid ((Vars.of2 w (SegC a b c d) (SegC 0 0 0 0) 53 53).next hb9)
    obtain ⟨j0, j1, j2, j3⟩ := HB.out.c41
    obtain ⟨f0, f1, f2, f3⟩ : _ ∧ _ ∧ _ ∧ _ := ⟨HB.out.frozen (w.heap.size + 1) 1 0 rfl rfl, HB.out.frozen (w.heap.size + 1) 1 1 rfl rfl, HB.out.frozen (w.heap.size + 1) 1 2 rfl rfl, HB.out.frozen (w.heap.size + 1) 1 3 rfl rfl⟩
    clear hb9
    go_wp2
    refine bodyPost_ret (v := SegV c d a b) (by simp [results, Tryd.results57, go_sem, j0, j1, j2, j3]) rfl ⟨rfl, ?_⟩
    exact HB.out.set40 (b := w.heap.size + 1) (by omega) _ _ _ _
  · have hr : rsS (a, b, c, d) = (a, b, c, d) := if_neg h
    rw [hr]
    go_wp2
    refine bodyPost_ret (v := SegV a b c d) (by simp [results, Tryd.results57, go_sem]) rfl ⟨rfl, ?_⟩
    exact (Vars.of2 w (SegC a b c d) (SegC a b c d) 53 53).1
/-! ### The sort -/
def cfH (x y : Int × Int × Int × Int) : Int := cmpV x.2.1 y.2.1
theorem ltH (x y : Int × Int × Int × Int) : ltOf cfH x y = decide (x.2.1 < y.2.1) := by
  unfold ltOf cfH
  rcases cmp_bd x.2.1 y.2.1 with ⟨h, h1⟩ | ⟨h, h1⟩ | ⟨h, h1⟩ <;> rw [h] <;> simp <;> omega
theorem swoH : Sort.SWO (ltOf cfH) where
  irrefl x := by rw [ltH]; simp
  trans x y z h1 h2 := by rw [ltH] at *; simp at *; omega
  ntrans x y z h1 h2 := by rw [ltH] at *; simp at *; omega
set_option maxRecDepth 100000 in
theorem closureH (x y : Int × Int × Int × Int) (W : World) : Calls Tryd.prog 59 #[.agg (encSegment x).toArray, .agg (encSegment y).toArray] W fun e w' => e = .returned (.int .i64 (cfH x y)) ∧ ∃ q os', w' = Sort.grow (W.drewN q) os' := by
  obtain ⟨a, b, c, d⟩ := x
  obtain ⟨a', b', c', d'⟩ := y
  obtain ⟨r, hr⟩ : ∃ r, cmpV b b' = r := ⟨_, rfl⟩
  have hc : cfH (a, b, c, d) (a', b', c', d') = r := hr
  have HC := fun W' => compare_any b b' W'
  rw [hr] at HC
  rw [hc]
  clear hr hc
  show Calls Tryd.prog 59 #[SegV a b c d, SegV a' b' c' d'] W _
  go_enter Tryd.func59, Tryd.ntmps59
  go_wp2_with (go_at_call 60; refine (HC _).mono ?_; rintro e w' ⟨rfl, rfl⟩)
  go_ret
  exact ⟨rfl, 0, _, by rw [Sort.alloc_eq_grow, Sort.alloc_eq_grow, Sort.grow_grow]; rfl⟩
theorem cmpLaysH (blk off size : Nat) (w : World) : CmpLays Tryd.prog 59 #[] encSegment 4 cfH blk off size w := fun _ _ _ _ x y => closureH x y _
theorem holdsK_row {w : World} {g c : Nat} {e : TypeId} {L : List (Int × Int × Int × Int)} (h : RowE 4 encSegment w g e c L) : Sort.HoldsK encSegment 4 w g 0 L.toArray := fun j hj => by
  rw [Sort.size_flatK] at hj
  have hj' : j < L.length * 4 := by simpa using hj
  have hq : j / 4 < L.length := by omega
  refine ⟨?_, by rw [Nat.zero_add]; exact h.frozen j⟩
  rw [Sort.get_flatK _ _ _ _ hj]
  have hx : L[j / 4]? = some L.toArray[j / 4]! := by
    rw [getElem!_pos _ _ (by simpa using hq)]; simp [hq]
  obtain ⟨v, hv⟩ : ∃ v, (encSegment L.toArray[j / 4]!)[j % 4]? = some v := ⟨_, List.getElem?_eq_getElem (by show j % 4 < 4; omega)⟩
  have := h.cell elSegment hx hv
  rw [show j / 4 * 4 + j % 4 = 0 + j by omega] at this
  rw [this, List.getElem!_eq_getElem?_getD, hv]; rfl
theorem sees_holdsK {w : World} {g : Nat} {d : Array (Int × Int × Int × Int)} (h : Sort.HoldsK encSegment 4 w g 0 d) (hg : g < w.heap.size) : SeesE 4 encSegment w w.heap.size (some ⟨g, 0, none⟩) d.toList := fun j x hx => by
  have hj : j < d.size := by have := (List.getElem?_eq_some_iff.1 hx).1; simpa using this
  refine ⟨g, 0, rfl, hg, fun k v hv => ?_⟩
  have hk : k < 4 := by have := (List.getElem?_eq_some_iff.1 hv).1; exact this
  have := (h.cell hj hk).1
  rw [this]
  have hx' : d[j]! = x := by rw [getElem!_pos d j hj]; simpa [hj] using hx
  rw [hx', List.getElem!_eq_getElem?_getD, hv]; rfl
theorem grownBy_sortedK {w : World} {g n : Nat} {os : Array Obj} (d : Array (Int × Int × Int × Int)) : w.grownBy (sortWorldK encSegment 4 w g 0 n d os) (some g) := by
  refine ⟨rfl, rfl, rfl, by simp [sortWorldK, Sort.putRowK, Sort.grow, Sort.putRow, Sort.mapBlock, Sort.ahead], fun k hk hne => ?_⟩
  have : g ≠ k := fun e => hne (by rw [e])
  unfold sortWorldK
  rw [Sort.heap_grow_old _ _ (by simpa [Sort.putRowK, Sort.putRow, Sort.mapBlock, Sort.ahead] using hk)]
  simp [Sort.putRowK, Sort.putRow, Sort.mapBlock, Sort.ahead, Array.getElem?_modify, this]
/-- By their lower ends. -/
def LowFirst (L : List (Int × Int × Int × Int)) : Prop := ∀ (i j : Nat) (x y : Int × Int × Int × Int), i < j → L[i]? = some x → L[j]? = some y → x.2.1 ≤ y.2.1
theorem low_sorted {d : Array (Int × Int × Int × Int)} (h : Sort.SortedIn (ltOf cfH) 0 d.size d) : LowFirst d.toList := fun i j x y hij hx hy => by
  have hj : j < d.size := by have := (List.getElem?_eq_some_iff.1 hy).1; simpa using this
  have hi : i < d.size := by omega
  have := h i j (Nat.zero_le _) hij hj
  rw [ltH, getElem!_pos d j hj, getElem!_pos d i hi] at this
  have e1 : d[i] = x := by simpa [hi] using hx
  have e2 : d[j] = y := by simpa [hj] using hy
  rw [e1, e2] at this
  simpa using this
set_option maxRecDepth 100000 in
theorem sortFunc_any (g c : Nat) (L : List (Int × Int × Int × Int)) (w : World) (h : RowE 4 encSegment w g 53 c L) (hl : L.length ≤ 1099511627776) :
    Calls Tryd.prog 58 #[.slice (some ⟨g, 0, none⟩) L.length c, .func (.func 59) #[] #[]] w fun e w' => e = .returned (.tuple #[]) ∧ ∃ L', Hid (L'.Perm L) ∧ LowFirst L' ∧ L'.length = L.length ∧ SeesE 4 encSegment w' w'.heap.size (some ⟨g, 0, none⟩) L' ∧ Below g w w' := by
  have eg : ∀ args w, (callFunc 59 args).run Tryd.prog w = .ok (.enter 59 args) w := enters_of Tryd.func59 (by kernel_rfl) rfl
  have hcon := AnyQ.slices_SortFunc Tryd.sortSeg 4 Tryd.isAgg53 Tryd.sizeOf53 encSegment (fun _ => rfl) (fun x v hv => (elSegment.2 x).2 v hv) cfH swoH 59 #[] g 0 c L.toArray w eg (cmpLaysH g 0 _ w) (holdsK_row h) h.lt (by simp; omega)
  rw [show L.toArray.size = L.length from by simp] at hcon
  refine Calls.mono hcon ?_
  rintro e w' ⟨he, d', n, os, hp, hs, rfl⟩
  have hd : d'.size = L.length := by rw [hp.1]; simp
  have hH := holdsK_sortWorldK encSegment 4 w g 0 n L.toArray d' os h.lt (holdsK_row h) hp.1
  refine ⟨he, d'.toList, Lib.hid ?_, low_sorted (by rw [hd]; exact hs), by simpa using hd, sees_holdsK hH (lt_sortWorldK _ _ _ _ _ _ _ _ h.lt), (Below.refl g w).grown (grownBy_sortedK d') (Nat.le_of_lt h.lt) (fun k hk => by cases hk; exact Nat.le_refl _)⟩
  have h2 := hp.2.2
  rw [show d'.extract 0 L.length = d' by rw [← hd]; simp] at h2
  simpa using h2
end Go.Proofs.YtbnjaaegbmhopaaDoor
namespace Go.Proofs.YtbnjaaegbmhopaaDoor
open Go.Shelf Go.ChangeShapes Go.WideShapes Go.ChangeAt Go.RowKit
set_option linter.unusedVariables false

theorem take_map_succ {L E E' : List (Int × Int × Int × Int)} {j : Nat} {x : Int × Int × Int × Int} (hx : L[j]? = some x) (h : E = (L.take j).map rsS) (h' : E' = E ++ [rsS x]) : E' = (L.take (j + 1)).map rsS := by
  rw [h', h, List.take_add_one, hx, List.map_append]; rfl
set_option maxRecDepth 100000 in
set_option maxHeartbeats 1000000 in
theorem sortByHeight_any (A : Option Addr) (c : Nat) (L : List (Int × Int × Int × Int)) (w : World) (hs : SeesE 4 encSegment w w.heap.size A L) (h0 : 0 < L.length) (hl : L.length ≤ 1000) :
    Calls Tryd.prog 39 #[.slice A L.length c] w fun e w' => ∃ A' c' L', Hid (L'.Perm (L.map rsS)) ∧ LowFirst L' ∧ e = .returned (.slice A' L'.length c') ∧ SeesE 4 encSegment w' w'.heap.size A' L' ∧ Below w.heap.size w w' := by
  have HS := Lib.hid hs; clear hs
  go_enter Tryd.func39, Tryd.ntmps39
  go_wp2
  go_loopw [3, 9] (fun v i wr => ∃ (j : Nat) (A2 : Option Addr) (c2 : Nat) (E : List (Int × Int × Int × Int)), j ≤ L.length ∧ i = .int .i64 j ∧ Hid (E = (L.take j).map rsS) ∧ v = .slice A2 E.length c2 ∧ Hid (OwnE 4 encSegment wr w.heap.size 53 v E) ∧ Hid (Below w.heap.size w wr)) (fun _ i _ => L.length - (intOf i).toNat)
  case atStart => exact ⟨0, _, _, [], Nat.zero_le _, rfl, Lib.hid rfl, rfl, Lib.hid (OwnE.lit _ _ _ (Nat.le_refl _)), Lib.hid ((Below.refl _ w).alloc (Nat.le_refl _) _)⟩
  case round =>
    obtain ⟨j, A2, c2, E, hj, rfl, hE, rfl, HO, HB⟩ := hrel
    by_cases hlt : j < L.length
    · have hlt' : (j : Int) < (L.length : Int) := by omega
      obtain ⟨b, off, x, rfl, hbl, hx, -⟩ := (HS.out.below HB.out).lt hlt
      obtain ⟨k0, k1, k2, k3⟩ := cells4 (HS.out.below HB.out) hx
      have HX := Lib.hid hx
      clear hx
      have hEl : E.length = j := by rw [hE.out]; simp; omega
      have HE := hE
      obtain ⟨y, hy⟩ : ∃ y, rsS x = y := ⟨_, rfl⟩
      have HR : ∀ W, Calls Tryd.prog 57 #[sV x] W fun e w' => e = .returned (sV y) ∧ Below W.heap.size W w' := fun W => by rw [← hy]; exact rise_is x W
      have HY := Lib.hid hy
      have hE1 : E.length + [y].length ≤ 1099511627776 := by simp; omega
      clear hE hy hEl
      go_wp2_with (first
        | (go_at_call 57; refine (HR _).mono ?_; rintro e w9 ⟨rfl, hb9⟩; have HB9 := Lib.hid ((HB.out.alloc HB.out.size (.cells (sC x) 53)).trans (hb9.mono (by simp; exact Nat.le_trans HB.out.size (by omega)))); have HO9 := Lib.hid ((HO.out.alloc (.cells (sC x) 53)).belowAll hb9))
        | (at_builtin; refine appSegment _ rfl _ _ rfl w.heap.size _ E rfl (HO9.out.alloc _) (w9.heap.size + 1) (some ⟨w9.heap.size, 0, none⟩) 1 1 [y] rfl rfl (seesE_new elSegment w9 y (sC y) 53 _ (Nat.lt_succ_self _) rfl) hE1 (Nat.le_trans HB9.out.size (by simp)) ?_; intro A3 c3 L3 w3 hL3 h2 h3 ho3 hb3))
      go_roundw
      case rel => exact ⟨j + 1, A3, c3, L3, by omega, by go_num, Lib.hid (take_map_succ HX.out HE.out (by rw [hL3.out, HY.out])), rfl, Lib.hid ho3, Lib.hid ((HB9.out.alloc HB9.out.size _).trans hb3)⟩
      case measure => simp [intOf]; omega
    · obtain rfl : j = L.length := by omega
      have HE : Hid (E = L.map rsS) := Lib.hid (by rw [hE.out, List.take_length])
      have hEl : 0 < E.length := by rw [HE.out, List.length_map]; exact h0
      have hEl2 : E.length ≤ 1000 := by rw [HE.out, List.length_map]; exact hl
      obtain ⟨g, rfl, hBg, -, hr⟩ := HO.out.row hEl
      have HR := Lib.hid hr; clear hr
      go_wp2_with (go_at_call 58; refine (sortFunc_any g c2 E _ HR.out (by omega)).mono ?_; rintro e w2 ⟨rfl, L', hp, hlow, hn, hs2, hb2⟩)
      go_ret
      exact ⟨_, c2, L', Lib.hid (by rw [← HE.out]; exact hp.out), hlow, by rw [hn]; rfl, hs2, HB.out.trans (hb2.mono hBg)⟩
/-- Does the edge cross the level ray from p to the right? -/
def crR (p : Int × Int) (s : Int × Int × Int × Int) : Bool := inB p.2 s.2.1 (s.2.2.2 - 1) && decide (0 < sideV s.1 s.2.1 s.2.2.1 s.2.2.2 p.1 p.2)
set_option maxRecDepth 100000 in
set_option maxHeartbeats 1000000 in
theorem crosses_is (a b c d x y : Int) (w : World) (h : isS a b c d = true) (z : Bool) (hz : crR (x, y) (a, b, c, d) = z) :
    Calls Tryd.prog 41 #[SegV a b c d, PtV x y] w fun e w' => e = .returned (.bool z) ∧ Below w.heap.size w w' := by
  obtain ⟨h1, h2, -⟩ := isS_at h
  have hd : 0 ≤ d ∧ d ≤ 200 := by omega
  have HB := Lib.hid (Vars.of2 w (SegC a b c d) #[.int .i64 x, .int .i64 y] 53 33)
  have hw1 : wrap64 (d - 1) = d - 1 := by unfold wrap64; omega
  have hw2 : IntKind.i64.wrap (d - 1) = d - 1 := IntWalk.i64_in _ (by omega)
  have K := HB.out.c42p
  clear h1 h2 h
  go_enter Tryd.func41, Tryd.ntmps41
  cases hin : inB y b (d - 1)
  · obtain rfl : z = false := by rw [← hz]; show (inB y b (d - 1) && _) = false; rw [hin]; rfl
    go_wp2_with (go_at_call 50; refine (in_is _ _ _ _ _ hin).mono ?_; rintro e w1 ⟨rfl, rfl⟩)
    go_ret
    exact ⟨rfl, HB.out.1⟩
  · obtain ⟨v, hv⟩ : ∃ v, sideV a b c d x y = v := ⟨_, rfl⟩
    have hz' : decide (0 < v) = z := by rw [← hz, ← hv]; show _ = (inB y b (d - 1) && _); rw [hin, Bool.true_and]
    have HC : ∀ W, Calls Tryd.prog 64 #[PtV a b, PtV c d, PtV x y] W fun e w' => e = .returned (.int .i64 v) ∧ Below W.heap.size W w' := fun W => by rw [← hv]; exact sideOf_any a b c d x y W
    clear hz hv
    by_cases h0 : 0 < v
    · obtain rfl : z = true := by rw [← hz']; simp [h0]
      clear hz'
      go_wp2_with (first
        | (go_at_call 50; refine (in_is _ _ _ _ _ hin).mono ?_; rintro e w1 ⟨rfl, rfl⟩)
        | (go_at_call 64; refine (HC _).mono ?_; rintro e w1 ⟨rfl, hb1⟩))
      go_ret
      exact ⟨by first | rfl | simp; try omega, (HB.out.next hb1).1⟩
    · obtain rfl : z = false := by rw [← hz']; simp [h0]
      clear hz'
      go_wp2_with (first
        | (go_at_call 50; refine (in_is _ _ _ _ _ hin).mono ?_; rintro e w1 ⟨rfl, rfl⟩)
        | (go_at_call 64; refine (HC _).mono ?_; rintro e w1 ⟨rfl, hb1⟩))
      go_ret
      exact ⟨by first | rfl | simp; try omega, (HB.out.next hb1).1⟩
end Go.Proofs.YtbnjaaegbmhopaaDoor

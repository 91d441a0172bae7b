/- Chapter 3's ciphers of package impl: a closure gives the stream. -/
import Derived.Test.YtalghkfkeaogfaaCrypt2
import Derived.Deep.RegionWith
namespace Go.Proofs.Ytalghkfkeaogfaa
open Go.RowKit
set_option linter.unusedVariables false

theorem gb_of {w w' : World} (r : Option Nat) (hb : Below w.heap.size w w') : w.grownBy w' r := ⟨hb.os, hb.tape, hb.output, hb.size, fun k hk _ => hb.block k hk⟩
theorem gb_trans {a b c : World} {r : Option Nat} (h : a.grownBy b r) (k : b.grownBy c r) : a.grownBy c r :=
  ⟨k.os.trans h.os, k.tape.trans h.tape, k.output.trans h.output, Nat.le_trans h.size k.size, fun i hi hne => (k.block i (Nat.lt_of_lt_of_le hi h.size) hne).trans (h.block i hi hne)⟩
/-- The stream's two variables, in blocks P and P + 1: the key, and the next index. -/
def Strm (w : World) (P : Nat) (k : Int) (j : Nat) : Prop :=
  w.heap[P]? = some (.cells #[.int .i64 k] 3 (0, 0)) ∧ w.heap[P + 1]? = some (.cells #[.int .i64 (j : Int)] 3 (0, 0))
theorem cellAt1 {w : World} {g : Nat} {v : Value} {T : TypeId} (h : w.heap[g]? = some (.cells #[v] T (0, 0))) : w.cell? ⟨g, 0, none⟩ = some v := by simp [World.cell?, h]
theorem freeAt1 {w : World} {g : Nat} {v : Value} {T : TypeId} (h : w.heap[g]? = some (.cells #[v] T (0, 0))) : w.frozen? ⟨g, 0, none⟩ = false := by simp [World.frozen?, h]
theorem Strm.lt {w : World} {P : Nat} {k : Int} {j : Nat} (h : Strm w P k j) : P + 1 < w.heap.size := (Array.getElem?_eq_some_iff.1 h.2).1
theorem Strm.below {w w' : World} {P B : Nat} {k : Int} {j : Nat} (h : Strm w P k j) (hb : Below B w w') (hP : P + 1 < B) : Strm w' P k j :=
  ⟨(hb.block _ (by omega)).trans h.1, (hb.block _ hP).trans h.2⟩
theorem Strm.set {w : World} {P : Nat} {k : Int} {j : Nat} (h : Strm w P k j) (m : Nat) : Strm (w.setCell ⟨P + 1, 0, none⟩ (.int .i64 (m : Int))) P k m :=
  ⟨(Below.heap_setCell _ _ _ _ (show P ≠ P + 1 by omega)).trans h.1, heap_setCell_same w (P + 1) 0 _ _ _ h.2⟩
/-- One value of the stream. -/
def NextRel (P : Nat) (k : Int) (j : Nat) (w : World) (e : Ending) (w' : World) : Prop :=
  ∃ y : Int, Hid (y = khv k [(j : Int)] % 256) ∧ 0 ≤ y ∧ y ≤ 255 ∧ e = .returned (.int .u8 y) ∧ Strm w' P k (j + 1) ∧ w.grownBy w' (some (P + 1))
set_option maxRecDepth 100000 in
theorem next_any (P : Nat) (k : Int) (j : Nat) (w : World) (hx : Strm w P k j) (hj : j ≤ 17592186044416) :
    Calls Try.prog 60 #[.pointer (some ⟨P, 0, none⟩), .pointer (some ⟨P + 1, 0, none⟩)] w (NextRel P k j w) := by
  have HX := Lib.hid hx
  have hlt := hx.lt
  have k0 := cellAt1 hx.1
  have k1 := cellAt1 hx.2
  clear hx
  go_enter Try.func60, Try.ntmps60
  go_wp2_with fail
  have hb0 := (Below.refl w.heap.size w).alloc (Nat.le_refl _) (.cells #[.int .i64 (j : Int)] 3)
  refine (keyed_any k _ 1 1 (w.heap.size + 1) [(j : Int)] _ (sees_at w .i64 j 3 _ _ rfl (by omega)) (by simp) rfl (by simp)).mono ?_
  rintro e w2 ⟨h, hh, h0, h1, rfl, hb⟩
  have HB := Lib.hid (hb0.trans (hb.mono hb0.size))
  have HX2 := Lib.hid (HX.out.below HB.out (by omega))
  have j1 := cellAt1 HX2.out.2
  have f1 := freeAt1 HX2.out.2
  clear k0 k1 hb0 hb
  go_wp2
  go_ret
  have e1 : (.int .i64 ((j : Int) + 1) : Value) = .int .i64 ((j + 1 : Nat) : Int) := rfl
  exact ⟨h % 256, Lib.hid (by rw [hh.out]), by omega, by omega, rfl, HX2.out.set (j + 1), grown_setCell (gb_of _ HB.out) 0 _⟩
theorem Strm.new (w : World) (k : Int) : Strm ((w.alloc (.cells #[.int .i64 k] 3)).alloc (.cells #[.int .i64 ((0 : Nat) : Int)] 3)) w.heap.size k 0 :=
  ⟨(Below.heap_alloc _ _ _ (by simp)).trans (heap_alloc_new w _), by
    have h := heap_alloc_new (w.alloc (.cells #[.int .i64 k] 3)) (.cells #[.int .i64 ((0 : Nat) : Int)] 3)
    simpa using h⟩
/-- A stream was made. -/
def MadeStrm (k : Int) (w : World) (e : Ending) (w' : World) : Prop :=
  e = .returned (.func (.func 60) #[] #[.pointer (some ⟨w.heap.size, 0, none⟩), .pointer (some ⟨w.heap.size + 1, 0, none⟩)]) ∧ w' = (w.alloc (.cells #[.int .i64 k] 3)).alloc (.cells #[.int .i64 ((0 : Nat) : Int)] 3)
theorem keyStream_any (k : Int) (w : World) : Calls Try.prog 49 #[.int .i64 k] w (MadeStrm k w) := by
  have hmf : ∀ (fn : Fn) (first cap : Array Value) (w : World), (Instr.makeFunc fn first cap).run Try.prog w = .ok (.func fn first cap) w := fun _ _ _ _ => rfl
  go_enter Try.func49, Try.ntmps49
  go_wp2
  go_ret
  exact ⟨rfl, rfl⟩
/-- A cipher under way: the first j bytes are turned. -/
def half (f : Int → Nat → Int → Int) (k : Int) (l : List Int) (j : Nat) : List Int := (l.mapIdx (f k)).take j ++ l.drop j
theorem half_len (f : Int → Nat → Int → Int) (k : Int) (l : List Int) {j : Nat} (h : j ≤ l.length) : (half f k l j).length = l.length := by simp [half]; omega
theorem half_zero (f : Int → Nat → Int → Int) (k : Int) (l : List Int) : half f k l 0 = l := by simp [half]
theorem half_all (f : Int → Nat → Int → Int) (k : Int) (l : List Int) : half f k l l.length = l.mapIdx (f k) := by
  unfold half
  rw [List.take_of_length_le (by simp), List.drop_length, List.append_nil]
theorem half_get {f : Int → Nat → Int → Int} {k : Int} {l : List Int} {j : Nat} {x : Int} (h : l[j]? = some x) : (half f k l j)[j]? = some x := by
  have hlt : j < l.length := (List.getElem?_eq_some_iff.1 h).1
  unfold half
  rw [List.getElem?_append_right (by simp; omega)]
  simp only [List.length_take, List.length_mapIdx, Nat.min_eq_left (Nat.le_of_lt hlt), Nat.sub_self, List.getElem?_drop, Nat.add_zero]
  exact h
theorem half_set {f : Int → Nat → Int → Int} {k : Int} {l : List Int} {j : Nat} {x y : Int} (h : l[j]? = some x) (hy : y = f k j x) : (half f k l j).set j y = half f k l (j + 1) := by
  have hlt : j < l.length := (List.getElem?_eq_some_iff.1 h).1
  have hx : l[j] = x := (List.getElem?_eq_some_iff.1 h).2
  unfold half
  rw [List.set_append_right _ _ (by simp; omega), List.take_add_one]
  simp only [List.length_take, List.length_mapIdx, Nat.min_eq_left (Nat.le_of_lt hlt), Nat.sub_self, List.getElem?_mapIdx, h, Option.map_some, Option.toList_some, List.append_assoc, List.singleton_append]
  rw [List.drop_eq_getElem_cons hlt, hx, hy]; rfl
def CiphRel (f : Int → Nat → Int → Int) (k : Int) (l : List Int) (A : Option Addr) (c P : Nat) (w : World) (i : Value) (wr : World) : Prop :=
  ∃ j : Nat, j ≤ l.length ∧ i = .int .i64 j ∧ Strm wr P k j ∧ Own wr w.heap.size 5 .u8 (.slice A l.length c) (half f k l j) ∧ Below w.heap.size w wr
theorem gb_drew {w w' : World} {r : Option Nat} (h : w.drew.grownBy w' r) : w.grownBy w' r := ⟨h.os, h.tape, h.output, h.size, h.block⟩
theorem give_n {T : TypeId} {k : IntKind} {l L : List Int} {w w' : World} {A : Option Addr} {n c : Nat} (e : L = l) (hn : n = L.length) (ho : Own w' w.heap.size T k (.slice A n c) L) (hb : Below w.heap.size w w') :
    Gives T k l w (.returned (.slice A n c)) w' := by subst hn; exact give e ho hb
theorem ciph_row {f : Int → Nat → Int → Int} {k : Int} {l : List Int} {B c P g j : Nat} {wr w3 : World} (ho : Own wr B 5 .u8 (.slice (some ⟨g, 0, none⟩) l.length c) (half f k l j)) (hg : wr.drew.grownBy w3 (some (P + 1))) (hgl : g < P) :
    Own w3 B 5 .u8 (.slice (some ⟨g, 0, none⟩) l.length c) (half f k l j) := ho.kept (gb_drew hg) (.inr (show some g ≠ some (P + 1) by simp; omega))
theorem wrap_u8 (x : Int) : IntKind.u8.wrap x = x % 256 := by
  simp [IntKind.wrap, IntKind.signed, IntKind.bits]
theorem ciph_free {w : World} {B c g n : Nat} {T : TypeId} {kk : IntKind} {L : List Int} (ho : Own w B T kk (.slice (some ⟨g, 0, none⟩) n c) L) (hn : 0 < L.length) (j : Nat) : w.frozen? ⟨g, j, none⟩ = false := by
  obtain ⟨g', e, _, _, hr⟩ := ho.row hn
  simp only [Option.some.injEq, Addr.mk.injEq, and_true] at e
  obtain rfl := e
  exact hr.frozen j
theorem ciph_step {f : Int → Nat → Int → Int} {k z x : Int} {l : List Int} {c P g j : Nat} {w wr w3 : World} {i : Value} (ho : Own wr w.heap.size 5 .u8 (.slice (some ⟨g, 0, none⟩) l.length c) (half f k l j)) (hgl : g < P) (hP : w.heap.size ≤ P)
    (hx : l[j]? = some x) (hb : Below w.heap.size w wr) (hg : wr.drew.grownBy w3 (some (P + 1))) (hst : Strm w3 P k (j + 1)) (hz : z = f k j x) (hi : i = .int .i64 ((j + 1 : Nat) : Int)) :
    CiphRel f k l (some ⟨g, 0, none⟩) c P w i (w3.setCell ⟨g, j, none⟩ (.int .u8 z)) := by
  have hlt : j < l.length := (List.getElem?_eq_some_iff.1 hx).1
  have hn := half_len f k l (Nat.le_of_lt hlt)
  obtain ⟨g', e, hgB, hnl, hr⟩ := (ciph_row ho hg hgl).row (by rw [hn]; omega)
  simp only [Option.some.injEq, Addr.mk.injEq, and_true] at e
  obtain rfl := e
  have h1 := (hr.set j z).own hgB
  rw [half_set hx hz, half_len f k l (show j + 1 ≤ l.length by omega)] at h1
  refine ⟨j + 1, by omega, hi, ⟨(Below.heap_setCell _ _ _ _ (show P ≠ g by omega)).trans hst.1, (Below.heap_setCell _ _ _ _ (show P + 1 ≠ g by omega)).trans hst.2⟩, h1, ?_⟩
  exact (hb.grown (gb_drew hg) hb.size (fun q hq => by cases hq; omega)).setCell hgB _
set_option maxRecDepth 100000 in
set_option maxHeartbeats 1000000 in
theorem enc_any (k : Int) (A : Option Addr) (c : Nat) (l : List Int) (w : World) (hs : Sees w w.heap.size .u8 A l) (h8 : B8 l) (hl : l.length ≤ 4398046511104) :
    Calls Try.prog 17 #[.int .i64 k, .slice A l.length c] w (Gives 5 .u8 (encL k l) w) := by
  have HS := Lib.hid hs; clear hs
  have H8 : Hid (B8 l) := Lib.hid h8; clear h8
  go_enter Try.func17, Try.ntmps17
  go_wp2_with fail
  refine (copyBytes_any A c l _ HS.out (by omega)).mono ?_
  rintro e w1 ⟨A1, c1, L1, HL1, rfl, ho1, hb1⟩
  obtain rfl : l = L1 := HL1.out.symm; clear HL1
  have hlt1 := hb1.size
  go_wp2_with fail
  refine (keyStream_any k _).mono ?_
  rintro e w2 ⟨rfl, rfl⟩
  go_wp2
  go_loopw [14] (fun i wr => CiphRel encB k l A1 c1 w1.heap.size w i wr) (fun i _ => l.length - (intOf i).toNat)
  case atStart =>
    have ho2 := (ho1.alloc (.cells #[.int .i64 k] 3)).alloc (.cells #[.int .i64 ((0 : Nat) : Int)] 3)
    have hb2 := (hb1.alloc hlt1 (.cells #[.int .i64 k] 3)).alloc (by simp; omega) (.cells #[.int .i64 ((0 : Nat) : Int)] 3)
    exact ⟨0, Nat.zero_le _, rfl, Strm.new w1 k, by rw [half_zero]; exact ho2, hb2⟩
  case round =>
    obtain ⟨j, hj, rfl, hst, ho, hb⟩ := hrel
    have HB := Lib.hid hb; have HX := Lib.hid hst; have HO := Lib.hid ho
    clear hb hst ho
    by_cases hlt : j < l.length
    · obtain ⟨x, hx⟩ : ∃ x, l[j]? = some x := ⟨_, List.getElem?_eq_getElem hlt⟩
      have hx8 := H8.out x (List.mem_of_getElem? hx)
      have hh := half_get (f := encB) (k := k) hx
      obtain ⟨g, rfl, hgB, -, hr⟩ := HO.out.row (by rw [half_len _ _ _ hj]; omega)
      have hgl : g < w1.heap.size := (World.ownsRow.lt ho1 g rfl).2
      have hcell := hr.cell hh
      have hfr := hr.frozen j
      have HLX := Lib.hid hx
      clear hx hh
      go_wp2
      have hcj : half encB k l j ≠ [] := fun h => by have := half_len encB k l hj; rw [h] at this; simp at this; omega
      go_region_with (go_at_call 60; refine (next_any w1.heap.size k j _ ?_ (by omega)).mono ?_; exact HX.out; rintro e w3 ⟨y, hy, hy0, hy1, rfl, hst3, hg3⟩; have hcell3 : w3.cell? ⟨g, j, none⟩ = some (.int .u8 x) := hg3.cell (show wr.drew.cell? ⟨g, j, none⟩ = _ from hcell) (by show some g ≠ some (w1.heap.size + 1); simp; omega); have hfr3 := ciph_free (ciph_row HO.out hg3 hgl) (by rw [half_len _ _ _ hj]; omega) j)
      all_goals
        obtain ⟨z, hz⟩ : ∃ z, IntKind.u8.wrap (x + y) = z := ⟨_, rfl⟩
        rw [hz]
        have HZ : Hid (z = encB k j x) := Lib.hid (by rw [← hz, wrap_u8, hy.out]; unfold encB; omega)
        clear hz hcell hfr hcell3 hfr3 hr hcj
        go_wp2
        go_roundw
        case rel => exact ciph_step HO.out hgl hlt1 HLX.out HB.out hg3 hst3 HZ.out (by go_num)
        case measure => simp [intOf]; omega
    · obtain rfl : j = l.length := by omega
      have ho := HO.out
      rw [half_all] at ho
      have ho' := Lib.hid ho; clear ho
      go_wp2
      go_ret
      exact give_n rfl (encL_len k l).symm ho'.out HB.out
set_option maxRecDepth 100000 in
set_option maxHeartbeats 1000000 in
theorem dec_any (k : Int) (A : Option Addr) (c : Nat) (l : List Int) (w : World) (hs : Sees w w.heap.size .u8 A l) (h8 : B8 l) (hl : l.length ≤ 4398046511104) :
    Calls Try.prog 16 #[.int .i64 k, .slice A l.length c] w (Gives 5 .u8 (decL k l) w) := by
  have HS := Lib.hid hs; clear hs
  have H8 : Hid (B8 l) := Lib.hid h8; clear h8
  go_enter Try.func16, Try.ntmps16
  go_wp2_with fail
  refine (copyBytes_any A c l _ HS.out (by omega)).mono ?_
  rintro e w1 ⟨A1, c1, L1, HL1, rfl, ho1, hb1⟩
  obtain rfl : l = L1 := HL1.out.symm; clear HL1
  have hlt1 := hb1.size
  go_wp2_with fail
  refine (keyStream_any k _).mono ?_
  rintro e w2 ⟨rfl, rfl⟩
  go_wp2
  go_loopw [14] (fun i wr => CiphRel decB k l A1 c1 w1.heap.size w i wr) (fun i _ => l.length - (intOf i).toNat)
  case atStart =>
    have ho2 := (ho1.alloc (.cells #[.int .i64 k] 3)).alloc (.cells #[.int .i64 ((0 : Nat) : Int)] 3)
    have hb2 := (hb1.alloc hlt1 (.cells #[.int .i64 k] 3)).alloc (by simp; omega) (.cells #[.int .i64 ((0 : Nat) : Int)] 3)
    exact ⟨0, Nat.zero_le _, rfl, Strm.new w1 k, by rw [half_zero]; exact ho2, hb2⟩
  case round =>
    obtain ⟨j, hj, rfl, hst, ho, hb⟩ := hrel
    have HB := Lib.hid hb; have HX := Lib.hid hst; have HO := Lib.hid ho
    clear hb hst ho
    by_cases hlt : j < l.length
    · obtain ⟨x, hx⟩ : ∃ x, l[j]? = some x := ⟨_, List.getElem?_eq_getElem hlt⟩
      have hx8 := H8.out x (List.mem_of_getElem? hx)
      have hh := half_get (f := decB) (k := k) hx
      obtain ⟨g, rfl, hgB, -, hr⟩ := HO.out.row (by rw [half_len _ _ _ hj]; omega)
      have hgl : g < w1.heap.size := (World.ownsRow.lt ho1 g rfl).2
      have hcell := hr.cell hh
      have hfr := hr.frozen j
      have HLX := Lib.hid hx
      clear hx hh
      go_wp2
      have hcj : half decB k l j ≠ [] := fun h => by have := half_len decB k l hj; rw [h] at this; simp at this; omega
      go_region_with (go_at_call 60; refine (next_any w1.heap.size k j _ ?_ (by omega)).mono ?_; exact HX.out; rintro e w3 ⟨y, hy, hy0, hy1, rfl, hst3, hg3⟩; have hcell3 : w3.cell? ⟨g, j, none⟩ = some (.int .u8 x) := hg3.cell (show wr.drew.cell? ⟨g, j, none⟩ = _ from hcell) (by show some g ≠ some (w1.heap.size + 1); simp; omega); have hfr3 := ciph_free (ciph_row HO.out hg3 hgl) (by rw [half_len _ _ _ hj]; omega) j)
      all_goals
        obtain ⟨z, hz⟩ : ∃ z, IntKind.u8.wrap (x - y) = z := ⟨_, rfl⟩
        rw [hz]
        have HZ : Hid (z = decB k j x) := Lib.hid (by rw [← hz, wrap_u8, hy.out]; unfold decB; omega)
        clear hz hcell hfr hcell3 hfr3 hr hcj
        go_wp2
        go_roundw
        case rel => exact ciph_step HO.out hgl hlt1 HLX.out HB.out hg3 hst3 HZ.out (by go_num)
        case measure => simp [intOf]; omega
    · obtain rfl : j = l.length := by omega
      have ho := HO.out
      rw [half_all] at ho
      have ho' := Lib.hid ho; clear ho
      go_wp2
      go_ret
      exact give_n rfl (decL_len k l).symm ho'.out HB.out
end Go.Proofs.Ytalghkfkeaogfaa

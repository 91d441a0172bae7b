/- The model's draws of integers and numerals: what they give is bounded; nothing that existed before the draw is written. -/
import Derived.Test.YtbnjaaegbmhopaaGreatDoorDraw
import Derived.Test.YtbnjaaegbmhopaaGreatDoorMem
namespace Go.Proofs.YtbnjaaegbmhopaaGreatDoor
open Go.ChangeShapes Go.WideShapes Go.ChangeAt Go.RowKit
set_option linter.unusedVariables false

/-- The bytes of the draw, as they came in: below the blocks of the call. -/
def Code (w : World) (B : Nat) (a : Option Addr) (len : Nat) : Prop :=
  len ≤ 9223372036854775807 ∧ B ≤ w.heap.size ∧ ∀ i, i < len → ∃ b off, a = some ⟨b, off, none⟩ ∧ b < B ∧ ∃ n : Nat, n ≤ 255 ∧ w.cell? ⟨b, off + i, none⟩ = some (.int .u8 (n : Int))
theorem code_of_row {w : World} {a : Option Addr} {len cap : Nat} {zs : List Int} (h : IsRow .u8 w a len cap zs) : Code w w.heap.size a len := by
  rcases h with ⟨rfl, rfl, rfl, rfl⟩ | ⟨⟨b, off, spot⟩, rfl, hl, hm, hz, hcell, hwz⟩
  · exact ⟨by omega, Nat.le_refl _, fun i hi => absurd hi (by omega)⟩
  · unfold maxLen at hm
    refine ⟨by omega, Nat.le_refl _, fun i hi => ?_⟩
    have hc := hcell i (by omega)
    have hspot : spot = none := by
      have h0 := hcell 0 (by omega)
      simpa [Addr.add] using World.cell?_spot h0
    subst hspot
    have ea : (⟨b, off, none⟩ : Addr).add i = ⟨b, off + i, none⟩ := by
      rcases i with _ | i
      · simp [Addr.add]
      · simp [Addr.add]
    have hc' : w.cell? ⟨b, off + i, none⟩ = some (.int .u8 (zs.getD i 0)) := by rw [← ea]; exact hc
    have hmem : zs.getD i 0 ∈ zs := by
      rw [List.getD_eq_getElem?_getD, List.getElem?_eq_getElem (by omega)]; exact List.getElem_mem _
    have hw := hwz _ hmem
    have e1 : IntKind.u8.min = 0 := rfl
    have e2 : IntKind.u8.max = 255 := rfl
    simp [Lit.wf, e1, e2] at hw
    obtain ⟨n, hn⟩ : ∃ n : Nat, zs.getD i 0 = n := ⟨(zs.getD i 0).toNat, by have := hw.1; rw [List.getD_eq_getElem?_getD] at *; omega⟩
    refine ⟨b, off, rfl, World.block_lt_of_cell? w _ hc', n, ?_, by rw [hc', hn]⟩
    rw [List.getD_eq_getElem?_getD] at hn
    omega
theorem code_below {w w' : World} {B : Nat} {a : Option Addr} {len : Nat} (h : Code w B a len) (hb : Below B w w') : Code w' B a len :=
  ⟨h.1, Nat.le_trans h.2.1 hb.size, fun i hi => by
    obtain ⟨b, off, e, hl, n, hn, hc⟩ := h.2.2 i hi
    exact ⟨b, off, e, hl, n, hn, (hb.cell hl).trans hc⟩⟩
theorem src_new {w : World} {B len : Nat} {a : Option Addr} (hlen : len ≤ 9223372036854775807) (hB : B ≤ w.heap.size)
    (h : ∀ i, i < len → ∃ b off, a = some ⟨b, off, none⟩ ∧ b < B ∧ ∃ n : Nat, n ≤ 255 ∧ w.cell? ⟨b, off + i, none⟩ = some (.int .u8 (n : Int))) (o : Obj) : Src (w.alloc o) a len w.heap.size :=
  ⟨hlen, fun i hi => by
    obtain ⟨b, off, e, hb, n, hn, hc⟩ := h i hi
    refine ⟨b, off, e, by omega, n, hn, ?_⟩
    exact (grown_alloc (grown_refl w none) o).cell hc (by simp)⟩
/-- A cursor was made. -/
def Made (w : World) (e : Ending) (w' : World) : Prop := ∃ p, w.heap.size ≤ p ∧ e = .returned (.pointer (some ⟨p, 0, none⟩)) ∧ Cur w' p ∧ Below w.heap.size w w'
set_option maxRecDepth 100000 in
theorem new_any (a : Option Addr) (len cap B : Nat) (w : World) (hc : Code w B a len) :
    Calls Tryz.prog 42 #[.slice a len cap] w (Made w) := by
  obtain ⟨hlen, hB, hcs⟩ := hc
  have HC := Lib.hid hcs; clear hcs
  go_enter Tryz.func42, Tryz.ntmps42
  go_wp2
  go_loopw [3, 4] (fun v i wr => ∃ k : Nat, ∃ h : Int, k ≤ len ∧ i = .int .i64 k ∧ v = .int .i64 h ∧ wr = w) (fun _ i _ => len - (intOf i).toNat)
  case atStart => exact ⟨0, _, Nat.zero_le _, rfl, rfl, rfl⟩
  case round =>
    obtain ⟨k, h, hk, rfl, rfl, rfl⟩ := hrel
    by_cases hlt : k < len
    · obtain ⟨b, off, rfl, hb, n, hn, hcell⟩ := HC.out k hlt
      by_cases h4 : k < 4000
      · go_wp2
        go_roundw
        case rel => exact ⟨k + 1, _, by omega, by go_num, rfl, trivial⟩
        case measure => simp [intOf]; omega
      · go_wp2
        go_ret
        exact ⟨wr.heap.size, Nat.le_refl _, rfl, ⟨_, len, cap, 0, h, heap_alloc_new wr _, Nat.zero_le _, src_new (hlen := hlen) hB HC.out _⟩, (Below.refl _ _).alloc (Nat.le_refl _) _⟩
    · go_wp2
      go_ret
      exact ⟨wr.heap.size, Nat.le_refl _, rfl, ⟨_, len, cap, 0, h, heap_alloc_new wr _, Nat.zero_le _, src_new (hlen := hlen) hB HC.out _⟩, (Below.refl _ _).alloc (Nat.le_refl _) _⟩

theorem made_block (w : World) (cs : Array Value) (T : TypeId) (j : Nat) : (w.alloc (.cells cs T)).cell? ⟨w.heap.size, j, none⟩ = cs[j]? := by
  rw [cell_of_heap (heap_alloc_new w (.cells cs T))]
/-- l1Int over a literal list. -/
theorem ints_made (p len cap b : Nat) (zs : List Int) (lo hi : Int) (w : World) (T : TypeId) (cs : Array Value) (hlen : zs.length = len) (h1 : 1 ≤ len) (h2 : len ≤ 9223372036854775807)
    (hbb : b = w.heap.size) (hcs : cs = (zs.map (Value.int .i64)).toArray) (hz : ∀ z ∈ zs, lo ≤ z ∧ z ≤ hi) (hc : Cur w p) :
    Calls Tryz.prog 117 #[.pointer (some ⟨p, 0, none⟩), .slice (some ⟨b, 0, none⟩) len cap] (w.alloc (.cells cs T)) (DInt p w lo hi) := by
  subst hbb
  refine (int_any p w.heap.size len cap zs lo hi _ hlen h1 h2 (by have := cur_lt hc; omega) (fun j hj => ?_) hz (cur_alloc hc _)).mono fun e w' h => ⟨h.1, h.2.1, grown_trans (grown_alloc (grown_refl w _) _) h.2.2⟩
  rw [made_block, hcs]; simp [hj]
theorem strs_made (p len cap b : Nat) (zs : List ByteArray) (m : Nat) (w : World) (T : TypeId) (cs : Array Value) (hlen : zs.length = len) (h1 : 1 ≤ len) (h2 : len ≤ 9223372036854775807)
    (hbb : b = w.heap.size) (hcs : cs = (zs.map Value.string).toArray) (hz : ∀ z ∈ zs, z.size ≤ m) (hc : Cur w p) :
    Calls Tryz.prog 126 #[.pointer (some ⟨p, 0, none⟩), .slice (some ⟨b, 0, none⟩) len cap] (w.alloc (.cells cs T)) (DStr p w m) := by
  subst hbb
  refine (str_any p w.heap.size len cap zs m _ hlen h1 h2 (by have := cur_lt hc; omega) (fun j hj => ?_) hz (cur_alloc hc _)).mono fun e w' h => ⟨h.1, h.2.1, grown_trans (grown_alloc (grown_refl w _) _) h.2.2⟩
  rw [made_block, hcs]; simp [hj]

/-- An int64 was drawn. -/
abbrev DAny (p : Nat) (w : World) := DInt p w (-9223372036854775808) 9223372036854775807
/-- What the cursor's block is not: nothing below the call's own blocks is written. -/
theorem below_grown {B : Nat} {a w w' : World} {p : Nat} (h : Below B a w) (hg : w.grownBy w' (some p)) (hB : B ≤ w.heap.size) (hp : B ≤ p) : Below B a w' :=
  h.grown hg hB (fun k e => by cases e; exact hp)
/-- An int64 was drawn by a whole draw. -/
def GotInt (w : World) (e : Ending) (w' : World) : Prop :=
  (∃ n : Int, -9223372036854775808 ≤ n ∧ n ≤ 9223372036854775807 ∧ e = .returned (.int .i64 n)) ∧ Below w.heap.size w w'
def GotInt2 (w : World) (e : Ending) (w' : World) : Prop :=
  (∃ n m : Int, -9223372036854775808 ≤ n ∧ n ≤ 9223372036854775807 ∧ -9223372036854775808 ≤ m ∧ m ≤ 9223372036854775807 ∧ e = .returned (.tuple #[.int .i64 n, .int .i64 m])) ∧ Below w.heap.size w w'
def GotStr (w : World) (m : Nat) (e : Ending) (w' : World) : Prop :=
  (∃ s : ByteArray, s.size ≤ m ∧ e = .returned (.string s)) ∧ Below w.heap.size w w'
theorem big_no (a : Option Addr) (len cap : Nat) (w : World) (h : len ≤ 1048576) :
    Calls Tryz.prog 7 #[.slice a len cap] w fun e w' => e = .returned (.bool false) ∧ w = w' := by
  go_enter Tryz.func7, Tryz.ntmps7
  go_wp2
  go_ret
  exact ⟨by simp; omega, rfl⟩
theorem big_yes (a : Option Addr) (len cap : Nat) (w : World) (h : 1048576 < len) :
    Calls Tryz.prog 7 #[.slice a len cap] w fun e w' => e = .returned (.bool true) ∧ w = w' := by
  go_enter Tryz.func7, Tryz.ntmps7
  go_wp2
  go_ret
  exact ⟨by simp; omega, rfl⟩
end Go.Proofs.YtbnjaaegbmhopaaGreatDoor

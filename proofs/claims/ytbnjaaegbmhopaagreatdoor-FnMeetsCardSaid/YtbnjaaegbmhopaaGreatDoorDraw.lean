/- The model's cursor over the bytes of a draw: what each of its small functions gives, and what it leaves as it was. -/
import Derived.Test.YtbnjaaegbmhopaaGreatDoorInt
import Derived.Below
import Derived.WalkSmall
import Derived.RegionTactic
import Derived.ChangeAlike
import Derived.Deep.QuietTactic
import Derived.BigQuiet
import Derived.IntWalk
import Derived.OneCell
import Derived.Laws.BitsLemmas
import Derived.Laws.Rows
import Derived.Lib.Hide
namespace Go.Proofs.YtbnjaaegbmhopaaGreatDoor
open Go.ChangeShapes Go.WideShapes Go.ChangeAt Go.RowKit
set_option linter.unusedVariables false

/-- Bytes that can be read, outside block p. -/
def Src (w : World) (a : Option Addr) (len : Nat) (p : Nat) : Prop :=
  len ≤ 9223372036854775807 ∧ ∀ i, i < len → ∃ b off, a = some ⟨b, off, none⟩ ∧ b < p ∧ ∃ n : Nat, n ≤ 255 ∧ w.cell? ⟨b, off + i, none⟩ = some (.int .u8 (n : Int))
/-- Block p is a cursor. -/
def Cur (w : World) (p : Nat) : Prop :=
  ∃ a len cap, ∃ i : Nat, ∃ h : Int, w.heap[p]? = some (.cells #[.slice a len cap, .int .i64 i, .int .i64 h] 104 (0, 0)) ∧ i ≤ len ∧ Src w a len p
theorem cell_of_heap {w : World} {p : Nat} {cs : Array Value} {T : TypeId} (h : w.heap[p]? = some (.cells cs T (0, 0))) (j : Nat) : w.cell? ⟨p, j, none⟩ = cs[j]? := by
  simp [World.cell?, h]
theorem frozen_of_heap {w : World} {p : Nat} {cs : Array Value} {T : TypeId} (h : w.heap[p]? = some (.cells cs T (0, 0))) (j : Nat) : w.frozen? ⟨p, j, none⟩ = false := by
  simp [World.frozen?, h]
/-- An int between lo and hi was drawn; nothing but the cursor has been written. -/
def DInt (p : Nat) (w : World) (lo hi : Int) (e : Ending) (w' : World) : Prop :=
  (∃ n : Int, lo ≤ n ∧ n ≤ hi ∧ e = .returned (.int .i64 n)) ∧ Cur w' p ∧ w.grownBy w' (some p)
theorem and_bd (x : Int) (m : Nat) (hm : m < 9223372036854775808) : 0 ≤ bits .and .i64 x (m : Int) ∧ bits .and .i64 x (m : Int) ≤ m := by
  unfold bits
  simp only [BitVec.ofInt_natCast, BitVec.toNat_and, BitVec.toNat_ofNat]
  have h : (BitVec.ofInt IntKind.i64.bits x).toNat &&& m % 2 ^ IntKind.i64.bits ≤ m := Nat.le_trans Nat.and_le_right (Nat.mod_le _ _)
  generalize (BitVec.ofInt IntKind.i64.bits x).toNat &&& m % 2 ^ IntKind.i64.bits = n at h
  rw [IntKind.wrap_i64]
  omega
theorem grown_set {w w0 : World} {p : Nat} (hg : w0.grownBy w (some p)) (j : Nat) (v : Value) : w0.grownBy (w.setCell ⟨p, j, none⟩ v) (some p) :=
  ⟨hg.os, hg.tape, hg.output, Nat.le_trans hg.size (by simp [World.setCell]), fun k hk hne => (Below.heap_setCell _ _ _ _ (fun e => hne (by rw [e]))).trans (hg.block k hk hne)⟩
theorem grown_drewN {w w0 : World} {r : Option Nat} (hg : w0.grownBy w r) (n : Nat) : w0.grownBy (w.drewN n) r := ⟨hg.os, hg.tape, hg.output, hg.size, hg.block⟩
theorem grown_refl (w : World) (r : Option Nat) : w.grownBy w r := ⟨rfl, rfl, rfl, Nat.le_refl _, fun _ _ _ => rfl⟩
theorem src_grown {w w' : World} {a : Option Addr} {len p : Nat} (h : Src w a len p) (hg : w.grownBy w' (some p)) : Src w' a len p :=
  ⟨h.1, fun i hi => by
    obtain ⟨b, off, e, hb, n, hn, hc⟩ := h.2 i hi
    exact ⟨b, off, e, hb, n, hn, hg.cell hc (by simp; omega)⟩⟩
theorem cur_set {w : World} {p : Nat} {a : Option Addr} {len cap : Nat} {i : Nat} {h : Int} (hp : w.heap[p]? = some (.cells #[.slice a len cap, .int .i64 i, .int .i64 h] 104 (0, 0))) (x : Int) (q : Nat) :
    ((w.setCell ⟨p, 2, none⟩ (.int .i64 x)).drewN q).heap[p]? = some (.cells #[.slice a len cap, .int .i64 i, .int .i64 x] 104 (0, 0)) := by
  show (w.setCell ⟨p, 2, none⟩ (.int .i64 x)).heap[p]? = _
  rw [heap_setCell_same w p 2 _ _ _ hp]; rfl
theorem cur_set1 {w : World} {p : Nat} {a : Option Addr} {len cap : Nat} {i : Nat} {h : Int} (hp : w.heap[p]? = some (.cells #[.slice a len cap, .int .i64 i, .int .i64 h] 104 (0, 0))) (x : Int) :
    (w.setCell ⟨p, 1, none⟩ (.int .i64 x)).heap[p]? = some (.cells #[.slice a len cap, .int .i64 x, .int .i64 h] 104 (0, 0)) := by
  rw [heap_setCell_same w p 1 _ _ _ hp]; rfl
theorem dint_mk {p : Nat} {w w' : World} {n lo hi : Int} (h0 : lo ≤ n) (h1 : n ≤ hi) {a : Option Addr} {len cap i : Nat} {h : Int}
    (hp : w'.heap[p]? = some (.cells #[.slice a len cap, .int .i64 i, .int .i64 h] 104 (0, 0))) (hil : i ≤ len) (hs : Src w a len p) (hg : w.grownBy w' (some p)) :
    DInt p w lo hi (.returned (.int .i64 n)) w' := ⟨⟨n, h0, h1, rfl⟩, ⟨a, len, cap, i, h, hp, hil, src_grown hs hg⟩, hg⟩
theorem byte_any (p : Nat) (w : World) (hc : Cur w p) :
    Calls Tryz.prog 81 #[.pointer (some ⟨p, 0, none⟩)] w (DInt p w 0 255) := by
  obtain ⟨a, len, cap, i, h, hp, hi, hlen, hsrc⟩ := hc
  have c0 : w.cell? ⟨p, 0, none⟩ = some (.slice a len cap) := by rw [cell_of_heap hp]; rfl
  have c1 : w.cell? ⟨p, 1, none⟩ = some (.int .i64 i) := by rw [cell_of_heap hp]; rfl
  have c2 : w.cell? ⟨p, 2, none⟩ = some (.int .i64 h) := by rw [cell_of_heap hp]; rfl
  have f1 := frozen_of_heap hp 1
  have f2 := frozen_of_heap hp 2
  have HS : Hid (Src w a len p) := Lib.hid ⟨hlen, hsrc⟩
  have HP := Lib.hid hp; clear hp
  by_cases hlt : i < len
  · obtain ⟨b, off, rfl, hb0, n, hn, hcell⟩ := hsrc i hlt
    have hb : b ≠ p := Nat.ne_of_lt hb0
    clear hsrc hb0
    go_enter Tryz.func81, Tryz.ntmps81
    go_wp2
    go_quiet (fail)
    go_wp2
    go_quiet (fail)
    go_wp2
    go_quiet (fail)
    go_wp2
    go_ret
    exact dint_mk (and_bd _ 255 (by decide)).1 (and_bd _ 255 (by decide)).2 (cur_set1 (i := i) (cur_set HP.out _ _) (i + 1 : Nat)) (by omega) HS.out (grown_set (grown_drewN (grown_set (grown_refl w _) _ _) _) _ _)
  · clear hsrc
    go_enter Tryz.func81, Tryz.ntmps81
    go_wp2
    go_quiet (fail)
    go_wp2
    go_quiet (fail)
    go_wp2
    go_ret
    exact dint_mk (and_bd _ 255 (by decide)).1 (and_bd _ 255 (by decide)).2 (w' := ((w.setCell ⟨p, 2, none⟩ (.int .i64 _)).drewN _).drewN _) (show (w.setCell ⟨p, 2, none⟩ (.int .i64 _)).heap[p]? = _ from cur_set HP.out _ 0) hi HS.out (grown_drewN (grown_drewN (grown_set (grown_refl w _) _ _) _) _)
theorem grown_trans {a b c : World} {p : Nat} (h : a.grownBy b (some p)) (k : b.grownBy c (some p)) : a.grownBy c (some p) :=
  ⟨k.os.trans h.os, k.tape.trans h.tape, k.output.trans h.output, Nat.le_trans h.size k.size, fun i hi hne => (k.block i (Nat.lt_of_lt_of_le hi h.size) hne).trans (h.block i hi hne)⟩
theorem grown_alloc {a b : World} {r : Option Nat} (h : a.grownBy b r) (o : Obj) : a.grownBy (b.alloc o) r :=
  ⟨h.os, h.tape, h.output, Nat.le_trans h.size (by simp), fun i hi hne => (Below.heap_alloc _ _ _ (Nat.lt_of_lt_of_le hi h.size)).trans (h.block i hi hne)⟩
theorem cur_lt {w : World} {p : Nat} (h : Cur w p) : p < w.heap.size := by
  obtain ⟨a, len, cap, i, h, hp, _⟩ := h
  exact (Array.getElem?_eq_some_iff.1 hp).1
theorem src_alloc {w : World} {a : Option Addr} {len p : Nat} (h : Src w a len p) (o : Obj) : Src (w.alloc o) a len p := src_grown h (grown_alloc (grown_refl w _) o)
theorem cur_alloc {w : World} {p : Nat} (h : Cur w p) (o : Obj) : Cur (w.alloc o) p := by
  have hlt := cur_lt h
  obtain ⟨a, len, cap, i, h, hp, hi, hs⟩ := h
  exact ⟨a, len, cap, i, h, (Below.heap_alloc _ _ _ hlt).trans hp, hi, src_alloc hs o⟩
theorem cur_below {w w' : World} {p B : Nat} (h : Cur w p) (hb : Below B w w') (hp : p < B) : Cur w' p := by
  obtain ⟨a, len, cap, i, h, hp', hi, hlen, hs⟩ := h
  refine ⟨a, len, cap, i, h, (hb.block p hp).trans hp', hi, hlen, fun j hj => ?_⟩
  obtain ⟨b, off, e, hlt, n, hn, hc⟩ := hs j hj
  exact ⟨b, off, e, hlt, n, hn, (hb.cell (p := ⟨b, off + j, none⟩) (Nat.lt_trans hlt hp)).trans hc⟩
/-- A bool was drawn. -/
def DBool (p : Nat) (w : World) (e : Ending) (w' : World) : Prop :=
  (∃ b : Bool, e = .returned (.bool b)) ∧ Cur w' p ∧ w.grownBy w' (some p)
/-- A text of at most m bytes was drawn. -/
def DStr (p : Nat) (w : World) (m : Nat) (e : Ending) (w' : World) : Prop :=
  (∃ s : ByteArray, s.size ≤ m ∧ e = .returned (.string s)) ∧ Cur w' p ∧ w.grownBy w' (some p)

theorem below_any (p : Nat) (n : Int) (w : World) (h1 : 1 ≤ n) (h2 : n ≤ 9223372036854775807) (hc : Cur w p) :
    Calls Tryz.prog 47 #[.pointer (some ⟨p, 0, none⟩), .int .i64 n] w (DInt p w 0 (n - 1)) := by
  by_cases hs : n ≤ 256
  · go_enter Tryz.func47, Tryz.ntmps47
    go_wp2_with fail
    refine (byte_any p _ hc).mono ?_
    rintro e w1 ⟨⟨x, hx0, hx1, rfl⟩, hc1, hg1⟩
    have b0 : 0 ≤ x % n := Int.emod_nonneg _ (by omega)
    have b1 : x % n < n := Int.emod_lt_of_pos _ (by omega)
    go_wp2
    go_ret
    exact ⟨⟨_, b0, by omega, rfl⟩, hc1, hg1⟩
  · go_enter Tryz.func47, Tryz.ntmps47
    go_wp2_with fail
    refine (byte_any p _ hc).mono ?_
    rintro e w1 ⟨⟨x, hx0, hx1, rfl⟩, hc1, hg1⟩
    go_wp2_with fail
    refine (byte_any p _ hc1).mono ?_
    rintro e w2 ⟨⟨y, hy0, hy1, rfl⟩, hc2, hg2⟩
    go_wp2_with fail
    refine (byte_any p _ hc2).mono ?_
    rintro e w3 ⟨⟨z, hz0, hz1, rfl⟩, hc3, hg3⟩
    have b0 : 0 ≤ (x * 65536 + y * 256 + z) % n := Int.emod_nonneg _ (by omega)
    have b1 : (x * 65536 + y * 256 + z) % n < n := Int.emod_lt_of_pos _ (by omega)
    go_wp2
    go_ret
    exact ⟨⟨_, b0, by omega, rfl⟩, hc3, grown_trans hg1 (grown_trans hg2 hg3)⟩
theorem int_any (p b len cap : Nat) (zs : List Int) (lo hi : Int) (w : World) (hlen : zs.length = len) (h1 : 1 ≤ len) (h2 : len ≤ 9223372036854775807) (hb : b ≠ p)
    (hcs : ∀ j (h : j < zs.length), w.cell? ⟨b, j, none⟩ = some (.int .i64 zs[j])) (hz : ∀ z ∈ zs, lo ≤ z ∧ z ≤ hi) (hc : Cur w p) :
    Calls Tryz.prog 117 #[.pointer (some ⟨p, 0, none⟩), .slice (some ⟨b, 0, none⟩) len cap] w (DInt p w lo hi) := by
  have HC := Lib.hid hcs; clear hcs
  have HL := Lib.hid hlen; clear hlen
  have HZ := Lib.hid hz; clear hz
  go_enter Tryz.func117, Tryz.ntmps117
  go_wp2_with fail
  refine (below_any p len _ (by omega) (by omega) hc).mono ?_
  rintro e w1 ⟨⟨x, hx0, hx1, rfl⟩, hc1, hg1⟩
  obtain ⟨j, rfl⟩ : ∃ j : Nat, x = j := ⟨x.toNat, by omega⟩
  have hj : j < zs.length := by rw [HL.out]; omega
  have hcell : w1.cell? ⟨b, j, none⟩ = some (.int .i64 zs[j]) := hg1.cell (HC.out j hj) (by simpa using hb)
  obtain ⟨z, hz⟩ : ∃ z, zs[j] = z := ⟨_, rfl⟩
  rw [hz] at hcell
  have hm := HZ.out z (by rw [← hz]; exact List.getElem_mem _)
  clear hz
  have hj' : j < len := by omega
  clear hj
  go_wp2
  go_ret
  exact ⟨⟨z, hm.1, hm.2, rfl⟩, hc1, hg1⟩
theorem str_any (p b len cap : Nat) (zs : List ByteArray) (m : Nat) (w : World) (hlen : zs.length = len) (h1 : 1 ≤ len) (h2 : len ≤ 9223372036854775807) (hb : b ≠ p)
    (hcs : ∀ j (h : j < zs.length), w.cell? ⟨b, j, none⟩ = some (.string zs[j])) (hz : ∀ z ∈ zs, z.size ≤ m) (hc : Cur w p) :
    Calls Tryz.prog 126 #[.pointer (some ⟨p, 0, none⟩), .slice (some ⟨b, 0, none⟩) len cap] w (DStr p w m) := by
  have HC := Lib.hid hcs; clear hcs
  have HL := Lib.hid hlen; clear hlen
  have HZ := Lib.hid hz; clear hz
  go_enter Tryz.func126, Tryz.ntmps126
  go_wp2_with fail
  refine (below_any p len _ (by omega) (by omega) hc).mono ?_
  rintro e w1 ⟨⟨x, hx0, hx1, rfl⟩, hc1, hg1⟩
  obtain ⟨j, rfl⟩ : ∃ j : Nat, x = j := ⟨x.toNat, by omega⟩
  have hj : j < zs.length := by rw [HL.out]; omega
  have hcell : w1.cell? ⟨b, j, none⟩ = some (.string zs[j]) := hg1.cell (HC.out j hj) (by simpa using hb)
  obtain ⟨z, hz⟩ : ∃ z, zs[j] = z := ⟨_, rfl⟩
  rw [hz] at hcell
  have hm := HZ.out z (by rw [← hz]; exact List.getElem_mem _)
  clear hz
  have hj' : j < len := by omega
  clear hj
  go_wp2
  go_ret
  exact ⟨⟨z, hm, rfl⟩, hc1, hg1⟩
end Go.Proofs.YtbnjaaegbmhopaaGreatDoor

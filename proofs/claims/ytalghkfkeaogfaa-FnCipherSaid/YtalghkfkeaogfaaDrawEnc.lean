/- The model's draws of bytes, and of chapter 2: what they give is bounded; nothing that existed before the draw is written. -/
import Derived.Test.YtalghkfkeaogfaaDrawInt
import Derived.Test.YtalghkfkeaogfaaSEnc
namespace Go.Proofs.Ytalghkfkeaogfaa
open Go.RowKit
set_option linter.unusedVariables false

/-- Bytes were drawn, at most m. -/
def DBytes (p m : Nat) (w : World) (e : Ending) (w' : World) : Prop :=
  ∃ A c L, B8 L ∧ L.length ≤ m ∧ e = .returned (.slice A L.length c) ∧ Own w' w.heap.size 5 .u8 (.slice A L.length c) L ∧ Cur w' p ∧ w.grownBy w' (some p)
def BytesRel (p n : Nat) (w : World) (v i : Value) (wr : World) : Prop :=
  ∃ (A : Option Addr) (c : Nat) (L : List Int) (j : Nat), j ≤ n ∧ i = .int .i64 j ∧ v = .slice A L.length c ∧ L.length ≤ j ∧ B8 L ∧ Own wr w.heap.size 5 .u8 (.slice A L.length c) L ∧ Cur wr p ∧ w.grownBy wr (some p)
theorem own_cursor {w w' : World} {B p : Nat} {T : TypeId} {k : IntKind} {v : Value} {L : List Int} (h : Own w B T k v L) (hg : w.grownBy w' (some p)) (hp : p < B) : Own w' B T k v L := by
  refine h.kept hg ?_
  match hv : v.ownBlock with
  | none => exact .inl rfl
  | some g => exact .inr (by have := (World.ownsRow.lt h g hv).1; simp; omega)
theorem grown_below {w0 w w' : World} {p B : Nat} (h : w0.grownBy w (some p)) (hb : Below B w w') (hB : w0.heap.size ≤ B) : w0.grownBy w' (some p) :=
  ⟨hb.os.trans h.os, hb.tape.trans h.tape, hb.output.trans h.output, Nat.le_trans h.size hb.size, fun k hk hne => (hb.block k (by omega)).trans (h.block k hk hne)⟩
theorem snoc_B8 {L L' : List Int} {x : Int} (h : B8 L) (h0 : 0 ≤ x) (h1 : x ≤ 255) (e : L' = L ++ [x]) : B8 L' := by subst e; exact h.append (B8.cons h0 h1 B8.nil)
set_option maxRecDepth 100000 in
theorem bytes_any (p n : Nat) (w : World) (hn : n ≤ 1000) (hc : Cur w p) :
    Calls Try.prog 46 #[.pointer (some ⟨p, 0, none⟩), .int .i64 n] w (DBytes p n w) := by
  have hp := cur_lt hc
  go_enter Try.func46, Try.ntmps46
  go_wp2
  go_loopw [5, 6] (fun v i wr => BytesRel p n w v i wr) (fun _ i _ => n - (intOf i).toNat)
  case atStart => exact ⟨_, 0, [], 0, Nat.zero_le _, rfl, rfl, Nat.le_refl _, B8.nil, Own.lit w w.heap.size 5 .u8 (Nat.le_refl _), cur_alloc hc _, grown_alloc (grown_refl w _) _⟩
  case round =>
    obtain ⟨A, c, L, j, hj, rfl, rfl, hL, h8, ho, hcr, hg⟩ := hrel
    have H8 : Hid (B8 L) := Lib.hid h8
    have HO := Lib.hid ho; have HG := Lib.hid hg; have HC := Lib.hid hcr
    clear h8 ho hg hcr
    by_cases hlt : j < n
    · go_wp2_with fail
      refine (byte_any p _ HC.out).mono ?_
      rintro e w1 ⟨⟨x, hx0, hx1, rfl⟩, hc1, hg1⟩
      have HC1 := Lib.hid hc1
      have HG1 := Lib.hid (grown_trans HG.out hg1)
      have ho1 := own_cursor HO.out hg1 hp
      have hsz := HG1.out.size
      clear hc1 hg1
      go_wp2_with (at_builtin; refine app8 _ rfl _ _ rfl w.heap.size _ L rfl (ho1.alloc _) (w1.heap.size + 1) _ 1 _ [_] rfl rfl (sees_new w1 .u8 _ 5 _ (by omega)) (by simp; omega) (by simp; omega) ?_; intro A2 c2 L2 w2 hL2 h1 h2 ho2 hb2)
      go_roundw
      case rel => exact ⟨A2, c2, L2, j + 1, by omega, by go_num, rfl, by simp at h1; omega, snoc_B8 H8.out hx0 hx1 hL2.out, ho2, cur_below (cur_alloc HC1.out _) hb2 hp, grown_below (grown_alloc HG1.out _) hb2 (Nat.le_refl _)⟩
      case measure => simp [intOf]; omega
    · obtain rfl : j = n := by omega
      go_wp2
      go_ret
      exact ⟨A, c, L, H8.out, hL, rfl, HO.out, HC.out, HG.out⟩
/-- Bytes and a number were drawn by a whole draw. -/
def GotBN (m : Nat) (w : World) (e : Ending) (w' : World) : Prop :=
  ∃ A c L, ∃ n : Int, B8 L ∧ L.length ≤ m ∧ -9223372036854775808 ≤ n ∧ n ≤ 9223372036854775807 ∧ e = .returned (.tuple #[.slice A L.length c, .int .i64 n]) ∧ Own w' w.heap.size 5 .u8 (.slice A L.length c) L ∧ Below w.heap.size w w'
def GotBB (m : Nat) (w : World) (e : Ending) (w' : World) : Prop :=
  ∃ A c L A' c' L', B8 L ∧ L.length ≤ m ∧ B8 L' ∧ L'.length ≤ m ∧ e = .returned (.tuple #[.slice A L.length c, .slice A' L'.length c']) ∧ Own w' w.heap.size 5 .u8 (.slice A L.length c) L ∧ Own w' w.heap.size 5 .u8 (.slice A' L'.length c') L' ∧ Below w.heap.size w w'
/-- A byte of the input, or a number of its own. -/
def AtOut (w : World) (e : Ending) (w' : World) : Prop := ∃ n : Int, 0 ≤ n ∧ n ≤ 255 ∧ e = .returned (.int .i64 n) ∧ w = w'
theorem at_nat (A : Option Addr) (c k B : Nat) (l : List Int) (w : World) (hs : Sees w B .u8 A l) (h8 : B8 l) (hk : k ≤ 1000) (hl : l.length ≤ 1048576) :
    Calls Try.prog 21 #[.slice A l.length c, .int .i64 k] w (AtOut w) := by
  by_cases h : k < l.length
  · obtain ⟨b, off, x, rfl, hbl, hx, hc⟩ := hs.lt h
    have hx8 := h8 x (List.mem_of_getElem? hx)
    clear hs h8 hx
    go_enter Try.func21, Try.ntmps21
    go_wp2
    go_ret
    exact ⟨x, hx8.1, hx8.2, rfl, rfl⟩
  · clear hs h8
    go_enter Try.func21, Try.ntmps21
    go_wp2
    go_ret
    exact ⟨_, by omega, by omega, rfl, rfl⟩
theorem at_any (A : Option Addr) (c B : Nat) (k : Int) (l : List Int) (w : World) (hs : Sees w B .u8 A l) (h8 : B8 l) (h0 : 0 ≤ k) (hk : k ≤ 1000) (hl : l.length ≤ 1048576) :
    Calls Try.prog 21 #[.slice A l.length c, .int .i64 k] w (AtOut w) := by
  obtain ⟨n, rfl⟩ : ∃ n : Nat, k = n := ⟨k.toNat, by omega⟩
  exact at_nat A c n B l w hs h8 (by omega) hl
end Go.Proofs.Ytalghkfkeaogfaa

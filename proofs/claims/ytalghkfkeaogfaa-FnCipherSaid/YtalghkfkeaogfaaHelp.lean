/- The laws' own helpers over slices of integers: a copy, a comparison, a mark and the look at it. -/
import Derived.Test.YtalghkfkeaogfaaMem
import Derived.LoopTactic
namespace Go.Proofs.Ytalghkfkeaogfaa
open Go.RowKit
set_option linter.unusedVariables false

def ToByteSRel (B : Nat) (l : List Int) (w : World) (i : Value) (wr : World) : Prop :=
  ∃ (j : Nat) (L : List Int), j ≤ l.length ∧ i = .int .i64 j ∧ L.length = l.length ∧ Filled (fun i => l[i]?) j L ∧ Row wr B 5 .u8 l.length L ∧ Below B w wr
theorem toByteS_any (A : Option Addr) (c : Nat) (l : List Int) (w : World) (hs : Sees w w.heap.size .u8 A l) (hl : l.length ≤ 17592186044416) :
    Calls Try.prog 32 #[.slice A l.length c] w (Gives 5 .u8 l w) := by
  have HS := Lib.hid hs; clear hs
  go_enter Try.func32, Try.ntmps32
  go_wp2_with (at_make; refine make8 w rfl _ _ rfl .i64 .i64 l.length rfl rfl hl ?_; intro w1 hrow hb1)
  have HR := Lib.hid hrow; clear hrow
  have HB := Lib.hid hb1; clear hb1
  go_loopw [4] (fun i wr => ToByteSRel w.heap.size l w i wr) (fun i _ => l.length - (intOf i).toNat)
  case atStart => exact ⟨0, _, Nat.zero_le _, rfl, by simp, Filled.zero _ _, HR.out, HB.out⟩
  case round =>
    obtain ⟨j, L, hj, rfl, hL, hf, hr, hb⟩ := hrel
    clear HR HB
    have HL := Lib.hid hL; clear hL
    by_cases hlt : j < l.length
    · obtain ⟨b, off, x, rfl, hbl, hx, hc⟩ := (HS.out.below hb).lt hlt
      obtain ⟨y, hy⟩ : ∃ y, L[j]? = some y := ⟨_, List.getElem?_eq_getElem (by rw [HL.out]; exact hlt)⟩
      have hcell := hr.cell hy
      have hfr := hr.frozen j
      have HF := Lib.hid hf; clear hf
      have HR := Lib.hid hr; clear hr
      have HX := Lib.hid hx; clear hx
      clear hy
      go_wp2
      go_roundw
      case rel => exact ⟨j + 1, L.set j x, by omega, by go_num, by rw [List.length_set]; exact HL.out, HF.out.set (by rw [HL.out]; exact hlt) HX.out, HR.out.set j x, hb.setCell (Nat.le_refl _) _⟩
      case measure => simp [intOf]; omega
    · obtain rfl : j = l.length := by omega
      have HF := Lib.hid hf; clear hf
      have HR := Lib.hid hr; clear hr
      go_wp2
      go_ret
      have e : L = l := Filled.done (f := fun i => l[i]?) (by rw [HL.out]; exact HF.out) HL.out.symm (fun _ _ => rfl)
      have hr := HR.out
      rw [e] at hr
      exact ⟨_, _, l, Lib.hid rfl, rfl, hr.own (Nat.le_refl _), hb⟩
def ToIntSRel (B : Nat) (l : List Int) (w : World) (i : Value) (wr : World) : Prop :=
  ∃ (j : Nat) (L : List Int), j ≤ l.length ∧ i = .int .i64 j ∧ L.length = l.length ∧ Filled (fun i => l[i]?) j L ∧ Row wr B 3 .i64 l.length L ∧ Below B w wr
theorem toIntS_any (A : Option Addr) (c : Nat) (l : List Int) (w : World) (hs : Sees w w.heap.size .i64 A l) (hl : l.length ≤ 17592186044416) :
    Calls Try.prog 27 #[.slice A l.length c] w (Gives 3 .i64 l w) := by
  have HS := Lib.hid hs; clear hs
  go_enter Try.func27, Try.ntmps27
  go_wp2_with (at_make; refine make64 w rfl _ _ rfl .i64 .i64 l.length rfl rfl hl ?_; intro w1 hrow hb1)
  have HR := Lib.hid hrow; clear hrow
  have HB := Lib.hid hb1; clear hb1
  go_loopw [4] (fun i wr => ToIntSRel w.heap.size l w i wr) (fun i _ => l.length - (intOf i).toNat)
  case atStart => exact ⟨0, _, Nat.zero_le _, rfl, by simp, Filled.zero _ _, HR.out, HB.out⟩
  case round =>
    obtain ⟨j, L, hj, rfl, hL, hf, hr, hb⟩ := hrel
    clear HR HB
    have HL := Lib.hid hL; clear hL
    by_cases hlt : j < l.length
    · obtain ⟨b, off, x, rfl, hbl, hx, hc⟩ := (HS.out.below hb).lt hlt
      obtain ⟨y, hy⟩ : ∃ y, L[j]? = some y := ⟨_, List.getElem?_eq_getElem (by rw [HL.out]; exact hlt)⟩
      have hcell := hr.cell hy
      have hfr := hr.frozen j
      have HF := Lib.hid hf; clear hf
      have HR := Lib.hid hr; clear hr
      have HX := Lib.hid hx; clear hx
      clear hy
      go_wp2
      go_roundw
      case rel => exact ⟨j + 1, L.set j x, by omega, by go_num, by rw [List.length_set]; exact HL.out, HF.out.set (by rw [HL.out]; exact hlt) HX.out, HR.out.set j x, hb.setCell (Nat.le_refl _) _⟩
      case measure => simp [intOf]; omega
    · obtain rfl : j = l.length := by omega
      have HF := Lib.hid hf; clear hf
      have HR := Lib.hid hr; clear hr
      go_wp2
      go_ret
      have e : L = l := Filled.done (f := fun i => l[i]?) (by rw [HL.out]; exact HF.out) HL.out.symm (fun _ _ => rfl)
      have hr := HR.out
      rw [e] at hr
      exact ⟨_, _, l, Lib.hid rfl, rfl, hr.own (Nat.le_refl _), hb⟩
theorem eqByteS_yes (A A' : Option Addr) (c c' B B' : Nat) (l l' : List Int) (w : World) (hs : Sees w B .u8 A l) (hs' : Sees w B' .u8 A' l') (he : l = l') (hl : l.length ≤ 17592186044416) :
    Calls Try.prog 34 #[.slice A l.length c, .slice A' l'.length c'] w fun e w' => e = .returned (.bool true) ∧ Below w.heap.size w w' := by
  subst he
  have HS := Lib.hid hs; clear hs
  have HS' := Lib.hid hs'; clear hs'
  go_enter Try.func34, Try.ntmps34
  go_wp2
  go_loopw [5] (fun i wr => ∃ (j n : Nat), j ≤ l.length ∧ i = .int .i64 j ∧ wr = w.drewN n) (fun i _ => l.length - (intOf i).toNat)
  case atStart => exact ⟨0, 0, Nat.zero_le _, rfl, rfl⟩
  case round =>
    obtain ⟨j, n, hj, rfl, rfl⟩ := hrel
    by_cases hlt : j < l.length
    · obtain ⟨b, off, x, rfl, hbl, hx, hc⟩ := HS.out.lt hlt
      obtain ⟨b', off', hA', hbl', hc'⟩ := HS'.out j x hx
      subst hA'
      clear hx
      go_wp2
      go_quiet (fail)
      go_wp2
      go_roundw
      case rel => exact ⟨j + 1, _, by omega, by go_num, rfl⟩
      case measure => simp [intOf]; omega
    · go_wp2
      go_ret
      exact ⟨rfl, below_drewN (Below.refl _ _) _⟩
theorem eqByteS_n (A A' : Option Addr) (n n' c c' B B' : Nat) (l l' : List Int) (w : World) (hn : n = l.length) (hn' : n' = l'.length) (hs : Sees w B .u8 A l) (hs' : Sees w B' .u8 A' l') (he : l = l') (hl : l.length ≤ 17592186044416) :
    Calls Try.prog 34 #[.slice A n c, .slice A' n' c'] w fun e w' => e = .returned (.bool true) ∧ Below w.heap.size w w' := by
  subst hn; subst hn'; exact eqByteS_yes A A' c c' B B' l l' w hs hs' he hl
theorem sameBytes_yes (A A' : Option Addr) (c c' B B' : Nat) (l l' : List Int) (w : World) (hs : Sees w B .u8 A l) (hs' : Sees w B' .u8 A' l') (he : l = l') (hl : l.length ≤ 17592186044416) :
    Calls Try.prog 15 #[.slice A l.length c, .slice A' l'.length c'] w fun e w' => e = .returned (.bool true) ∧ Below w.heap.size w w' := by
  subst he
  have HS := Lib.hid hs; clear hs
  have HS' := Lib.hid hs'; clear hs'
  go_enter Try.func15, Try.ntmps15
  go_wp2
  go_loopw [5] (fun i wr => ∃ (j n : Nat), j ≤ l.length ∧ i = .int .i64 j ∧ wr = w.drewN n) (fun i _ => l.length - (intOf i).toNat)
  case atStart => exact ⟨0, 0, Nat.zero_le _, rfl, rfl⟩
  case round =>
    obtain ⟨j, n, hj, rfl, rfl⟩ := hrel
    by_cases hlt : j < l.length
    · obtain ⟨b, off, x, rfl, hbl, hx, hc⟩ := HS.out.lt hlt
      obtain ⟨b', off', hA', hbl', hc'⟩ := HS'.out j x hx
      subst hA'
      clear hx
      go_wp2
      go_quiet (fail)
      go_wp2
      go_roundw
      case rel => exact ⟨j + 1, _, by omega, by go_num, rfl⟩
      case measure => simp [intOf]; omega
    · go_wp2
      go_ret
      exact ⟨rfl, below_drewN (Below.refl _ _) _⟩
theorem sameBytes_n (A A' : Option Addr) (n n' c c' B B' : Nat) (l l' : List Int) (w : World) (hn : n = l.length) (hn' : n' = l'.length) (hs : Sees w B .u8 A l) (hs' : Sees w B' .u8 A' l') (he : l = l') (hl : l.length ≤ 17592186044416) :
    Calls Try.prog 15 #[.slice A n c, .slice A' n' c'] w fun e w' => e = .returned (.bool true) ∧ Below w.heap.size w w' := by
  subst hn; subst hn'; exact sameBytes_yes A A' c c' B B' l l' w hs hs' he hl
theorem eqIntS_yes (A A' : Option Addr) (c c' B B' : Nat) (l l' : List Int) (w : World) (hs : Sees w B .i64 A l) (hs' : Sees w B' .i64 A' l') (he : l = l') (hl : l.length ≤ 17592186044416) :
    Calls Try.prog 28 #[.slice A l.length c, .slice A' l'.length c'] w fun e w' => e = .returned (.bool true) ∧ Below w.heap.size w w' := by
  subst he
  have HS := Lib.hid hs; clear hs
  have HS' := Lib.hid hs'; clear hs'
  go_enter Try.func28, Try.ntmps28
  go_wp2
  go_loopw [5] (fun i wr => ∃ (j n : Nat), j ≤ l.length ∧ i = .int .i64 j ∧ wr = w.drewN n) (fun i _ => l.length - (intOf i).toNat)
  case atStart => exact ⟨0, 0, Nat.zero_le _, rfl, rfl⟩
  case round =>
    obtain ⟨j, n, hj, rfl, rfl⟩ := hrel
    by_cases hlt : j < l.length
    · obtain ⟨b, off, x, rfl, hbl, hx, hc⟩ := HS.out.lt hlt
      obtain ⟨b', off', hA', hbl', hc'⟩ := HS'.out j x hx
      subst hA'
      clear hx
      go_wp2
      go_quiet (fail)
      go_wp2
      go_roundw
      case rel => exact ⟨j + 1, _, by omega, by go_num, rfl⟩
      case measure => simp [intOf]; omega
    · go_wp2
      go_ret
      exact ⟨rfl, below_drewN (Below.refl _ _) _⟩
theorem eqIntS_n (A A' : Option Addr) (n n' c c' B B' : Nat) (l l' : List Int) (w : World) (hn : n = l.length) (hn' : n' = l'.length) (hs : Sees w B .i64 A l) (hs' : Sees w B' .i64 A' l') (he : l = l') (hl : l.length ≤ 17592186044416) :
    Calls Try.prog 28 #[.slice A n c, .slice A' n' c'] w fun e w' => e = .returned (.bool true) ∧ Below w.heap.size w w' := by
  subst hn; subst hn'; exact eqIntS_yes A A' c c' B B' l l' w hs hs' he hl
/-- What a mark lays: the numbers from k0 on, as the kind has them. -/
def f8 (i : Nat) : Int := ((i % 256 : Nat) : Int)
def f64 (i : Nat) : Int := (i : Int)
def mk (f : Nat → Int) (k0 n : Nat) : List Int := (List.range n).map fun i => f (k0 + i)
theorem mk_len (f : Nat → Int) (k0 n : Nat) : (mk f k0 n).length = n := by simp [mk]
theorem mk_get (f : Nat → Int) (k0 n i : Nat) (h : i < n) : (mk f k0 n)[i]? = some (f (k0 + i)) := by simp [mk, h]
theorem grown_setCell {w w0 : World} {p : Nat} (hg : w0.grownBy w (some p)) (j : Nat) (v : Value) : w0.grownBy (w.setCell ⟨p, j, none⟩ v) (some p) :=
  ⟨hg.os, hg.tape, hg.output, Nat.le_trans hg.size (by simp [World.setCell]), fun k hk hne => (Below.heap_setCell _ _ _ _ (fun e => hne (by rw [e]))).trans (hg.block k hk hne)⟩
def MarkByteSRel (B : Nat) (A : Option Addr) (n c k0 : Nat) (w : World) (kk i : Value) (wr : World) : Prop :=
  ∃ (j : Nat) (L : List Int), j ≤ n ∧ i = .int .i64 j ∧ kk = .int .i64 (k0 + j : Nat) ∧ L.length = n ∧ Filled (fun i => some (f8 (k0 + i))) j L ∧ Own wr B 5 .u8 (.slice A n c) L ∧ w.grownBy wr (Value.ownBlock (.slice A n c))
/-- The row has been marked; nothing else has turned. -/
def MarkedByteS (B : Nat) (A : Option Addr) (n c k0 : Nat) (w : World) (e : Ending) (w' : World) : Prop :=
  e = .returned (.int .i64 (k0 + n : Nat)) ∧ Own w' B 5 .u8 (.slice A n c) (mk f8 k0 n) ∧ w.grownBy w' (Value.ownBlock (.slice A n c))
theorem markByteS_any (A : Option Addr) (n c k0 B : Nat) (l : List Int) (w : World) (hn : l.length = n) (ho : Own w B 5 .u8 (.slice A n c) l) (hl : n ≤ 17592186044416) (hk : k0 ≤ 17592186044416) :
    Calls Try.prog 35 #[.slice A n c, .int .i64 k0] w (MarkedByteS B A n c k0 w) := by
  have HO := Lib.hid ho; clear ho
  have HN := Lib.hid hn; clear hn
  go_enter Try.func35, Try.ntmps35
  go_wp2
  go_loopw [1, 5] (fun kk i wr => MarkByteSRel B A n c k0 w kk i wr) (fun _ i _ => n - (intOf i).toNat)
  case atStart => exact ⟨0, l, Nat.zero_le _, rfl, rfl, HN.out, Filled.zero _ _, HO.out, World.grownBy.refl _ _⟩
  case round =>
    obtain ⟨j, L, hj, rfl, rfl, hL, hf, ho, hg⟩ := hrel
    clear HO HN
    by_cases hlt : j < n
    · obtain ⟨g, rfl, hB, -, hr⟩ := ho.row (by omega)
      obtain ⟨y, hy⟩ : ∃ y, L[j]? = some y := ⟨_, List.getElem?_eq_getElem (by omega)⟩
      have hcell := hr.cell hy
      have hfr := hr.frozen j
      have HF := Lib.hid hf; clear hf
      have HR := Lib.hid hr; clear hr
      have HL := Lib.hid hL; clear hL
      have HO := Lib.hid ho; clear ho
      have HG := Lib.hid hg; clear hg
      clear hy
      go_wp2
      go_roundw
      case rel =>
        have h1 := HF.out.set (x := f8 (k0 + j)) (by rw [HL.out]; exact hlt) rfl
        have e : (L.set j (f8 (k0 + j))).length = n := by rw [List.length_set]; exact HL.out
        have h2 := (HR.out.set j (f8 (k0 + j))).own hB
        rw [e] at h2
        have hx : f8 (k0 + j) = ((k0:Int)+(j:Int))%256 := by unfold f8; omega
        rw [hx] at h1 h2 e
        exact ⟨j + 1, _, by omega, by go_num, by go_num, e, h1, h2, grown_setCell HG.out j _⟩
      case measure => simp [intOf]; omega
    · obtain rfl : j = n := by omega
      have HF := Lib.hid hf; clear hf
      have HO := Lib.hid ho; clear ho
      have HG := Lib.hid hg; clear hg
      have HL := Lib.hid hL; clear hL
      go_wp2
      go_ret
      have e : L = mk f8 k0 j := Filled.done (f := fun i => some (f8 (k0 + i))) (by rw [HL.out]; exact HF.out) (by rw [mk_len]; exact HL.out.symm) (fun i hi => mk_get _ _ _ _ (by rw [mk_len] at hi; exact hi))
      have ho := HO.out
      rw [e] at ho
      exact ⟨rfl, ho, HG.out⟩
/-- The mark of a held row. -/
def MarkByteSHeld (lo hi : Nat) (A : Option Addr) (n c k0 : Nat) (w : World) (e : Ending) (w' : World) : Prop :=
  ∃ q : Nat, Hid (q = k0 + n) ∧ e = .returned (.int .i64 q) ∧ Held w' lo hi 5 .u8 (.slice A n c) (mk f8 k0 n) ∧ w.grownBy w' (Value.ownBlock (.slice A n c))
theorem markByteS_held (A : Option Addr) (n c k0 lo hi : Nat) (l : List Int) (w : World) (ho : Held w lo hi 5 .u8 (.slice A n c) l) (hn : l.length = n) (hl : n ≤ 17592186044416) (hk : k0 ≤ 17592186044416) :
    Calls Try.prog 35 #[.slice A n c, .int .i64 k0] w (MarkByteSHeld lo hi A n c k0 w) :=
  (markByteS_any A n c k0 lo l w hn ho.1 hl hk).mono fun e w' ⟨h1, h2, h3⟩ => ⟨_, Lib.hid rfl, h1, ⟨h2, ho.2.1, Nat.le_trans ho.2.2 h3.size⟩, h3⟩
theorem heldByteS_any (A : Option Addr) (n c k0 B : Nat) (w : World) (hs : Sees w B .u8 A (mk f8 k0 n)) (hl : n ≤ 17592186044416) (hk : k0 ≤ 17592186044416) :
    Calls Try.prog 39 #[.slice A n c, .int .i64 k0] w fun e w' => e = .returned (.int .i64 (k0 + n : Nat)) ∧ w = w' := by
  have HS := Lib.hid hs; clear hs
  go_enter Try.func39, Try.ntmps39
  go_wp2
  go_loop [1, 5] (fun kk i => ∃ j : Nat, j ≤ n ∧ i = .int .i64 j ∧ kk = .int .i64 (k0 + j : Nat)) (fun _ i => n - (intOf i).toNat)
  case atStart => exact ⟨0, Nat.zero_le _, rfl, rfl⟩
  case round =>
    obtain ⟨j, hj, rfl, rfl⟩ := hrel
    by_cases hlt : j < n
    · obtain ⟨b, off, rfl, hbl, hc⟩ := HS.out j _ (mk_get f8 k0 n j hlt)
      unfold f8 at hc
      go_wp2
      go_round
      case rel => exact ⟨j + 1, by omega, by go_num, by go_num⟩
      case measure => simp [intOf]; omega
    · obtain rfl : j = n := by omega
      go_wp2
      go_ret
      exact ⟨rfl, rfl⟩
/-- The marks are found again: the next number. -/
def FoundByteS (n k0 : Nat) (w : World) (e : Ending) (w' : World) : Prop := ∃ q : Nat, Hid (q = k0 + n) ∧ e = .returned (.int .i64 q) ∧ w = w'
theorem heldByteS_q (A : Option Addr) (n c k0 B : Nat) (w : World) (hs : Sees w B .u8 A (mk f8 k0 n)) (hl : n ≤ 17592186044416) (hk : k0 ≤ 17592186044416) :
    Calls Try.prog 39 #[.slice A n c, .int .i64 k0] w (FoundByteS n k0 w) :=
  (heldByteS_any A n c k0 B w hs hl hk).mono fun e w' ⟨h1, h2⟩ => ⟨_, Lib.hid rfl, h1, h2⟩
def MarkIntSRel (B : Nat) (A : Option Addr) (n c k0 : Nat) (w : World) (kk i : Value) (wr : World) : Prop :=
  ∃ (j : Nat) (L : List Int), j ≤ n ∧ i = .int .i64 j ∧ kk = .int .i64 (k0 + j : Nat) ∧ L.length = n ∧ Filled (fun i => some (f64 (k0 + i))) j L ∧ Own wr B 3 .i64 (.slice A n c) L ∧ w.grownBy wr (Value.ownBlock (.slice A n c))
/-- The row has been marked; nothing else has turned. -/
def MarkedIntS (B : Nat) (A : Option Addr) (n c k0 : Nat) (w : World) (e : Ending) (w' : World) : Prop :=
  e = .returned (.int .i64 (k0 + n : Nat)) ∧ Own w' B 3 .i64 (.slice A n c) (mk f64 k0 n) ∧ w.grownBy w' (Value.ownBlock (.slice A n c))
theorem markIntS_any (A : Option Addr) (n c k0 B : Nat) (l : List Int) (w : World) (hn : l.length = n) (ho : Own w B 3 .i64 (.slice A n c) l) (hl : n ≤ 17592186044416) (hk : k0 ≤ 17592186044416) :
    Calls Try.prog 36 #[.slice A n c, .int .i64 k0] w (MarkedIntS B A n c k0 w) := by
  have HO := Lib.hid ho; clear ho
  have HN := Lib.hid hn; clear hn
  go_enter Try.func36, Try.ntmps36
  go_wp2
  go_loopw [1, 5] (fun kk i wr => MarkIntSRel B A n c k0 w kk i wr) (fun _ i _ => n - (intOf i).toNat)
  case atStart => exact ⟨0, l, Nat.zero_le _, rfl, rfl, HN.out, Filled.zero _ _, HO.out, World.grownBy.refl _ _⟩
  case round =>
    obtain ⟨j, L, hj, rfl, rfl, hL, hf, ho, hg⟩ := hrel
    clear HO HN
    by_cases hlt : j < n
    · obtain ⟨g, rfl, hB, -, hr⟩ := ho.row (by omega)
      obtain ⟨y, hy⟩ : ∃ y, L[j]? = some y := ⟨_, List.getElem?_eq_getElem (by omega)⟩
      have hcell := hr.cell hy
      have hfr := hr.frozen j
      have HF := Lib.hid hf; clear hf
      have HR := Lib.hid hr; clear hr
      have HL := Lib.hid hL; clear hL
      have HO := Lib.hid ho; clear ho
      have HG := Lib.hid hg; clear hg
      clear hy
      go_wp2
      go_roundw
      case rel =>
        have h1 := HF.out.set (x := f64 (k0 + j)) (by rw [HL.out]; exact hlt) rfl
        have e : (L.set j (f64 (k0 + j))).length = n := by rw [List.length_set]; exact HL.out
        have h2 := (HR.out.set j (f64 (k0 + j))).own hB
        rw [e] at h2
        have hx : f64 (k0 + j) = (k0:Int)+(j:Int) := by unfold f64; omega
        rw [hx] at h1 h2 e
        exact ⟨j + 1, _, by omega, by go_num, by go_num, e, h1, h2, grown_setCell HG.out j _⟩
      case measure => simp [intOf]; omega
    · obtain rfl : j = n := by omega
      have HF := Lib.hid hf; clear hf
      have HO := Lib.hid ho; clear ho
      have HG := Lib.hid hg; clear hg
      have HL := Lib.hid hL; clear hL
      go_wp2
      go_ret
      have e : L = mk f64 k0 j := Filled.done (f := fun i => some (f64 (k0 + i))) (by rw [HL.out]; exact HF.out) (by rw [mk_len]; exact HL.out.symm) (fun i hi => mk_get _ _ _ _ (by rw [mk_len] at hi; exact hi))
      have ho := HO.out
      rw [e] at ho
      exact ⟨rfl, ho, HG.out⟩
/-- The mark of a held row. -/
def MarkIntSHeld (lo hi : Nat) (A : Option Addr) (n c k0 : Nat) (w : World) (e : Ending) (w' : World) : Prop :=
  ∃ q : Nat, Hid (q = k0 + n) ∧ e = .returned (.int .i64 q) ∧ Held w' lo hi 3 .i64 (.slice A n c) (mk f64 k0 n) ∧ w.grownBy w' (Value.ownBlock (.slice A n c))
theorem markIntS_held (A : Option Addr) (n c k0 lo hi : Nat) (l : List Int) (w : World) (ho : Held w lo hi 3 .i64 (.slice A n c) l) (hn : l.length = n) (hl : n ≤ 17592186044416) (hk : k0 ≤ 17592186044416) :
    Calls Try.prog 36 #[.slice A n c, .int .i64 k0] w (MarkIntSHeld lo hi A n c k0 w) :=
  (markIntS_any A n c k0 lo l w hn ho.1 hl hk).mono fun e w' ⟨h1, h2, h3⟩ => ⟨_, Lib.hid rfl, h1, ⟨h2, ho.2.1, Nat.le_trans ho.2.2 h3.size⟩, h3⟩
theorem heldIntS_any (A : Option Addr) (n c k0 B : Nat) (w : World) (hs : Sees w B .i64 A (mk f64 k0 n)) (hl : n ≤ 17592186044416) (hk : k0 ≤ 17592186044416) :
    Calls Try.prog 37 #[.slice A n c, .int .i64 k0] w fun e w' => e = .returned (.int .i64 (k0 + n : Nat)) ∧ w = w' := by
  have HS := Lib.hid hs; clear hs
  go_enter Try.func37, Try.ntmps37
  go_wp2
  go_loop [1, 5] (fun kk i => ∃ j : Nat, j ≤ n ∧ i = .int .i64 j ∧ kk = .int .i64 (k0 + j : Nat)) (fun _ i => n - (intOf i).toNat)
  case atStart => exact ⟨0, Nat.zero_le _, rfl, rfl⟩
  case round =>
    obtain ⟨j, hj, rfl, rfl⟩ := hrel
    by_cases hlt : j < n
    · obtain ⟨b, off, rfl, hbl, hc⟩ := HS.out j _ (mk_get f64 k0 n j hlt)
      unfold f64 at hc
      go_wp2
      go_round
      case rel => exact ⟨j + 1, by omega, by go_num, by go_num⟩
      case measure => simp [intOf]; omega
    · obtain rfl : j = n := by omega
      go_wp2
      go_ret
      exact ⟨rfl, rfl⟩
/-- The marks are found again: the next number. -/
def FoundIntS (n k0 : Nat) (w : World) (e : Ending) (w' : World) : Prop := ∃ q : Nat, Hid (q = k0 + n) ∧ e = .returned (.int .i64 q) ∧ w = w'
theorem heldIntS_q (A : Option Addr) (n c k0 B : Nat) (w : World) (hs : Sees w B .i64 A (mk f64 k0 n)) (hl : n ≤ 17592186044416) (hk : k0 ≤ 17592186044416) :
    Calls Try.prog 37 #[.slice A n c, .int .i64 k0] w (FoundIntS n k0 w) :=
  (heldIntS_any A n c k0 B w hs hl hk).mono fun e w' ⟨h1, h2⟩ => ⟨_, Lib.hid rfl, h1, h2⟩
end Go.Proofs.Ytalghkfkeaogfaa

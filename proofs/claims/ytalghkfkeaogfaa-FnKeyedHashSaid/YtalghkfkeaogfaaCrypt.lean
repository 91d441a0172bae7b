/- Chapter 3: hash, keyed hash, bytes as ints, of package impl and of the model: contracts. -/
import Derived.Test.YtalghkfkeaogfaaHelp
import Derived.Test.YtalghkfkeaogfaaHash
import Derived.Test.YtalghkfkeaogfaaInt
namespace Go.Proofs.Ytalghkfkeaogfaa
open Go.RowKit
set_option linter.unusedVariables false

/-- A remainder by the modulus. -/
def ModM (x : Int) (w : World) (e : Ending) (w' : World) : Prop := ∃ z : Int, Hid (z = x % 2147483647) ∧ 0 ≤ z ∧ z < 2147483647 ∧ e = .returned (.int .i64 z) ∧ w = w'
theorem modM_any (x : Int) (w : World) : Calls Try.prog 61 #[.int .i64 x, .int .i64 2147483647] w (ModM x w) :=
  (mod_any x 2147483647 w).mono fun e w' ⟨h1, h2⟩ => ⟨x % 2147483647, Lib.hid rfl, Int.emod_nonneg _ (by decide), Int.emod_lt_of_pos _ (by decide), by rw [h1, modV_in (by decide) (by decide)], h2⟩
theorem smodM_any (x : Int) (w : World) : Calls Try.prog 22 #[.int .i64 x, .int .i64 2147483647] w (ModM x w) :=
  (smod_any x 2147483647 w).mono fun e w' ⟨h1, h2⟩ => ⟨x % 2147483647, Lib.hid rfl, Int.emod_nonneg _ (by decide), Int.emod_lt_of_pos _ (by decide), by rw [h1, modV_in (by decide) (by decide)], h2⟩
def FoldRel (d : Int) (l : List Int) (v i : Value) : Prop :=
  ∃ (j : Nat) (a : Int), j ≤ l.length ∧ i = .int .i64 j ∧ v = .int .i64 a ∧ Hid (a = hv d (l.take j)) ∧ 0 ≤ a ∧ a < 2147483647
theorem fold_step {d a z x : Int} {l : List Int} {j : Nat} (ha : a = hv d (l.take j)) (hz : z = x % 2147483647) (hx : l[j]? = some x) : (a * 1000003 + z + 13) % 2147483647 = hv d (l.take (j + 1)) := by
  rw [hv_take hx, ← ha, hz]; rfl
theorem fold_any (d : Int) (A : Option Addr) (c B : Nat) (l : List Int) (w : World) (hs : Sees w B .i64 A l) (hd : 0 ≤ d ∧ d < 2147483647) (hl : l.length ≤ 17592186044416) :
    Calls Try.prog 51 #[.int .i64 d, .slice A l.length c] w fun e w' => e = .returned (.int .i64 (hv d l)) ∧ w = w' := by
  have HS := Lib.hid hs; clear hs
  go_enter Try.func51, Try.ntmps51
  go_wp2
  go_loop [0, 9] (fun v i => FoldRel d l v i) (fun _ i => l.length - (intOf i).toNat)
  case atStart => exact ⟨0, d, Nat.zero_le _, rfl, rfl, Lib.hid rfl, hd.1, hd.2⟩
  case round =>
    obtain ⟨j, a, hj, rfl, rfl, ha, h0, h1⟩ := hrel
    by_cases hlt : j < l.length
    · obtain ⟨b, off, x, rfl, hbl, hx, hc⟩ := HS.out.lt hlt
      have HX := Lib.hid hx; clear hx
      go_wp2_with fail
      refine (modM_any x _).mono ?_
      rintro e w' ⟨z, hz, z0, z1, rfl, rfl⟩
      go_wp2
      go_round
      case rel =>
        have h2 : 0 ≤ (a * 1000003 + z + 13) % 2147483647 ∧ (a * 1000003 + z + 13) % 2147483647 < 2147483647 := by omega
        exact ⟨j + 1, _, by omega, by go_num, rfl, Lib.hid (fold_step ha.out hz.out HX.out), h2.1, h2.2⟩
      case measure => simp [intOf]; omega
    · obtain rfl : j = l.length := by omega
      go_wp2
      go_ret
      exact ⟨ret_i (ha.out.trans (by rw [List.take_length])), rfl⟩
theorem fold_n (d r : Int) (A : Option Addr) (n c B : Nat) (l : List Int) (w : World) (hs : Sees w B .i64 A l) (hd : 0 ≤ d ∧ d < 2147483647) (hn : n = l.length) (hl : l.length ≤ 17592186044416) (hr : hv d l = r) :
    Calls Try.prog 51 #[.int .i64 d, .slice A n c] w fun e w' => e = .returned (.int .i64 r) ∧ w = w' := by
  subst hn; subst hr; exact fold_any d A c B l w hs hd hl
theorem hash_any (A : Option Addr) (c B : Nat) (l : List Int) (w : World) (hs : Sees w B .i64 A l) (hl : l.length ≤ 17592186044416) :
    Calls Try.prog 20 #[.slice A l.length c] w fun e w' => e = .returned (.int .i64 (hv 11 l)) ∧ w = w' := by
  have HS := Lib.hid hs; clear hs
  go_enter Try.func20, Try.ntmps20
  go_wp2_with fail
  refine (fold_any 11 A c B l _ HS.out (by decide) hl).mono ?_
  rintro e w' ⟨rfl, rfl⟩
  go_wp2
  go_ret
  exact ⟨rfl, rfl⟩
theorem shash_any (A : Option Addr) (c B : Nat) (l : List Int) (w : World) (hs : Sees w B .i64 A l) (hl : l.length ≤ 17592186044416) :
    Calls Try.prog 26 #[.slice A l.length c] w fun e w' => e = .returned (.int .i64 (hv 11 l)) ∧ w = w' := by
  have HS := Lib.hid hs; clear hs
  go_enter Try.func26, Try.ntmps26
  go_wp2
  go_loop [3, 4] (fun v i => FoldRel 11 l v i) (fun _ i => l.length - (intOf i).toNat)
  case atStart => exact ⟨0, 11, Nat.zero_le _, rfl, rfl, Lib.hid rfl, by decide, by decide⟩
  case round =>
    obtain ⟨j, a, hj, rfl, rfl, ha, h0, h1⟩ := hrel
    by_cases hlt : j < l.length
    · obtain ⟨b, off, x, rfl, hbl, hx, hc⟩ := HS.out.lt hlt
      have HX := Lib.hid hx; clear hx
      go_wp2_with fail
      refine (smodM_any x _).mono ?_
      rintro e w' ⟨z, hz, z0, z1, rfl, rfl⟩
      go_wp2
      go_round
      case rel =>
        have h2 : 0 ≤ (a * 1000003 + z + 13) % 2147483647 ∧ (a * 1000003 + z + 13) % 2147483647 < 2147483647 := by omega
        exact ⟨j + 1, _, by omega, by go_num, rfl, Lib.hid (fold_step ha.out hz.out HX.out), h2.1, h2.2⟩
      case measure => simp [intOf]; omega
    · obtain rfl : j = l.length := by omega
      go_wp2
      go_ret
      exact ⟨ret_i (ha.out.trans (by rw [List.take_length])), rfl⟩
/-- A keyed hash has been reckoned. -/
def KHash (k : Int) (l : List Int) (w : World) (e : Ending) (w' : World) : Prop :=
  ∃ h : Int, Hid (h = khv k l) ∧ 0 ≤ h ∧ h < 2147483647 ∧ e = .returned (.int .i64 h) ∧ Below w.heap.size w w'
theorem khash_mk {k h : Int} {l : List Int} {w w' : World} (e : h = khv k l) (hb : Below w.heap.size w w') : KHash k l w (.returned (.int .i64 h)) w' :=
  ⟨h, Lib.hid e, by rw [e]; exact (khv_bd k l).1, by rw [e]; exact (khv_bd k l).2, rfl, hb⟩
theorem sees_at (w : World) (k : IntKind) (x : Int) (T : TypeId) (b B : Nat) (hb : b = w.heap.size) (hB : b < B) : Sees (w.alloc (.cells #[.int k x] T)) B k (some ⟨b, 0, none⟩) [x] := by
  subst hb; exact sees_new w k x T B hB
theorem keyed_any (k : Int) (A : Option Addr) (n c B : Nat) (l : List Int) (w : World) (hs : Sees w B .i64 A l) (hB : B ≤ w.heap.size) (hn : n = l.length) (hl : l.length ≤ 17592186044416) :
    Calls Try.prog 19 #[.int .i64 k, .slice A n c] w (KHash k l w) := by
  have HS := Lib.hid (hs.mono hB); clear hs hB
  have h1 := hs_bd 11 k
  obtain ⟨d1, e1⟩ : ∃ d, hs 11 k = d := ⟨_, rfl⟩
  rw [e1] at h1
  have h2 := hv_bd l h1
  obtain ⟨d2, e2⟩ : ∃ d, hv d1 l = d := ⟨_, rfl⟩
  rw [e2] at h2
  obtain ⟨r, e3⟩ : ∃ d, hv d2 [k] = d := ⟨_, rfl⟩
  have E1 := Lib.hid e1; have E2 := Lib.hid e2; have E3 := Lib.hid e3
  have HR : Hid (r = khv k l) := Lib.hid (by rw [← e3, ← e2, ← e1]; rfl)
  clear e1 e2 e3
  subst hn
  go_enter Try.func19, Try.ntmps19
  go_wp2_with fail
  refine (fold_n 11 d1 _ 1 1 (w.heap.size + 1) [k] _ (sees_at w .i64 k 3 _ _ rfl (by omega)) (by decide) rfl (by simp) E1.out).mono ?_
  rintro e w' ⟨rfl, rfl⟩
  go_wp2_with fail
  refine (fold_n d1 d2 A l.length c w.heap.size l _ (HS.out.alloc (Nat.le_refl _) _) h1 rfl hl E2.out).mono ?_
  rintro e w' ⟨rfl, rfl⟩
  go_wp2_with fail
  refine (fold_n d2 r _ 1 1 (w.heap.size + 2) [k] _ (sees_at (w.alloc _) .i64 k 3 _ _ (by simp) (by omega)) h2 rfl (by simp) E3.out).mono ?_
  rintro e w' ⟨rfl, rfl⟩
  go_wp2
  go_ret
  have hb := (Below.refl w.heap.size w).alloc (Nat.le_refl _) (.cells #[.int .i64 k] 3)
  exact khash_mk HR.out (hb.alloc hb.size _)
theorem own_lit1 (w : World) (B : Nat) (e : TypeId) (k : IntKind) (x : Int) (hB : B ≤ w.heap.size) : Own (w.alloc (.cells #[.int k x] e)) B e k (.slice (some ⟨w.heap.size, 0, none⟩) 1 1) [x] :=
  World.ownsRow_lit (base := B) (e := e) (size := 1) w #[.int k x] 1 hB (by decide) rfl
theorem skeyed_any (k : Int) (A : Option Addr) (n c B : Nat) (l : List Int) (w : World) (hs : Sees w B .i64 A l) (hB : B ≤ w.heap.size) (hn : n = l.length) (hl : l.length ≤ 8796093022208) :
    Calls Try.prog 29 #[.int .i64 k, .slice A n c] w (KHash k l w) := by
  have HS := Lib.hid (hs.mono hB); clear hs hB
  subst hn
  have hb1 := (Below.refl w.heap.size w).alloc (Nat.le_refl _) (.cells #[.int .i64 k] 3)
  go_enter Try.func29, Try.ntmps29
  go_wp2_with (at_builtin; first
    | (refine app64 _ rfl _ _ rfl w.heap.size _ [k] rfl (own_lit1 w w.heap.size 3 .i64 k (Nat.le_refl _)) w.heap.size A l.length c l rfl rfl (HS.out.alloc (Nat.le_refl _) _) (by simp; omega) (by simp) ?_; intro A1 c1 L1 w1 hL1 h1 h2 ho1 hb2; have hsz := hb1.size; have hsz2 := hb2.size)
    | (refine app64 _ rfl _ _ rfl w.heap.size _ L1 rfl (ho1.alloc _) (w1.heap.size + 1) _ 1 _ [_] rfl rfl (sees_new w1 .i64 _ 3 _ (by omega)) (by simp at h1 ⊢; omega) (by simp at hsz2 ⊢; omega) ?_; intro A2 c2 L2 w2 hL2 h3 h4 ho2 hb3))
  refine (shash_any A2 c2 _ L2 _ ho2.sees (by first | omega | (simp at h1 h3; omega))).mono ?_
  rintro e w' ⟨rfl, rfl⟩
  go_wp2
  go_ret
  refine khash_mk (by rw [hL2.out, hL1.out, List.cons_append, List.nil_append]; exact khv_eq k l) ?_
  exact (hb1.trans hb2).trans (((Below.refl _ _).alloc (by simp at hsz2; omega) _).trans hb3)
theorem isKey_is (k : Int) (b : Bool) (w : World) (hb : inB k 1 2147483646 = b) :
    Calls Try.prog 24 #[.int .i64 k] w fun e w' => e = .returned (.bool b) ∧ w = w' := by
  have HB := Lib.hid hb; clear hb
  go_enter Try.func24, Try.ntmps24
  go_wp2_with fail
  refine (in_is _ _ _ b _ HB.out).mono ?_
  rintro e w' ⟨rfl, rfl⟩
  go_wp2
  go_ret
  exact ⟨rfl, rfl⟩
theorem sisKey_is (k : Int) (b : Bool) (w : World) (hb : inB k 1 2147483646 = b) :
    Calls Try.prog 30 #[.int .i64 k] w fun e w' => e = .returned (.bool b) ∧ w = w' := by
  have HB := Lib.hid hb; clear hb
  go_enter Try.func30, Try.ntmps30
  go_wp2_with fail
  refine (l1in_is _ _ _ b _ HB.out).mono ?_
  rintro e w' ⟨rfl, rfl⟩
  go_wp2
  go_ret
  exact ⟨rfl, rfl⟩
end Go.Proofs.Ytalghkfkeaogfaa

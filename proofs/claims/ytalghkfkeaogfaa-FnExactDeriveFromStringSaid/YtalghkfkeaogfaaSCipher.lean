/- Chapter 3's ciphers of the model. -/
import Derived.Test.YtalghkfkeaogfaaCrypt2
import Derived.Deep.RegionHeld3
namespace Go.Proofs.Ytalghkfkeaogfaa
open Go.RowKit
set_option linter.unusedVariables false

/-- A cipher of the model under way: the first j bytes. -/
def SCiphRel (f : Int → Nat → Int → Int) (k : Int) (l : List Int) (w : World) (v i : Value) (wr : World) : Prop :=
  ∃ (A : Option Addr) (c : Nat) (L : List Int) (j : Nat), j ≤ l.length ∧ v = .slice A L.length c ∧ i = .int .i64 j ∧ Hid (L = (l.mapIdx (f k)).take j) ∧ L.length = j ∧ Own wr w.heap.size 5 .u8 (.slice A L.length c) L ∧ Below w.heap.size w wr
theorem sciph_step {f : Int → Nat → Int → Int} {k z x : Int} {l L L2 : List Int} {j : Nat} (hL : L = (l.mapIdx (f k)).take j) (h : L2 = L ++ [z]) (hx : l[j]? = some x) (hz : z = f k j x) : L2 = (l.mapIdx (f k)).take (j + 1) := by
  rw [h, hL, List.take_add_one]; simp [hx, hz]
theorem keep_alloc {w : World} {p : Addr} {v : Value} (h : w.cell? p = some v) (o : Obj) : (w.alloc o).cell? p = some v :=
  (World.cell?_of_block (Below.heap_alloc _ _ _ (World.block_lt_of_cell? w p h))).trans h
theorem keep_alloc_drew {w : World} {p : Addr} {v : Value} (h : w.cell? p = some v) (o : Obj) : (w.alloc o).drew.cell? p = some v := keep_alloc h o
theorem World.size_alloc_le (w : World) (o : Obj) : w.heap.size ≤ (w.alloc o).heap.size := by simp
theorem keep_below {w w' : World} {p : Addr} {v : Value} (h : w.cell? p = some v) (hb : Below w.heap.size w w') : w'.cell? p = some v := (hb.cell (World.block_lt_of_cell? w p h)).trans h
theorem sciph_below {w wr w3 w4 : World} {o o' : Obj} (hb : Below w.heap.size w wr) (hb3 : Below (wr.alloc o).drew.heap.size (wr.alloc o).drew w3) (hb4 : Below w.heap.size (w3.alloc o') w4) : Below w.heap.size w w4 := by
  have h1 := (hb.alloc hb.size o).drew
  have h3 := h1.trans (hb3.mono h1.size)
  exact (h3.alloc h3.size o').trans hb4
theorem tmod_nn {a b : Int} (h : 0 ≤ a) : a.tmod b = a % b := Int.tmod_eq_emod_of_nonneg h
theorem enc_val {x h k : Int} {j : Nat} (hx : 0 ≤ x ∧ x ≤ 255) (hh : h = khv k [(j : Int)]) (h0 : 0 ≤ h) (h1 : h < 2147483647) :
    IntKind.u8.wrap ((IntKind.i64.wrap (IntKind.i64.wrap x + h.tmod 256)).tmod 256) = encB k j x := by
  rw [tmod_nn h0, IntKind.wrap_u8', IntKind.wrap_i64, IntKind.wrap_i64]
  have e1 : (x + 9223372036854775808) % 18446744073709551616 - 9223372036854775808 = x := by omega
  have e2 : (x + h % 256 + 9223372036854775808) % 18446744073709551616 - 9223372036854775808 = x + h % 256 := by omega
  rw [e1, e2, tmod_nn (by omega)]
  unfold encB; rw [← hh]; omega
set_option maxRecDepth 100000 in
set_option maxHeartbeats 1000000 in
theorem senc_any (k : Int) (A : Option Addr) (c : Nat) (l : List Int) (w : World) (hs : Sees w w.heap.size .u8 A l) (h8 : B8 l) (hl : l.length ≤ 4398046511104) :
    Calls Try.prog 38 #[.int .i64 k, .slice A l.length c] w (Gives 5 .u8 (encL k l) w) := by
  have HS := Lib.hid hs; clear hs
  have H8 : Hid (B8 l) := Lib.hid h8; clear h8
  go_enter Try.func38, Try.ntmps38
  go_wp2
  go_loopw [5, 6] (fun v i wr => SCiphRel encB k l w v i wr) (fun _ i _ => l.length - (intOf i).toNat)
  case atStart => exact ⟨_, 0, [], 0, Nat.zero_le _, rfl, rfl, Lib.hid rfl, rfl, Own.lit w w.heap.size 5 .u8 (Nat.le_refl _), (Below.refl _ _).alloc (Nat.le_refl _) _⟩
  case round =>
    obtain ⟨A1, c1, L, j, hj, rfl, rfl, hL, hLn, ho, hb⟩ := hrel
    have HB := Lib.hid hb; have HO := Lib.hid ho
    have hsz := hb.size
    have HLn := Lib.hid hLn
    have hLb : L.length ≤ 4398046511104 := by omega
    clear hb ho hLn
    by_cases hlt : j < l.length
    · obtain ⟨b, off, x, rfl, hbl, hx, hc⟩ := (HS.out.below HB.out).lt hlt
      have hx8 := H8.out x (List.mem_of_getElem? hx)
      have HX := Lib.hid hx; clear hx
      have hse : Sees (wr.alloc (.cells #[.int .i64 (j : Int)] 3)).drew (wr.heap.size + 1) .i64 (some ⟨wr.heap.size, 0, none⟩) [(j : Int)] := sees_at wr .i64 j 3 _ _ rfl (by omega)
      have hB1 : wr.heap.size + 1 ≤ (wr.alloc (.cells #[.int .i64 (j : Int)] 3)).drew.heap.size := by show _ ≤ (wr.alloc _).heap.size; simp
      have hoc : Own (wr.alloc (.cells #[.int .i64 (j : Int)] 3)).drew w.heap.size 5 .u8 (.slice A1 L.length c1) L := HO.out.alloc _
      have hc1 : (wr.alloc (.cells #[.int .i64 (j : Int)] 3)).drew.cell? ⟨b, off + j, none⟩ = some (.int .u8 x) := keep_alloc hc _
      have hz1 : w.heap.size ≤ (wr.alloc (.cells #[.int .i64 (j : Int)] 3)).drew.heap.size := Nat.le_trans hsz (Nat.le_trans (by omega) hB1)
      have hone : [(j : Int)].length ≤ 8796093022208 := by simp
      have hL1 : L.length + [(0 : Int)].length ≤ 17592186044416 := by simp; omega
      go_wp2
      go_region_held3 (fun w' => w'.cell? ⟨b, off + j, none⟩ = some (.int .u8 x)) (first | exact hc | exact hc1 | exact hc3 | exact keep_alloc hc3 _ | exact hc4) (first
        | (go_at_call 29; (refine (skeyed_any k _ 1 1 _ [(j : Int)] _ hse hB1 rfl hone).mono ?_; rintro e w3 ⟨h, hh, h0, h1, rfl, hb3⟩; have hc3 := keep_below hc1 hb3; have ho3 := hoc.belowAll hb3; have hz3 := Nat.le_trans hz1 hb3.size))
        | ((refine step_app8 _ rfl _ _ rfl w.heap.size _ L rfl (ho3.alloc _) (w3.heap.size + 1) _ 1 _ [_] rfl rfl (sees_new w3 .u8 _ 5 _ (Nat.lt_succ_self _)) hL1 (Nat.le_trans hz3 (World.size_alloc_le _ _)) ?_; intro A4 c4 L4 w4 hL4 h5 h6 ho4 hb4; have hc4 : w4.cell? ⟨b, off + j, none⟩ = some (.int .u8 x) := (hb4.cell hbl).trans (keep_alloc hc3 _))) | fail)
      go_wp2
      go_roundw
      case rel => exact ⟨A4, c4, L4, j + 1, by omega, rfl, by go_num, Lib.hid (sciph_step hL.out hL4.out HX.out (enc_val hx8 hh.out h0 h1)), by have := HLn.out; simp at h5 h6; omega, ho4, sciph_below HB.out hb3 hb4⟩
      case measure => simp [intOf]; omega
    · obtain rfl : j = l.length := by omega
      go_wp2
      go_ret
      exact give (by rw [hL.out, List.take_of_length_le (by simp)]; rfl) HO.out HB.out
theorem dec_val {x h k : Int} {j : Nat} (hx : 0 ≤ x ∧ x ≤ 255) (hh : h = khv k [(j : Int)]) (h0 : 0 ≤ h) (h1 : h < 2147483647) :
    IntKind.u8.wrap (modV (IntKind.i64.wrap (IntKind.i64.wrap x - h.tmod 256)) 256) = decB k j x := by
  rw [modV_in (by decide) (by decide), tmod_nn h0, IntKind.wrap_u8', IntKind.wrap_i64, IntKind.wrap_i64]
  have e1 : (x + 9223372036854775808) % 18446744073709551616 - 9223372036854775808 = x := by omega
  have e2 : (x - h % 256 + 9223372036854775808) % 18446744073709551616 - 9223372036854775808 = x - h % 256 := by omega
  rw [e1, e2]
  unfold decB; rw [← hh]; omega
set_option maxRecDepth 100000 in
set_option maxHeartbeats 1000000 in
theorem sdecr_any (k : Int) (A : Option Addr) (c : Nat) (l : List Int) (w : World) (hs : Sees w w.heap.size .u8 A l) (h8 : B8 l) (hl : l.length ≤ 4398046511104) :
    Calls Try.prog 40 #[.int .i64 k, .slice A l.length c] w (Gives 5 .u8 (decL k l) w) := by
  have HS := Lib.hid hs; clear hs
  have H8 : Hid (B8 l) := Lib.hid h8; clear h8
  go_enter Try.func40, Try.ntmps40
  go_wp2
  go_loopw [5, 6] (fun v i wr => SCiphRel decB k l w v i wr) (fun _ i _ => l.length - (intOf i).toNat)
  case atStart => exact ⟨_, 0, [], 0, Nat.zero_le _, rfl, rfl, Lib.hid rfl, rfl, Own.lit w w.heap.size 5 .u8 (Nat.le_refl _), (Below.refl _ _).alloc (Nat.le_refl _) _⟩
  case round =>
    obtain ⟨A1, c1, L, j, hj, rfl, rfl, hL, hLn, ho, hb⟩ := hrel
    have HB := Lib.hid hb; have HO := Lib.hid ho
    have hsz := hb.size
    have HLn := Lib.hid hLn
    have hLb : L.length ≤ 4398046511104 := by omega
    clear hb ho hLn
    by_cases hlt : j < l.length
    · obtain ⟨b, off, x, rfl, hbl, hx, hc⟩ := (HS.out.below HB.out).lt hlt
      have hx8 := H8.out x (List.mem_of_getElem? hx)
      have HX := Lib.hid hx; clear hx
      have hse : Sees (wr.alloc (.cells #[.int .i64 (j : Int)] 3)).drew (wr.heap.size + 1) .i64 (some ⟨wr.heap.size, 0, none⟩) [(j : Int)] := sees_at wr .i64 j 3 _ _ rfl (by omega)
      have hB1 : wr.heap.size + 1 ≤ (wr.alloc (.cells #[.int .i64 (j : Int)] 3)).drew.heap.size := by show _ ≤ (wr.alloc _).heap.size; simp
      have hoc : Own (wr.alloc (.cells #[.int .i64 (j : Int)] 3)).drew w.heap.size 5 .u8 (.slice A1 L.length c1) L := HO.out.alloc _
      have hc1 : (wr.alloc (.cells #[.int .i64 (j : Int)] 3)).drew.cell? ⟨b, off + j, none⟩ = some (.int .u8 x) := keep_alloc hc _
      have hz1 : w.heap.size ≤ (wr.alloc (.cells #[.int .i64 (j : Int)] 3)).drew.heap.size := Nat.le_trans hsz (Nat.le_trans (by omega) hB1)
      have hone : [(j : Int)].length ≤ 8796093022208 := by simp
      have hL1 : L.length + [(0 : Int)].length ≤ 17592186044416 := by simp; omega
      go_wp2
      go_region_held3 (fun w' => w'.cell? ⟨b, off + j, none⟩ = some (.int .u8 x)) (first | exact hc | exact hc1 | exact hc3 | exact keep_alloc hc3 _ | exact hc4) (first
        | (go_at_call 29; (refine (skeyed_any k _ 1 1 _ [(j : Int)] _ hse hB1 rfl hone).mono ?_; rintro e w3 ⟨h, hh, h0, h1, rfl, hb3⟩; have hc3 := keep_below hc1 hb3; have ho3 := hoc.belowAll hb3; have hz3 := Nat.le_trans hz1 hb3.size))
        | (go_at_call 22; refine (smod_any _ 256 _).mono ?_; rintro e w5 ⟨rfl, rfl⟩)
        | ((refine step_app8 _ rfl _ _ rfl w.heap.size _ L rfl (ho3.alloc _) (w3.heap.size + 1) _ 1 _ [_] rfl rfl (sees_new w3 .u8 _ 5 _ (Nat.lt_succ_self _)) hL1 (Nat.le_trans hz3 (World.size_alloc_le _ _)) ?_; intro A4 c4 L4 w4 hL4 h5 h6 ho4 hb4; have hc4 : w4.cell? ⟨b, off + j, none⟩ = some (.int .u8 x) := (hb4.cell hbl).trans (keep_alloc hc3 _))) | fail)
      go_wp2
      go_roundw
      case rel => exact ⟨A4, c4, L4, j + 1, by omega, rfl, by go_num, Lib.hid (sciph_step hL.out hL4.out HX.out (dec_val hx8 hh.out h0 h1)), by have := HLn.out; simp at h5 h6; omega, ho4, sciph_below HB.out hb3 hb4⟩
      case measure => simp [intOf]; omega
    · obtain rfl : j = l.length := by omega
      go_wp2
      go_ret
      exact give (by rw [hL.out, List.take_of_length_le (by simp)]; rfl) HO.out HB.out
end Go.Proofs.Ytalghkfkeaogfaa

/- Chapter 3: keys out of strings, of package impl and of the model: contracts. -/
import Derived.Test.YtalghkfkeaogfaaCrypt2
namespace Go.Proofs.Ytalghkfkeaogfaa
open Go.RowKit
set_option linter.unusedVariables false

/-- A string's bytes. -/
def bl (s : ByteArray) : List Int := s.data.toList.map fun b => (b.toNat : Int)
theorem bl_len (s : ByteArray) : (bl s).length = s.size := by
  unfold bl
  rw [List.length_map, Array.length_toList]; rfl
theorem bl_B8 (s : ByteArray) : B8 (bl s) := by
  intro x hx
  simp only [bl, List.mem_map] at hx
  obtain ⟨b, _, rfl⟩ := hx
  have := b.toNat_lt
  omega
theorem sees_str (w : World) (s : ByteArray) (cap B : Nat) (T : TypeId) (fr : Nat × Nat) (hB : w.heap.size < B) : Sees (w.alloc (.cells (bytesRow s cap) T fr)) B .u8 (some ⟨w.heap.size, 0, none⟩) (bl s) := fun j x hj => by
  have hl : j < s.data.size := by have := (List.getElem?_eq_some_iff.1 hj).1; rw [bl_len] at this; exact this
  refine ⟨_, _, rfl, hB, ?_⟩
  have h1 : (w.alloc (.cells (bytesRow s cap) T fr)).heap[w.heap.size]? = some (.cells (bytesRow s cap) T fr) := heap_alloc_new w _
  have h2 : x = (s.data[j].toNat : Int) := by
    simp only [bl, List.getElem?_map, Option.map_eq_some_iff] at hj
    obtain ⟨b, hb, rfl⟩ := hj
    have := (List.getElem?_eq_some_iff.1 hb).2
    simp at this
    rw [← this]
  simp only [World.cell?, h1, Nat.zero_add]
  rw [h2]; exact bytesRow_at s cap j hl
/-- A key was made of a string. -/
def DKey (k : Int) (s : ByteArray) : Int := if 1 < khv k (b2i (bl s)) then khv k (b2i (bl s)) else 1
theorem DKey_bd (k : Int) (s : ByteArray) : 1 ≤ DKey k s ∧ DKey k s ≤ 2147483646 := by
  have := khv_bd k (b2i (bl s))
  unfold DKey; split <;> omega
theorem DKey_ext {k h : Int} {s : ByteArray} (e : h = khv k (b2i (bl s))) : extV true 1 h = DKey k s := by
  unfold DKey extV; rw [if_pos rfl, ← e]
set_option maxRecDepth 100000 in
theorem der_any (k r : Int) (s : ByteArray) (w : World) (hs : s.size ≤ 1048576) (hr : DKey k s = r) :
    Calls Try.prog 25 #[.int .i64 k, .string s] w fun e w' => e = .returned (.int .i64 r) ∧ Below w.heap.size w w' := by
  have hconv := run_bytes_of_string (P := Try.prog) w 9 22 5 s Try.underlying9 Try.underlying22 Try.underlying5
  obtain ⟨cap, hcap⟩ : ∃ n, grownCap w s.size 0 5 = n := ⟨_, rfl⟩
  rw [hcap] at hconv
  clear hcap
  obtain ⟨fr, hfr⟩ : ∃ n, ((bytesRow s cap).size, (bytesRow s cap).size + 1) = n := ⟨_, rfl⟩
  rw [hfr] at hconv
  clear hfr
  obtain ⟨n, hn⟩ : ∃ n, s.size = n := ⟨_, rfl⟩
  have hln : n = (bl s).length := by rw [bl_len, hn]
  have HLn := Lib.hid hln
  rw [hn] at hconv hs
  obtain ⟨w1, hw1⟩ : ∃ w1, w.drew.alloc (.cells (bytesRow s cap) 5 fr) = w1 := ⟨_, rfl⟩
  rw [hw1] at hconv
  have HB := Lib.hid (show Below w.heap.size w w1 from by rw [← hw1]; exact (Below.refl _ _).drew.alloc (Nat.le_refl _) _)
  have HS := Lib.hid (show Sees w1 w1.heap.size .u8 (some ⟨w.heap.size, 0, none⟩) (bl s) from by rw [← hw1]; exact sees_str w.drew s cap _ _ fr (by simp))
  have HR := Lib.hid hr
  clear hn hw1 hln hr
  go_enter Try.func25, Try.ntmps25
  go_wp2_with fail
  rw [HLn.out] at hs ⊢
  refine (b2i_any _ _ (bl s) _ HS.out (bl_B8 s) (by omega)).mono ?_
  rintro e w2 ⟨A2, c2, L2, HL2, rfl, ho2, hb2⟩
  have hL2 : L2.length ≤ 1048577 := by rw [HL2.out]; unfold b2i; simp; omega
  go_wp2_with fail
  refine (keyed_any k A2 _ c2 _ L2 _ ho2.sees (Nat.le_refl _) rfl (by omega)).mono ?_
  rintro e w3 ⟨h, hh, h0, h1, rfl, hb3⟩
  have HB3 := Lib.hid ((HB.out.trans (hb2.mono HB.out.size)).trans (hb3.mono (Nat.le_trans HB.out.size hb2.size)))
  have HX := Lib.hid (show extV true 1 h = r from (DKey_ext (by rw [hh.out, HL2.out])).trans HR.out)
  clear hb2 hb3 ho2
  go_wp2_with fail
  refine (impl_max_bel 1 h _).mono ?_
  rintro e w4 ⟨he, hb4⟩
  rw [HX.out] at he; subst he
  go_wp2
  go_ret
  exact ⟨rfl, HB3.out.trans (hb4.mono HB3.out.size)⟩
set_option maxRecDepth 100000 in
theorem sder_any (k r : Int) (s : ByteArray) (w : World) (hs : s.size ≤ 1048576) (hr : DKey k s = r) :
    Calls Try.prog 41 #[.int .i64 k, .string s] w fun e w' => e = .returned (.int .i64 r) ∧ Below w.heap.size w w' := by
  have hconv := run_bytes_of_string (P := Try.prog) w 9 22 5 s Try.underlying9 Try.underlying22 Try.underlying5
  obtain ⟨cap, hcap⟩ : ∃ n, grownCap w s.size 0 5 = n := ⟨_, rfl⟩
  rw [hcap] at hconv
  clear hcap
  obtain ⟨fr, hfr⟩ : ∃ n, ((bytesRow s cap).size, (bytesRow s cap).size + 1) = n := ⟨_, rfl⟩
  rw [hfr] at hconv
  clear hfr
  obtain ⟨n, hn⟩ : ∃ n, s.size = n := ⟨_, rfl⟩
  have hln : n = (bl s).length := by rw [bl_len, hn]
  have HLn := Lib.hid hln
  rw [hn] at hconv hs
  obtain ⟨w1, hw1⟩ : ∃ w1, w.drew.alloc (.cells (bytesRow s cap) 5 fr) = w1 := ⟨_, rfl⟩
  rw [hw1] at hconv
  have HB := Lib.hid (show Below w.heap.size w w1 from by rw [← hw1]; exact (Below.refl _ _).drew.alloc (Nat.le_refl _) _)
  have HS := Lib.hid (show Sees w1 w1.heap.size .u8 (some ⟨w.heap.size, 0, none⟩) (bl s) from by rw [← hw1]; exact sees_str w.drew s cap _ _ fr (by simp))
  have HR := Lib.hid hr
  clear hn hw1 hln hr
  go_enter Try.func41, Try.ntmps41
  go_wp2_with fail
  rw [HLn.out] at hs ⊢
  refine (sb2i_any _ _ (bl s) _ HS.out (bl_B8 s) (by omega)).mono ?_
  rintro e w2 ⟨A2, c2, L2, HL2, rfl, ho2, hb2⟩
  have hL2 : L2.length ≤ 1048577 := by rw [HL2.out]; unfold b2i; simp; omega
  go_wp2_with fail
  refine (skeyed_any k A2 _ c2 _ L2 _ ho2.sees (Nat.le_refl _) rfl (by omega)).mono ?_
  rintro e w3 ⟨h, hh, h0, h1, rfl, hb3⟩
  have HB3 := Lib.hid ((HB.out.trans (hb2.mono HB.out.size)).trans (hb3.mono (Nat.le_trans HB.out.size hb2.size)))
  have HX := Lib.hid (show extV true 1 h = r from (DKey_ext (by rw [hh.out, HL2.out])).trans HR.out)
  clear hb2 hb3 ho2
  go_wp2_with fail
  refine (spec_max_bel 1 h _).mono ?_
  rintro e w4 ⟨he, hb4⟩
  rw [HX.out] at he; subst he
  go_wp2
  go_ret
  exact ⟨rfl, HB3.out.trans (hb4.mono HB3.out.size)⟩
end Go.Proofs.Ytalghkfkeaogfaa

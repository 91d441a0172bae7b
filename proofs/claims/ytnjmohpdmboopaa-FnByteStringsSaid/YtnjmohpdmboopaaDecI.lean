/- DecodeInts of package impl: a closure reads on, a deferred closure clears what failed. -/
import Derived.Test.YtnjmohpdmboopaaDec
import Derived.Defers
import Derived.Laws.ResultCell
namespace Go.Proofs.Ytnjmohpdmboopaa
open Go.RowKit
set_option linter.unusedVariables false

/-- The call's four variables, in blocks N to N + 1 + 1 + 1. -/
def DBox (w : World) (N : Nat) (sv v : Value) (nx : Int) (ok : Bool) : Prop :=
  w.heap[N]? = some (.cells #[sv] 22 (0, 0)) ∧ w.heap[N + 1]? = some (.cells #[v] 35 (0, 0)) ∧ w.heap[N + 1 + 1]? = some (.cells #[.int .i64 nx] 3 (0, 0)) ∧ w.heap[N + 1 + 1 + 1]? = some (.cells #[.bool ok] 4 (0, 0))
section
variable {w w' : World} {N : Nat} {sv v : Value} {nx : Int} {ok : Bool}
theorem one_cell {w : World} {g : Nat} {v : Value} {T : TypeId} (h : w.heap[g]? = some (.cells #[v] T (0, 0))) : w.cell? ⟨g, 0, none⟩ = some v := by simp [World.cell?, h]
theorem one_free {w : World} {g : Nat} {v : Value} {T : TypeId} (h : w.heap[g]? = some (.cells #[v] T (0, 0))) : w.frozen? ⟨g, 0, none⟩ = false := by simp [World.frozen?, h]
theorem DBox.c0 (h : DBox w N sv v nx ok) : w.cell? ⟨N, 0, none⟩ = some sv := one_cell h.1
theorem DBox.c1 (h : DBox w N sv v nx ok) : w.cell? ⟨N + 1, 0, none⟩ = some v := one_cell h.2.1
theorem DBox.c2 (h : DBox w N sv v nx ok) : w.cell? ⟨N + 1 + 1, 0, none⟩ = some (.int .i64 nx) := one_cell h.2.2.1
theorem DBox.c3 (h : DBox w N sv v nx ok) : w.cell? ⟨N + 1 + 1 + 1, 0, none⟩ = some (.bool ok) := one_cell h.2.2.2
theorem DBox.f1 (h : DBox w N sv v nx ok) : w.frozen? ⟨N + 1, 0, none⟩ = false := one_free h.2.1
theorem DBox.f2 (h : DBox w N sv v nx ok) : w.frozen? ⟨N + 1 + 1, 0, none⟩ = false := one_free h.2.2.1
theorem DBox.f3 (h : DBox w N sv v nx ok) : w.frozen? ⟨N + 1 + 1 + 1, 0, none⟩ = false := one_free h.2.2.2
theorem DBox.lt (h : DBox w N sv v nx ok) : N + 1 + 1 + 1 < w.heap.size := (Array.getElem?_eq_some_iff.1 h.2.2.2).1
theorem DBox.below {B : Nat} (h : DBox w N sv v nx ok) (hb : Below B w w') (hB : N + 1 + 1 + 1 + 1 ≤ B) : DBox w' N sv v nx ok :=
  ⟨(hb.block _ (by omega)).trans h.1, (hb.block _ (by omega)).trans h.2.1, (hb.block _ (by omega)).trans h.2.2.1, (hb.block _ (by omega)).trans h.2.2.2⟩
theorem set_at {w : World} {g : Nat} {v u : Value} {T : TypeId} (h : w.heap[g]? = some (.cells #[v] T (0, 0))) : (w.setCell ⟨g, 0, none⟩ u).heap[g]? = some (.cells #[u] T (0, 0)) := heap_setCell_same w g 0 _ _ _ h
theorem set_far {w : World} {g j : Nat} {u : Value} (hne : j ≠ g) : (w.setCell ⟨g, 0, none⟩ u).heap[j]? = w.heap[j]? := Below.heap_setCell _ _ _ _ hne
theorem DBox.s1 (h : DBox w N sv v nx ok) (u : Value) : DBox (w.setCell ⟨N + 1, 0, none⟩ u) N sv u nx ok :=
  ⟨(set_far (by omega)).trans h.1, set_at h.2.1, (set_far (by omega)).trans h.2.2.1, (set_far (by omega)).trans h.2.2.2⟩
theorem DBox.s2 (h : DBox w N sv v nx ok) (x : Int) : DBox (w.setCell ⟨N + 1 + 1, 0, none⟩ (.int .i64 x)) N sv v x ok :=
  ⟨(set_far (by omega)).trans h.1, (set_far (by omega)).trans h.2.1, set_at h.2.2.1, (set_far (by omega)).trans h.2.2.2⟩
theorem DBox.s3 (h : DBox w N sv v nx ok) (x : Bool) : DBox (w.setCell ⟨N + 1 + 1 + 1, 0, none⟩ (.bool x)) N sv v nx x :=
  ⟨(set_far (by omega)).trans h.1, (set_far (by omega)).trans h.2.1, (set_far (by omega)).trans h.2.2.1, set_at h.2.2.2⟩
theorem own_set {B g : Nat} {T : TypeId} {k : IntKind} {L : List Int} (h : Own w B T k v L) (hg : g < B) (u : Value) : Own (w.setCell ⟨g, 0, none⟩ u) B T k v L := by
  refine ⟨h.1, ?_⟩
  rcases h.2 with hn | ⟨g', cap, cur, rfl, hB, hh, rest⟩
  · exact .inl hn
  · exact .inr ⟨g', cap, cur, rfl, hB, (set_far (by omega)).trans hh, rest⟩
end
/-- The closure has read on: one number more, the offset behind it. -/
def NextOut (N : Nat) (sv : Value) (L : List Int) (m b : Int) (q ok : Bool) (w : World) (e : Ending) (w' : World) : Prop :=
  ∃ A c L', Hid (L' = L ++ [m]) ∧ e = .returned (.bool q) ∧ DBox w' N sv (.slice A L'.length c) b ok ∧ Own w' (N + 1 + 1 + 1 + 1) 3 .i64 (.slice A L'.length c) L' ∧ Below N w w'
set_option maxRecDepth 100000 in
theorem next_any (N : Nat) (A A1 : Option Addr) (c c1 : Nat) (l L : List Int) (nx m b : Int) (q ok : Bool) (w : World) (hbx : DBox w N (.slice A l.length c) (.slice A1 L.length c1) nx ok)
    (ho : Own w (N + 1 + 1 + 1 + 1) 3 .i64 (.slice A1 L.length c1) L) (hs : Sees w w.heap.size .u8 A l) (h8 : B8 l) (hc : l.length ≤ c) (hl : l.length ≤ 4398046511104) (hL : L.length ≤ 1000) (hv : rvV (readV l nx) = .tuple #[.int .i64 m, .int .i64 b, .bool q]) :
    Calls Try.prog 54 #[.pointer (some ⟨N, 0, none⟩), .pointer (some ⟨N + 1 + 1, 0, none⟩), .pointer (some ⟨N + 1, 0, none⟩)] w (NextOut N (.slice A l.length c) L m b q ok w) := by
  have H8 : Hid (B8 l) := Lib.hid h8
  have HS := Lib.hid hs; have HV := Lib.hid hv; have HX := Lib.hid hbx; have HO := Lib.hid ho
  have hlt := hbx.lt
  have k0 := hbx.c0
  have k2 := hbx.c2
  clear hs h8 hv hbx ho
  go_enter Try.func54, Try.ntmps54
  go_wp2_with fail
  refine (read_any A c l nx _ HS.out H8.out hc hl).mono ?_
  rintro e w1 ⟨he, hb1⟩
  rw [HV.out] at he; subst he
  have HX1 := Lib.hid (HX.out.below hb1 (by omega))
  have HO1 := Lib.hid (HO.out.belowAll hb1)
  have hsz := hb1.size
  have j1 := HX1.out.c1
  clear HX HO k0 k2
  go_wp2_with (at_builtin; refine app64 _ rfl _ _ rfl (N + 1 + 1 + 1 + 1) _ L rfl (HO1.out.alloc _) (w1.heap.size + 1) _ 1 _ [_] rfl rfl (sees_new w1 .i64 _ 3 _ (by omega)) (by simp; omega) (by simp; omega) ?_; intro A3 c3 L3 w3 hL3 h1 h2 ho3 hb3; have hbb := ((Below.refl (N + 1 + 1 + 1 + 1) w1).alloc (by omega) _).trans hb3; have HX3 := Lib.hid (HX1.out.below hbb (Nat.le_refl _)); have j1' := HX3.out.c1; have g1' := HX3.out.f1; have j2' := HX3.out.c2; have g2' := HX3.out.f2; have HB3 := Lib.hid hbb; clear hbb hb3)
  go_ret
  exact ⟨A3, c3, L3, hL3, rfl, (HX3.out.s1 _).s2 _, own_set (own_set ho3 (by omega) _) (by omega) _, (((hb1.mono (by omega)).trans (HB3.out.mono (by omega))).setCell (by show N ≤ N + 1; omega) _).setCell (by show N ≤ N + 1 + 1; omega) _⟩
/-- The deferred closure: it clears what failed. -/
theorem clear_no (N : Nat) (sv v : Value) (nx : Int) (u : FrameMode) (w : World) (hbx : DBox w N sv v nx true) :
    CallsD Try.prog 53 #[.pointer (some ⟨N + 1 + 1 + 1, 0, none⟩), .pointer (some ⟨N + 1, 0, none⟩), .pointer (some ⟨N + 1 + 1, 0, none⟩)] u w fun e u' w' => u' = u ∧ (e = .returned (.tuple #[]) ∧ w' = w) := by
  have k3 := hbx.c3
  clear hbx
  go_enter_d Try.func53, Try.ntmps53
  go_wp2
  go_end0
  exact ⟨rfl, rfl⟩
theorem clear_yes (N : Nat) (sv v : Value) (nx : Int) (u : FrameMode) (w : World) (hbx : DBox w N sv v nx false) :
    CallsD Try.prog 53 #[.pointer (some ⟨N + 1 + 1 + 1, 0, none⟩), .pointer (some ⟨N + 1, 0, none⟩), .pointer (some ⟨N + 1 + 1, 0, none⟩)] u w fun e u' w' => u' = u ∧ (e = .returned (.tuple #[]) ∧ w' = ((w.alloc (.cells #[] 3)).setCell ⟨N + 1, 0, none⟩ (.slice (some ⟨w.heap.size, 0, none⟩) 0 0)).setCell ⟨N + 1 + 1, 0, none⟩ (.int .i64 0)) := by
  have k3 := hbx.c3
  have hlt := hbx.lt
  have hba : DBox (w.alloc (.cells #[] 3)) N sv v nx false := hbx.below ((Below.refl (N + 1 + 1 + 1 + 1) w).alloc (by omega) _) (Nat.le_refl _)
  have k1 := hba.c1
  have k2 := hba.c2
  have f1 := hba.f1
  have f2 := hba.f2
  clear hbx hba
  go_enter_d Try.func53, Try.ntmps53
  go_wp2
  go_end0
  exact ⟨rfl, rfl⟩
theorem box_start (w : World) (sv v : Value) (nx : Int) (ok : Bool) (O : Obj) :
    DBox (((((w.alloc (.cells #[sv] 22)).alloc (.cells #[v] 35)).alloc (.cells #[.int .i64 nx] 3)).alloc (.cells #[.bool ok] 4)).alloc O) w.heap.size sv v nx ok := by
  have h (w : World) (o : Obj) (k : Nat) (hk : k = w.heap.size) : (w.alloc o).heap[k]? = some o := by subst hk; exact heap_alloc_new w o
  have f (w : World) (o : Obj) (k : Nat) (hk : k < w.heap.size) := Below.heap_alloc w o k hk
  refine ⟨?_, ?_, ?_, ?_⟩
  · rw [f _ _ _ (by simp <;> omega), f _ _ _ (by simp <;> omega), f _ _ _ (by simp <;> omega), f _ _ _ (by simp <;> omega), h _ _ _ rfl]
  · rw [f _ _ _ (by simp <;> omega), f _ _ _ (by simp <;> omega), f _ _ _ (by simp <;> omega), h _ _ _ (by simp <;> omega)]
  · rw [f _ _ _ (by simp <;> omega), f _ _ _ (by simp <;> omega), h _ _ _ (by simp <;> omega)]
  · rw [f _ _ _ (by simp <;> omega), h _ _ _ (by simp <;> omega)]
theorem low5 (w : World) (o1 o2 o3 o4 o5 : Obj) : Below w.heap.size w (((((w.alloc o1).alloc o2).alloc o3).alloc o4).alloc o5) := by
  have h1 := (Below.refl w.heap.size w).alloc (Nat.le_refl _) o1
  have h2 := h1.alloc h1.size o2
  have h3 := h2.alloc h2.size o3
  have h4 := h3.alloc h3.size o4
  exact h4.alloc h4.size o5
theorem own_start (w : World) (o1 o2 o3 o4 : Obj) : Own (((((w.alloc o1).alloc o2).alloc o3).alloc o4).alloc (.cells #[] 3)) (w.heap.size + 1 + 1 + 1 + 1) 3 .i64 (.slice (some ⟨w.heap.size + 1 + 1 + 1 + 1, 0, none⟩) 0 0) [] := by
  have h := Own.lit ((((w.alloc o1).alloc o2).alloc o3).alloc o4) (w.heap.size + 1 + 1 + 1 + 1) 3 .i64 (by simp)
  simpa using h
/-- The call's three results, written back to where they were. -/
def back (wr : World) (N : Nat) (v : Value) (nx : Int) (ok : Bool) : World := (((wr.setCell ⟨N + 1, 0, none⟩ v).setCell ⟨N + 1 + 1, 0, none⟩ (.int .i64 nx)).setCell ⟨N + 1 + 1 + 1, 0, none⟩ (.bool ok)).drew
theorem back_box {wr : World} {N : Nat} {sv v : Value} {nx : Int} {ok : Bool} (h : DBox wr N sv v nx ok) : DBox (back wr N v nx ok) N sv v nx ok := ((h.s1 v).s2 nx).s3 ok
theorem back_own {wr : World} {N : Nat} {v v' : Value} {nx : Int} {ok : Bool} {T : TypeId} {k : IntKind} {L : List Int} (h : Own wr (N + 1 + 1 + 1 + 1) T k v' L) : Own (back wr N v nx ok) (N + 1 + 1 + 1 + 1) T k v' L :=
  own_set (own_set (own_set h (by omega) _) (by omega) _) (by omega) _
theorem back_below {w wr : World} {N : Nat} {v : Value} {nx : Int} {ok : Bool} (h : Below N w wr) : Below N w (back wr N v nx ok) :=
  (((h.setCell (show N ≤ N + 1 by omega) _).setCell (show N ≤ N + 1 + 1 by omega) _).setCell (show N ≤ N + 1 + 1 + 1 by omega) _).drew
/-- What the deferred closure leaves of a failed reading. -/
def cleared (wd : World) (N : Nat) : World := ((wd.alloc (.cells #[] 3)).setCell ⟨N + 1, 0, none⟩ (.slice (some ⟨wd.heap.size, 0, none⟩) 0 0)).setCell ⟨N + 1 + 1, 0, none⟩ (.int .i64 0)
theorem cleared_box {wd : World} {N : Nat} {sv v : Value} {nx : Int} {ok : Bool} (h : DBox wd N sv v nx ok) : DBox (cleared wd N) N sv (.slice (some ⟨wd.heap.size, 0, none⟩) 0 0) 0 ok :=
  ((h.below ((Below.refl (N + 1 + 1 + 1 + 1) wd).alloc (by have := h.lt; omega) (.cells #[] 3)) (Nat.le_refl _)).s1 _).s2 _
theorem dec_fail {w wd : World} {N : Nat} {sv v : Value} {nx : Int} {ok : Bool} {o : Option (List Int × Nat)} (hbx : DBox wd N sv v nx ok) (hN : N = w.heap.size) (hb : Below N w wd) (ho : o = none) :
    GivesT 3 .i64 o w (.returned (.tuple #[.slice (some ⟨wd.heap.size, 0, none⟩) 0 0, .int .i64 0, .bool false])) (cleared wd N) := by
  subst ho; subst hN
  have hlt := hbx.lt
  have h1 := Own.lit wd wd.heap.size 3 .i64 (Nat.le_refl _)
  have h2 := own_set (g := w.heap.size + 1) h1 (by omega) (.slice (some ⟨wd.heap.size, 0, none⟩) 0 0)
  have h3 := own_set (g := w.heap.size + 1 + 1) h2 (by omega) (.int .i64 0)
  exact ⟨_, 0, [], Lib.hid rfl, rfl, h3.mono hb.size, ((hb.alloc hb.size _).setCell (show w.heap.size ≤ w.heap.size + 1 by omega) _).setCell (show w.heap.size ≤ w.heap.size + 1 + 1 by omega) _⟩
theorem results_dec {w : World} {N : Nat} {sv v : Value} {nx : Int} {ok : Bool} {t : Array Value} (h : DBox w N sv v nx ok) (h6 : t[6]?.getD undef = .pointer (some ⟨N + 1, 0, none⟩)) (h7 : t[7]?.getD undef = .pointer (some ⟨N + 1 + 1, 0, none⟩)) (h8 : t[8]?.getD undef = .pointer (some ⟨N + 1 + 1 + 1, 0, none⟩)) (hv : v.cells.size = 1 ∧ ∃ A n c, v = .slice A n c) :
    (results Try.f24 t).run Try.prog w = .ok (.tuple #[v, .int .i64 nx, .bool ok]) w := by
  have k1 := h.c1
  have k2 := h.c2
  have k3 := h.c3
  obtain ⟨_, A, n, c, rfl⟩ := hv
  simp [results, Try.results24, go_sem, h6, h7, h8, k1, k2, k3]
/-- How many values have been read. -/
def lenAt (w : World) (N : Nat) : Nat := match w.cell? ⟨N + 1, 0, none⟩ with | some (.slice _ m _) => m | _ => 0
theorem lenAt_box {w : World} {N : Nat} {sv : Value} {A : Option Addr} {m c : Nat} {nx : Int} {ok : Bool} (h : DBox w N sv (.slice A m c) nx ok) : lenAt w N = m := by unfold lenAt; rw [h.c1]
def DecIRel (N : Nat) (sv : Value) (l : List Int) (n k : Nat) (w wr : World) : Prop :=
  ∃ (A : Option Addr) (c : Nat) (L : List Int) (nx : Int) (ok : Bool), DBox wr N sv (.slice A L.length c) nx ok ∧ Own wr (N + 1 + 1 + 1 + 1) 3 .i64 (.slice A L.length c) L ∧ Below N w wr ∧ L.length ≤ n ∧
    ((ok = true ∧ ∃ a : Nat, nx = a ∧ a ≤ l.length ∧ DecEq l n k L.length a L) ∨ (ok = false ∧ decs l n k = none))
set_option maxRecDepth 100000 in
set_option maxHeartbeats 1000000 in
theorem dec_in (A : Option Addr) (c n k : Nat) (l : List Int) (w : World) (hs : Sees w w.heap.size .u8 A l) (h8 : B8 l) (hc : l.length ≤ c) (hl : l.length ≤ 4398046511104) (hn : n ≤ 100) (hk : k ≤ l.length) :
    Calls Try.prog 24 #[.slice A l.length c, .int .i64 k, .int .i64 n] w (GivesT 3 .i64 (decV l k n) w) := by
  have hmf : ∀ (fn : Fn) (first cap : Array Value) (w : World), (Instr.makeFunc fn first cap).run Try.prog w = .ok (.func fn first cap) w := fun _ _ _ _ => rfl
  have H8 : Hid (B8 l) := Lib.hid h8
  have HS := Lib.hid hs
  clear hs h8
  go_enter_defers Try.func24, Try.ntmps24
  go_wp2_with fail
  refine (in_is _ _ _ true _ (inB_yes (by omega) (by omega))).mono ?_
  rintro e w' ⟨rfl, rfl⟩
  go_wp2_with fail
  refine (in_is _ _ _ true _ (inB_yes (by omega) (by omega))).mono ?_
  rintro e w' ⟨rfl, rfl⟩
  go_wp2_with fail
  go_loopw [30] (fun _ wr => DecIRel w.heap.size (.slice A l.length c) l n k w wr) (fun _ wr => n - lenAt wr w.heap.size)
  case atStart =>
    exact ⟨_, 0, [], k, true, box_start w _ _ _ _ _, own_start w _ _ _ _, low5 w _ _ _ _ _, Nat.zero_le _, .inl ⟨rfl, k, rfl, hk, decEq_start _ _ _⟩⟩
  case round =>
    obtain ⟨A1, c1, L, nx, ok, hbx, ho, hb, hLn, hst⟩ := hrel
    have k1 := hbx.c1
    have k2 := hbx.c2
    have k3 := hbx.c3
    have f1 := hbx.f1
    have f2 := hbx.f2
    have f3 := hbx.f3
    have hlt := hbx.lt
    have hsz := hb.size
    have HX := Lib.hid hbx; have HO := Lib.hid ho; have HB := Lib.hid hb
    clear hbx ho hb
    rcases hst with ⟨rfl, a, rfl, ha, hd⟩ | ⟨rfl, hd⟩
    · have HD := Lib.hid hd; clear hd
      by_cases hmore : L.length < n
      · obtain ⟨m, b, q, hv⟩ := rv_form (readV l a)
        have HV := Lib.hid hv
        have HS1 := Lib.hid (HS.out.below HB.out)
        have hst : (q = true ∧ ∃ a' m' : Nat, b = a' ∧ m = m' ∧ a' ≤ l.length ∧ readV l a = some (m', a')) ∨ (q = false ∧ readV l a = none) := by
          match hr : readV l a with
          | none => rw [hr] at hv; simp only [rvV, Value.tuple.injEq] at hv; simp at hv; exact .inr ⟨hv.2.2, rfl⟩
          | some (m', a') => rw [hr] at hv; simp [rvV] at hv; exact .inl ⟨hv.2.2, a', m', hv.2.1.symm, hv.1.symm, (readV_bd H8.out hr).1, rfl⟩
        have HST := Lib.hid hst
        clear hst hv
        go_wp2_with fail
        refine (next_any w.heap.size A A1 c c1 l L a m b q true _ HX.out HO.out (HS1.out.mono hsz) H8.out hc hl (by omega) HV.out).mono ?_
        rintro e w2 ⟨A2, c2, L2, HL2, rfl, hbx2, ho2, hb2⟩
        have k3' := hbx2.c3
        have f3' := hbx2.f3
        have HX2 := Lib.hid hbx2; have HO2 := Lib.hid ho2; have HB2 := Lib.hid hb2
        clear hbx2 ho2 hb2
        go_wp2
        go_roundw
        case rel =>
          have hln : L2.length = L.length + 1 := by rw [HL2.out]; simp
          refine ⟨A2, c2, L2, b, q, HX2.out.s3 q, own_set HO2.out (by omega) _, (HB.out.trans HB2.out).setCell (show w.heap.size ≤ w.heap.size + 1 + 1 + 1 by omega) _, by omega, ?_⟩
          rcases HST.out with ⟨hq, a', m', hb', hm', ha', hr⟩ | ⟨hq, hr⟩
          · refine .inl ⟨hq, a', hb', ha', ?_⟩
            rw [hln, HL2.out, hm']; exact decEq_next HD.out hmore hr
          · exact .inr ⟨hq, decEq_none HD.out hmore hr⟩
        case measure =>
          have hln : L2.length = L.length + 1 := by rw [HL2.out]; simp
          have e1 := lenAt_box HX.out
          have e2 := lenAt_box (HX2.out.s3 q)
          rw [e1, e2]; omega
      · have hnl : n = L.length := by omega
        have HN := Lib.hid hnl; clear hnl
        go_wp2
        go_region
        go_wp2
        have hbk := back_box HX.out
        refine leaves_cons (f := 53) (args := #[.pointer (some ⟨w.heap.size + 1 + 1 + 1, 0, none⟩), .pointer (some ⟨w.heap.size + 1, 0, none⟩), .pointer (some ⟨w.heap.size + 1 + 1, 0, none⟩)]) (by simp) (by simp [go_sem]) ?_
        refine (clear_no w.heap.size _ _ _ .returning _ hbk).mono ?_
        rintro e u' w'' ⟨rfl, rfl, rfl⟩
        have hd := HD.out
        rw [← HN.out] at hd
        exact ⟨_, results_dec hbk rfl rfl rfl ⟨rfl, _, _, _, rfl⟩, giveT_yes (by rw [decV_in hn hk]; exact decEq_end hd) rfl rfl rfl ((back_own HO.out).mono (by omega)) (back_below HB.out)⟩
    · have HD := Lib.hid hd; clear hd
      go_wp2
      go_region
      go_wp2
      have hbk := back_box HX.out
      refine leaves_cons (f := 53) (args := #[.pointer (some ⟨w.heap.size + 1 + 1 + 1, 0, none⟩), .pointer (some ⟨w.heap.size + 1, 0, none⟩), .pointer (some ⟨w.heap.size + 1 + 1, 0, none⟩)]) (by simp) (by simp [go_sem]) ?_
      refine (clear_yes w.heap.size _ _ _ .returning _ hbk).mono ?_
      rintro e u' w'' ⟨rfl, rfl, rfl⟩
      exact ⟨_, results_dec (cleared_box hbk) rfl rfl rfl ⟨rfl, _, _, _, rfl⟩, dec_fail hbk rfl (back_below HB.out) (by rw [decV_in hn hk]; exact HD.out)⟩
def OutRel (N : Nat) (sv : Value) (w wr : World) : Prop := ∃ (A : Option Addr) (m c : Nat) (nx : Int), DBox wr N sv (.slice A m c) nx false ∧ Below N w wr
set_option maxRecDepth 100000 in
set_option maxHeartbeats 1000000 in
theorem dec_out_n (A : Option Addr) (c : Nat) (l : List Int) (off n : Int) (w : World) (hn : ¬ (0 ≤ n ∧ n ≤ 100)) :
    Calls Try.prog 24 #[.slice A l.length c, .int .i64 off, .int .i64 n] w (GivesT 3 .i64 (decV l off n) w) := by
  have hmf : ∀ (fn : Fn) (first cap : Array Value) (w : World), (Instr.makeFunc fn first cap).run Try.prog w = .ok (.func fn first cap) w := fun _ _ _ _ => rfl
  have hf : inB n 0 100 = false := by
    rcases (by omega : n < 0 ∨ 100 < n) with h | h
    · exact inB_low h
    · exact inB_high h
  have HF := Lib.hid hf
  have HNo : Hid (decV l off n = none) := Lib.hid (dec_no_range (by omega))
  clear hf hn
  go_enter_defers Try.func24, Try.ntmps24
  go_wp2_with fail
  refine (in_is _ _ _ false _ HF.out).mono ?_
  rintro e w' ⟨rfl, rfl⟩
  go_wp2_with fail
  go_loopw [30] (fun _ wr => OutRel w.heap.size (.slice A l.length c) w wr) (fun _ _ => 0)
  case atStart => exact ⟨_, 0, 0, off, box_start w _ _ _ _ _, low5 w _ _ _ _ _⟩
  case round =>
    obtain ⟨A1, m1, c1, nx, hbx, hb⟩ := hrel
    have k1 := hbx.c1
    have k2 := hbx.c2
    have k3 := hbx.c3
    have f1 := hbx.f1
    have f2 := hbx.f2
    have f3 := hbx.f3
    have HX := Lib.hid hbx; have HB := Lib.hid hb
    clear hbx hb
    go_wp2
    go_region
    go_wp2
    have hbk := back_box HX.out
    refine leaves_cons (f := 53) (args := #[.pointer (some ⟨w.heap.size + 1 + 1 + 1, 0, none⟩), .pointer (some ⟨w.heap.size + 1, 0, none⟩), .pointer (some ⟨w.heap.size + 1 + 1, 0, none⟩)]) (by simp) (by simp [go_sem]) ?_
    refine (clear_yes w.heap.size _ _ _ .returning _ hbk).mono ?_
    rintro e u' w'' ⟨rfl, rfl, rfl⟩
    exact ⟨_, results_dec (cleared_box hbk) rfl rfl rfl ⟨rfl, _, _, _, rfl⟩, dec_fail hbk rfl (back_below HB.out) HNo.out⟩
set_option maxRecDepth 100000 in
set_option maxHeartbeats 1000000 in
theorem dec_out_off (A : Option Addr) (c : Nat) (l : List Int) (off n : Int) (w : World) (hn : 0 ≤ n ∧ n ≤ 100) (ho : ¬ (0 ≤ off ∧ off ≤ l.length)) :
    Calls Try.prog 24 #[.slice A l.length c, .int .i64 off, .int .i64 n] w (GivesT 3 .i64 (decV l off n) w) := by
  have hmf : ∀ (fn : Fn) (first cap : Array Value) (w : World), (Instr.makeFunc fn first cap).run Try.prog w = .ok (.func fn first cap) w := fun _ _ _ _ => rfl
  have hf : inB off 0 l.length = false := by
    rcases (by omega : off < 0 ∨ (l.length : Int) < off) with h | h
    · exact inB_low h
    · exact inB_high h
  have HF := Lib.hid hf
  have HNo : Hid (decV l off n = none) := Lib.hid (dec_no_range (by omega))
  clear hf ho
  go_enter_defers Try.func24, Try.ntmps24
  go_wp2_with fail
  refine (in_is _ _ _ true _ (inB_yes hn.1 hn.2)).mono ?_
  rintro e w' ⟨rfl, rfl⟩
  go_wp2_with fail
  refine (in_is _ _ _ false _ HF.out).mono ?_
  rintro e w' ⟨rfl, rfl⟩
  go_wp2_with fail
  go_loopw [30] (fun _ wr => OutRel w.heap.size (.slice A l.length c) w wr) (fun _ _ => 0)
  case atStart => exact ⟨_, 0, 0, off, box_start w _ _ _ _ _, low5 w _ _ _ _ _⟩
  case round =>
    obtain ⟨A1, m1, c1, nx, hbx, hb⟩ := hrel
    have k1 := hbx.c1
    have k2 := hbx.c2
    have k3 := hbx.c3
    have f1 := hbx.f1
    have f2 := hbx.f2
    have f3 := hbx.f3
    have HX := Lib.hid hbx; have HB := Lib.hid hb
    clear hbx hb
    go_wp2
    go_region
    go_wp2
    have hbk := back_box HX.out
    refine leaves_cons (f := 53) (args := #[.pointer (some ⟨w.heap.size + 1 + 1 + 1, 0, none⟩), .pointer (some ⟨w.heap.size + 1, 0, none⟩), .pointer (some ⟨w.heap.size + 1 + 1, 0, none⟩)]) (by simp) (by simp [go_sem]) ?_
    refine (clear_yes w.heap.size _ _ _ .returning _ hbk).mono ?_
    rintro e u' w'' ⟨rfl, rfl, rfl⟩
    exact ⟨_, results_dec (cleared_box hbk) rfl rfl rfl ⟨rfl, _, _, _, rfl⟩, dec_fail hbk rfl (back_below HB.out) HNo.out⟩
theorem dec_any (A : Option Addr) (c : Nat) (l : List Int) (off n : Int) (w : World) (hs : Sees w w.heap.size .u8 A l) (h8 : B8 l) (hc : l.length ≤ c) (hl : l.length ≤ 4398046511104) :
    Calls Try.prog 24 #[.slice A l.length c, .int .i64 off, .int .i64 n] w (GivesT 3 .i64 (decV l off n) w) := by
  by_cases hn : 0 ≤ n ∧ n ≤ 100
  · by_cases ho : 0 ≤ off ∧ off ≤ l.length
    · obtain ⟨k, rfl⟩ : ∃ k : Nat, off = k := ⟨off.toNat, by omega⟩
      obtain ⟨m, rfl⟩ : ∃ m : Nat, n = m := ⟨n.toNat, by omega⟩
      exact dec_in A c m k l w hs h8 hc hl (by omega) (by omega)
    · exact dec_out_off A c l off n w hn ho
  · exact dec_out_n A c l off n w hn
theorem dec_len (l : List Int) (off n : Int) : (rbL (decV l off n)).length ≤ 100 := by
  unfold decV
  split
  · match h : decs l n.toNat off.toNat with
    | none => simp [rbL]
    | some p => have := decs_len h; simp only [rbL]; omega
  · simp [rbL]
end Go.Proofs.Ytnjmohpdmboopaa

/- FnLines: a line turned round is as long, as simple, and meets what it met: its walk. -/
import Derived.Test.YtbnjaaegbmhopaaLineR
import Derived.Test.YtbnjaaegbmhopaaLineK
import Derived.Test.YtbnjaaegbmhopaaLineN
import Derived.Test.YtbnjaaegbmhopaaLineS1
import Derived.Test.YtbnjaaegbmhopaaDrawLine2
namespace Go.Proofs.Ytbnjaaegbmhopaa
open Go.ChangeShapes Go.WideShapes Go.ChangeAt Go.RowKit
set_option linter.unusedVariables false

theorem segHead {w : World} {B : Nat} {b off : Nat} {l : List (Int × Int × Int × Int)} {t0 t1 t2 t3 : Int} (h : SeesE 4 encSegment w B (some ⟨b, off, none⟩) l) (hj : l[0]? = some (t0, t1, t2, t3)) : w.cell? ⟨b, off, none⟩ = some (.int .i64 t0) ∧ w.cell? ⟨b, off + 1, none⟩ = some (.int .i64 t1) := by
  obtain ⟨h0, h1, -, -⟩ := cellsSegment h hj
  rw [Nat.zero_mul, Nat.add_zero] at h0 h1
  exact ⟨h0, h1⟩
def lnT : List (Nat × Nat × Nat) := [(0, 65, 8), (1, 66, 18446744073709551616), (2, 67, 36893488147419103232), (4, 68, 73786976294838206720), (12, 69, 221360928884514619392), (4, 70, 73786976294838206472), (36, 71, 664082786653543858176), (68, 72, 1254378597012249509888), (148, 73, 2730118122909013639168), (260, 74, 4796153459164483420160), (516, 75, 9444732965739290427392), (1024, 76, 18889465931478580855040), (3072, 77, 56668397794435742564352), (5120, 78, 94447329657392904273920), (9216, 79, 170005193383307227693056), (1024, 80, 18889465931478580854792), (33792, 81, 623352375738793168207872), (66560, 82, 1227815285546107755560960), (148480, 83, 2738972560064394223943680), (263168, 84, 4854592744389995279679488), (525312, 85, 9671406556917033397649408), (1048576, 86, 19342813113834066795298824), (3145728, 87, 58028439341502200385896448), (5242880, 88, 96714065569170333976494080), (13631488, 89, 174085318024506601157689344), (16777216, 90, 309485009821345068724781312), (50331648, 91, 928455029464035206174343168), (83886080, 92, 1547425049106725343623905280), (152043520, 93, 2804707901505939685318328320), (286261248, 94, 4971102970255355166391795712), (536870912, 95, 9903520314283042199192993800), (1610612736, 96, 29710560942849126597578981376), (2684354560, 97, 49517601571415210995964968960), (4832886784, 98, 89151025641661213859532242944), (8590983168, 99, 158475667841642509253883199488), (34359738367, 3, 316912650057057350374175801344)]
def lnS : List (Nat × Bool) := [(0, true), (1, false), (2, true), (3, true), (4, true), (5, true), (6, true), (7, true), (8, true), (9, true), (10, true), (11, true), (12, true), (13, true), (14, true), (15, true), (16, true), (17, true), (18, true), (19, true), (20, true), (21, true), (22, false), (23, true), (24, true), (25, true), (26, true), (27, true), (28, true), (29, true), (30, true), (31, false), (32, true), (33, true), (34, true), (35, true)]
set_option maxRecDepth 100000 in
set_option maxHeartbeats 8000000 in
theorem law_FnLines (A : Option Addr) (len cap : Nat) (w : World) (hc : Code w w.heap.size A len) :
    Calls Try.prog 5 #[.slice A len cap] w fun e w' => e = .returned (.bool true) ∧ Below w.heap.size w w' := by
  have hlen := hc.1
  by_cases hbig : 1048576 < len
  · go_enter Try.func5, Try.ntmps5
    go_wp2_with fail
    refine (big_yes A len cap _ hbig).mono ?_
    rintro e w0 ⟨rfl, rfl⟩
    go_wp2
    go_ret
    exact ⟨rfl, Below.refl _ _⟩
  · go_enter Try.func5, Try.ntmps5
    have HC := Lib.hid hc; clear hc
    go_wp2_with fail
    refine (big_no A len cap _ (by omega)).mono ?_
    rintro e w0 ⟨rfl, rfl⟩
    have HB := Lib.hid (Below.refl w.heap.size w)
    go_wp2_with fail
    refine (drawIsLine_any A len cap _ _ HC.out).mono ?_
    rintro e w1 ⟨Al, cl, l, rfl, hl1, ⟨hl11, -⟩, hs, hb1⟩
    have HSl := Lib.hid hs; clear hs
    have HB := Lib.hid (HB.out.trans (hb1.mono HB.out.size))
    clear hb1
    have hll : l.length ≤ 1099511627776 := by omega
    obtain ⟨z, hz⟩ : ∃ z, isLn l = z := ⟨_, rfl⟩
    obtain ⟨sv, hsv⟩ : ∃ z, smpV l = z := ⟨_, rfl⟩
    obtain ⟨kv, hkv⟩ : ∃ z, stpV (sgV l) = z := ⟨_, rfl⟩
    go_wp2_with fail
    refine (turnLine_any Al cl l _ HSl.out hll).mono ?_
    rintro e w2 ⟨At, ct, Lt, HLt, rfl, ho2, hb2⟩
    have HB := Lib.hid (HB.out.trans (hb2.mono HB.out.size))
    have HSl := Lib.hid (HSl.out.belowAll hb2)
    clear hb2
    have HSt := Lib.hid (ho2.sees elPoint); clear ho2
    have hlt : Lt.length ≤ 1099511627776 := by rw [HLt.out, List.length_reverse]; exact hll
    go_wp2_with fail
    refine (isLine_is Al cl l _ HSl.out hll z hz).mono ?_
    rintro e w3 ⟨rfl, hb3⟩
    have HB := Lib.hid (HB.out.trans (hb3.mono HB.out.size))
    have HSl := Lib.hid (HSl.out.belowAll hb3)
    have HSt := Lib.hid (HSt.out.belowAll hb3)
    clear hb3
    go_wp2_with fail
    refine (isLine_is At ct Lt _ HSt.out hlt z (by rw [HLt.out, isLn_rev]; exact hz)).mono ?_
    rintro e w4 ⟨rfl, hb4⟩
    have HB := Lib.hid (HB.out.trans (hb4.mono HB.out.size))
    have HSl := Lib.hid (HSl.out.belowAll hb4)
    have HSt := Lib.hid (HSt.out.belowAll hb4)
    clear hb4
    go_wp2_with fail
    refine (isSimple_is Al cl l _ HSl.out hll sv hsv).mono ?_
    rintro e w5 ⟨rfl, hb5⟩
    have HB := Lib.hid (HB.out.trans (hb5.mono HB.out.size))
    have HSl := Lib.hid (HSl.out.belowAll hb5)
    have HSt := Lib.hid (HSt.out.belowAll hb5)
    clear hb5
    go_wp2_with fail
    refine (isSimple_is At ct Lt _ HSt.out hlt sv (by rw [HLt.out, smpV_rev]; exact hsv)).mono ?_
    rintro e w6 ⟨rfl, hb6⟩
    have HB := Lib.hid (HB.out.trans (hb6.mono HB.out.size))
    have HSl := Lib.hid (HSl.out.belowAll hb6)
    have HSt := Lib.hid (HSt.out.belowAll hb6)
    clear hb6
    go_wp2_with fail
    refine (lineSteps_is Al cl l _ HSl.out hll kv hkv).mono ?_
    rintro e w7 ⟨rfl, hb7⟩
    have HB := Lib.hid (HB.out.trans (hb7.mono HB.out.size))
    have HSl := Lib.hid (HSl.out.belowAll hb7)
    have HSt := Lib.hid (HSt.out.belowAll hb7)
    clear hb7
    go_wp2_with fail
    refine (lineSteps_is At ct Lt _ HSt.out hlt kv (by rw [HLt.out, stpV_rev]; exact hkv)).mono ?_
    rintro e w8 ⟨rfl, hb8⟩
    have HB := Lib.hid (HB.out.trans (hb8.mono HB.out.size))
    have HSl := Lib.hid (HSl.out.belowAll hb8)
    have HSt := Lib.hid (HSt.out.belowAll hb8)
    clear hb8
    go_wp2_with fail
    refine (turnLine_any At ct Lt _ HSt.out hlt).mono ?_
    rintro e w9 ⟨Au, cu, Lu, HLu, rfl, ho9, hb9⟩
    have HB := Lib.hid (HB.out.trans (hb9.mono HB.out.size))
    have HSl := Lib.hid (HSl.out.belowAll hb9)
    have HSt := Lib.hid (HSt.out.belowAll hb9)
    clear hb9
    have HSu := Lib.hid (ho9.sees elPoint); clear ho9
    have hlu : Lu.length ≤ 1099511627776 := by rw [HLu.out, List.length_reverse]; exact hlt
    go_wp2_with fail
    refine (equalLines_is Au Al cu cl Lu l _ HSu.out HSl.out hlu true (decide_eq_true (by rw [HLu.out, HLt.out, List.reverse_reverse]))).mono ?_
    rintro e w10 ⟨rfl, hb10⟩
    have HB := Lib.hid (HB.out.trans (hb10.mono HB.out.size))
    have HSl := Lib.hid (HSl.out.belowAll hb10)
    have HSt := Lib.hid (HSt.out.belowAll hb10)
    have HSu := Lib.hid (HSu.out.belowAll hb10)
    clear hb10
    clear HSt HSu
    go_wp2_with fail
    refine (drawLinesMeet_any A len cap _ _ (code_below HC.out HB.out)).mono ?_
    rintro e w11 ⟨Aa, ca, la, Ab, cb, lb, rfl, hla, hlb, hsa, hsb, hb11⟩
    have HSa := Lib.hid hsa; have HSb := Lib.hid hsb; clear hsa hsb
    have HB := Lib.hid (HB.out.trans (hb11.mono HB.out.size))
    have HSl := Lib.hid (HSl.out.belowAll hb11)
    clear hb11
    have hla' : la.length ≤ 1099511627776 := by omega
    have hlb' : lb.length ≤ 1099511627776 := by omega
    obtain ⟨mv, hmv⟩ : ∃ z, mtV (sgV la) (sgV lb) = z := ⟨_, rfl⟩
    go_wp2_with fail
    refine (linesMeet_is Aa Ab ca cb la lb _ HSa.out HSb.out hla' hlb' mv hmv).mono ?_
    rintro e w12 ⟨rfl, hb12⟩
    have HB := Lib.hid (HB.out.trans (hb12.mono HB.out.size))
    have HSl := Lib.hid (HSl.out.belowAll hb12)
    have HSa := Lib.hid (HSa.out.belowAll hb12)
    have HSb := Lib.hid (HSb.out.belowAll hb12)
    clear hb12
    go_wp2_with fail
    refine (linesMeet_is Ab Aa cb ca lb la _ HSb.out HSa.out hlb' hla' mv (by rw [mtV_comm]; exact hmv)).mono ?_
    rintro e w13 ⟨rfl, hb13⟩
    have HB := Lib.hid (HB.out.trans (hb13.mono HB.out.size))
    have HSl := Lib.hid (HSl.out.belowAll hb13)
    have HSa := Lib.hid (HSa.out.belowAll hb13)
    have HSb := Lib.hid (HSb.out.belowAll hb13)
    clear hb13
    go_wp2_with fail
    refine (turnLine_any Aa ca la _ HSa.out hla').mono ?_
    rintro e w14 ⟨Av, cv, Lv, HLv, rfl, ho14, hb14⟩
    have HB := Lib.hid (HB.out.trans (hb14.mono HB.out.size))
    have HSl := Lib.hid (HSl.out.belowAll hb14)
    have HSa := Lib.hid (HSa.out.belowAll hb14)
    have HSb := Lib.hid (HSb.out.belowAll hb14)
    clear hb14
    have HSv := Lib.hid (ho14.sees elPoint); clear ho14
    have hlv : Lv.length ≤ 1099511627776 := by rw [HLv.out, List.length_reverse]; exact hla'
    go_wp2_with fail
    refine (linesMeet_is Av Ab cv cb Lv lb _ HSv.out HSb.out hlv hlb' mv (by rw [HLv.out, mtV_rev]; exact hmv)).mono ?_
    rintro e w15 ⟨rfl, hb15⟩
    have HB := Lib.hid (HB.out.trans (hb15.mono HB.out.size))
    have HSl := Lib.hid (HSl.out.belowAll hb15)
    have HSa := Lib.hid (HSa.out.belowAll hb15)
    have HSb := Lib.hid (HSb.out.belowAll hb15)
    have HSv := Lib.hid (HSv.out.belowAll hb15)
    clear hb15
    clear HSa HSb HSv
    go_wp2_with fail
    refine (segmentsOf_any Al cl l _ HSl.out hll).mono ?_
    rintro e w16 ⟨As, cs, Ls, HLs, rfl, ho16, hb16⟩
    have HB := Lib.hid (HB.out.trans (hb16.mono HB.out.size))
    have HSl := Lib.hid (HSl.out.belowAll hb16)
    clear hb16
    have HSs := Lib.hid (ho16.sees elSegment); clear ho16
    go_upto_region 12 with fail
    have HB := Lib.hid HB.out.drew
    have HSl := Lib.hid HSl.out.drew
    have HSs := Lib.hid HSs.out.drew
    cases z
    · have hs0 : Ls.length = 0 := by rw [HLs.out, sgV_no hz]; rfl
      have hsf : smpV l = false := by unfold smpV; rw [hz, Bool.and_false]
      refine wp_region_held_drew (S := fun _ => True) (by kernel_rfl) trivial (fun hHeld => ?_)
      refine to_lin (T := lnT) (n := 36) lnS ⟨by kernel_rfl, by kernel_rfl, by kernel_rfl⟩ (by kernel_rfl) (fun hTag => ?_)
      (refine lin_on (v := ?_) rfl (fun _ _ _ h => h) (by rfl) ?_ (by assumption) ?_; rotate_left; (· (intro wq hSw; go_simp; try with_reducible rfl)); try simp only [Act.put, List.setIfInBounds_toArray, List.set_cons_zero, List.set_cons_succ])
      refine lin_call rfl (by rfl) (fun K hK => ?_)
      go_simp
      go_at_call 33
      refine (isLine_is _ cl l _ HSl.out hll _ hz).mono ?_
      rintro e w9 ⟨rfl, hb9⟩
      have HB := Lib.hid (HB.out.trans (hb9.mono HB.out.size))
      have HSl := Lib.hid (HSl.out.belowAll hb9)
      have HSs := Lib.hid (HSs.out.belowAll hb9)
      clear hb9
      go_wp2_with fail
      refine hK.out _ _ ?_ (fun hHeld => ?_)
      · exact trivial
      clear hK K
      try simp only [Act.put, List.setIfInBounds_toArray, List.set_cons_zero, List.set_cons_succ]
      (refine lin_on (v := ?_) rfl (fun _ _ _ h => h) (by rfl) ?_ (by assumption) ?_; rotate_left; (· (intro wq hSw; go_simp; try with_reducible rfl)); try simp only [Act.put, List.setIfInBounds_toArray, List.set_cons_zero, List.set_cons_succ])
      iterate 6 (refine lin_off rfl (fun _ _ _ h => h) (by rfl) (by assumption) ?_; try simp only [Act.put, List.setIfInBounds_toArray, List.set_cons_zero, List.set_cons_succ])
      iterate 2 (refine lin_on (v := ?_) rfl (fun _ _ _ h => h) (by rfl) ?_ (by assumption) ?_; rotate_left; (· (intro wq hSw; go_simp; try with_reducible rfl)); try simp only [Act.put, List.setIfInBounds_toArray, List.set_cons_zero, List.set_cons_succ])
      iterate 8 (refine lin_off rfl (fun _ _ _ h => h) (by rfl) (by assumption) ?_; try simp only [Act.put, List.setIfInBounds_toArray, List.set_cons_zero, List.set_cons_succ])
      iterate 3 (refine lin_on (v := ?_) rfl (fun _ _ _ h => h) (by rfl) ?_ (by assumption) ?_; rotate_left; (· (intro wq hSw; go_simp; try with_reducible rfl)); try simp only [Act.put, List.setIfInBounds_toArray, List.set_cons_zero, List.set_cons_succ])
      refine lin_call rfl (by rfl) (fun K hK => ?_)
      go_simp
      go_at_call 33
      refine (isLine_is _ cl l _ HSl.out hll _ hz).mono ?_
      rintro e w9 ⟨rfl, hb9⟩
      have HB := Lib.hid (HB.out.trans (hb9.mono HB.out.size))
      have HSl := Lib.hid (HSl.out.belowAll hb9)
      have HSs := Lib.hid (HSs.out.belowAll hb9)
      clear hb9
      go_wp2_with fail
      refine hK.out _ _ ?_ (fun hHeld => ?_)
      · exact trivial
      clear hK K
      try simp only [Act.put, List.setIfInBounds_toArray, List.set_cons_zero, List.set_cons_succ]
      iterate 8 (refine lin_on (v := ?_) rfl (fun _ _ _ h => h) (by rfl) ?_ (by assumption) ?_; rotate_left; (· (intro wq hSw; go_simp; try with_reducible rfl)); try simp only [Act.put, List.setIfInBounds_toArray, List.set_cons_zero, List.set_cons_succ])
      refine lin_call rfl (by rfl) (fun K hK => ?_)
      go_simp
      go_at_call 34
      refine (isSimple_is Al cl l _ HSl.out hll _ hsf).mono ?_
      rintro e w9 ⟨rfl, hb9⟩
      have HB := Lib.hid (HB.out.trans (hb9.mono HB.out.size))
      have HSl := Lib.hid (HSl.out.belowAll hb9)
      have HSs := Lib.hid (HSs.out.belowAll hb9)
      clear hb9
      go_wp2_with fail
      refine hK.out _ _ ?_ (fun hHeld => ?_)
      · exact trivial
      clear hK K
      try simp only [Act.put, List.setIfInBounds_toArray, List.set_cons_zero, List.set_cons_succ]
      iterate 4 (refine lin_on (v := ?_) rfl (fun _ _ _ h => h) (by rfl) ?_ (by assumption) ?_; rotate_left; (· (intro wq hSw; go_simp; try with_reducible rfl)); try simp only [Act.put, List.setIfInBounds_toArray, List.set_cons_zero, List.set_cons_succ])
      refine lin_done ?_
      go_wp2
      go_ret
      exact ⟨rfl, HB.out⟩
    · obtain ⟨h2, h10, -⟩ := isLn_yes hz
      obtain ⟨x0, x1, y0, y1, gx, -, gj⟩ := jts_at (l := l) (j := 0) (by omega)
      have gs : Ls[0]? = some (x0, x1, y0, y1) := by rw [HLs.out, sgV_yes hz]; exact gj
      have hsl : Ls.length = l.length - 1 := by rw [HLs.out, sgV_yes hz, jts_len]
      have hq : (Ls.length : Int) = (l.length : Int) - 1 := by omega
      have hsp : (0 : Int) < (Ls.length : Int) := by omega
      have hsp' : (0 : Int) < (l.length : Int) - 1 := by omega
      have h1l : (1 : Int) < (l.length : Int) := by omega
      have hn0 : 0 < l.length := by omega
      clear hsl
      have hlp : (0 : Int) < (l.length : Int) := by omega
      have hw : IntKind.i64.wrap ((l.length : Int) - 1) = (l.length : Int) - 1 := IntWalk.i64_in _ (by omega)
      obtain ⟨bl, offl, rfl, -, -⟩ := HSl.out 0 _ gx
      obtain ⟨bs, offs, rfl, -, -⟩ := HSs.out 0 _ gs
      have GX := Lib.hid gx; have GS := Lib.hid gs; clear gx gs gj
      refine wp_region_held_drew (S := (fun w' => (w'.cell? ⟨bl, offl, none⟩ = some (.int .i64 x0) ∧ w'.cell? ⟨bl, offl + 1, none⟩ = some (.int .i64 x1)) ∧ (w'.cell? ⟨bs, offs, none⟩ = some (.int .i64 x0) ∧ w'.cell? ⟨bs, offs + 1, none⟩ = some (.int .i64 x1)))) (by kernel_rfl) ⟨cellsPoint0 HSl.out GX.out, segHead HSs.out GS.out⟩ (fun hHeld => ?_)
      refine to_lin (T := lnT) (n := 36) lnS ⟨by kernel_rfl, by kernel_rfl, by kernel_rfl⟩ (by kernel_rfl) (fun hTag => ?_)
      (refine lin_on (v := ?_) rfl (fun _ _ _ h => h) (by rfl) ?_ (by assumption) ?_; rotate_left; (· (intro wq hSw; go_simp; try with_reducible rfl)); try simp only [Act.put, List.setIfInBounds_toArray, List.set_cons_zero, List.set_cons_succ])
      refine lin_call rfl (by rfl) (fun K hK => ?_)
      go_simp
      go_at_call 33
      refine (isLine_is _ cl l _ HSl.out hll _ hz).mono ?_
      rintro e w9 ⟨rfl, hb9⟩
      have HB := Lib.hid (HB.out.trans (hb9.mono HB.out.size))
      have HSl := Lib.hid (HSl.out.belowAll hb9)
      have HSs := Lib.hid (HSs.out.belowAll hb9)
      clear hb9
      go_wp2_with fail
      refine hK.out _ _ ?_ (fun hHeld => ?_)
      · exact ⟨cellsPoint0 HSl.out GX.out, segHead HSs.out GS.out⟩
      clear hK K
      try simp only [Act.put, List.setIfInBounds_toArray, List.set_cons_zero, List.set_cons_succ]
      iterate 19 (refine lin_on (v := ?_) rfl (fun _ _ _ h => h) (by rfl) ?_ (by assumption) ?_; rotate_left; (· (intro wq hSw; go_simp; try with_reducible rfl)); try simp only [Act.put, List.setIfInBounds_toArray, List.set_cons_zero, List.set_cons_succ])
      (refine lin_off rfl (fun _ _ _ h => h) (by rfl) (by assumption) ?_; try simp only [Act.put, List.setIfInBounds_toArray, List.set_cons_zero, List.set_cons_succ])
      (refine lin_skip rfl (by rfl) (by assumption) ?_; try simp only [Act.put, List.setIfInBounds_toArray, List.set_cons_zero, List.set_cons_succ])
      iterate 8 (refine lin_off rfl (fun _ _ _ h => h) (by rfl) (by assumption) ?_; try simp only [Act.put, List.setIfInBounds_toArray, List.set_cons_zero, List.set_cons_succ])
      (refine lin_skip rfl (by rfl) (by assumption) ?_; try simp only [Act.put, List.setIfInBounds_toArray, List.set_cons_zero, List.set_cons_succ])
      iterate 2 (refine lin_off rfl (fun _ _ _ h => h) (by rfl) (by assumption) ?_; try simp only [Act.put, List.setIfInBounds_toArray, List.set_cons_zero, List.set_cons_succ])
      iterate 2 (refine lin_on (v := ?_) rfl (fun _ _ _ h => h) (by rfl) ?_ (by assumption) ?_; rotate_left; (· (intro wq hSw; go_simp; try with_reducible rfl)); try simp only [Act.put, List.setIfInBounds_toArray, List.set_cons_zero, List.set_cons_succ])
      refine lin_done ?_
      go_wp2
      go_ret
      exact ⟨rfl, HB.out⟩
theorem law_FnLines_row (A : Option Addr) (len cap : Nat) (z : List Int) (w : World) (hrow : IsRow .u8 w A len cap z) :
    Calls Try.prog 5 #[.slice A len cap] w fun e w' => e = .returned (.bool true) ∧ Below w.heap.size w w' :=
  law_FnLines A len cap w (code_of_row hrow)
end Go.Proofs.Ytbnjaaegbmhopaa

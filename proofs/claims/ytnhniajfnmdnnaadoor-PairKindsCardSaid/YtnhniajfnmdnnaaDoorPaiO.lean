/- The program's own answers for layer 15 (pair): Holds, Never. -/
import Derived.Test.YtnhniajfnmdnnaaDoorPaiL
namespace Go.Proofs.YtnhniajfnmdnnaaDoor
open Go.RowKit
open Whn (Gr Wh)

set_option maxRecDepth 20000 in
set_option maxHeartbeats 4000000 in
theorem p_HoldsP (g : Gr) (k n : Int) (x y : Sp) (walk : Int) (hx : Wok x.w) (hy : Wok y.w) (w : World) (hT : Tb w) : Calls Tryd.prog 9 #[gv g, .int .i64 k, .int .i64 n, spv x, spv y, .int .i64 walk] w (Did (.bool (prH g k n x y walk)) w) := by
  have HN := hid (fun X => p_NeedsP k X)
  have HR1 := hid (fun X => p_Right g x.w hx X)
  have HR2 := hid (fun X => p_Right g y.w hy X)
  have HS := hid (fun X => p_sameRoomP x y X)
  have HTm := hid (fun h1 h2 h3 h4 h5 X h => p_times g k n x.w y.w walk h1 h2 h3 hx hy h4 h5 X h)
  have HT := hid hT
  obtain ⟨P, W, hP, hW, K, hb0⟩ := (Mem.nil w).one (gc g) 23
  obtain ⟨Q, V, hQ, hV, K1, hb1⟩ := K.out.one (spc x) 29
  obtain ⟨R, U, hR, hU, K2, hb2⟩ := K1.out.one (spc y) 29
  clear K K1 hb0 hb1 hb2 hT
  obtain ⟨g0, g1, g2⟩ := K2.out.gr (B := P) (g := g) (by simp)
  obtain ⟨c0, c1, c2, c3, c4⟩ := K2.out.sp (B := Q) (x := x) (by simp)
  obtain ⟨d0, d1, d2, d3, d4⟩ := K2.out.sp (B := R) (x := y) (by simp)
  by_cases h10 : k = 10
  · subst h10
    have Hr := hid (show prH g 10 n x y walk = sroB x y from rfl)
    rw [show ndT 10 = false from rfl] at HN
    generalize ndR 10 = nr at *
    generalize prH g 10 n x y walk = q at *
    generalize sroB x y = s at *
    clear HR1 HR2 HTm
    go_enter Tryd.func9, Tryd.ntmps9
    go_wp2_with fail
    refine (HN.out _).mono ?_
    rintro e Y0 ⟨rfl, bz0⟩
    have K3 := hid (K2.out.next bz0)
    clear g0 g1 g2 c0 c1 c2 c3 c4 d0 d1 d2 d3 d4 hP hW hQ hV hR hU bz0 K2 HN
    obtain ⟨c0, c1, c2, c3, c4⟩ := K3.out.sp (B := Q) (x := x) (by simp)
    obtain ⟨d0, d1, d2, d3, d4⟩ := K3.out.sp (B := R) (x := y) (by simp)
    go_wp2_with fail
    refine (HS.out _).mono ?_
    rintro e Y1 ⟨rfl, bz⟩
    have K4 := hid (K3.out.next bz)
    clear c0 c1 c2 c3 c4 d0 d1 d2 d3 d4
    go_wp2_with fail
    go_ret
    exact Did.mk (by rw [Hr.out]; rfl) K4.out.2
  by_cases h11 : k = 11
  · subst h11
    have Hr := hid (show prH g 11 n x y walk = !(sroB x y) from rfl)
    rw [show ndT 11 = false from rfl] at HN
    generalize ndR 11 = nr at *
    generalize prH g 11 n x y walk = q at *
    generalize sroB x y = s at *
    clear HR1 HR2 HTm
    go_enter Tryd.func9, Tryd.ntmps9
    go_wp2_with fail
    refine (HN.out _).mono ?_
    rintro e Y0 ⟨rfl, bz0⟩
    have K3 := hid (K2.out.next bz0)
    clear g0 g1 g2 c0 c1 c2 c3 c4 d0 d1 d2 d3 d4 hP hW hQ hV hR hU bz0 K2 HN
    obtain ⟨c0, c1, c2, c3, c4⟩ := K3.out.sp (B := Q) (x := x) (by simp)
    obtain ⟨d0, d1, d2, d3, d4⟩ := K3.out.sp (B := R) (x := y) (by simp)
    go_wp2_with fail
    refine (HS.out _).mono ?_
    rintro e Y1 ⟨rfl, bz⟩
    have K4 := hid (K3.out.next bz)
    clear c0 c1 c2 c3 c4 d0 d1 d2 d3 d4
    go_wp2_with fail
    go_ret
    exact Did.mk (by rw [Hr.out]; rfl) K4.out.2
  have hnd : ndT k = knB k := by unfold ndT roB; rw [decide_eq_false h10, decide_eq_false h11]; simp
  rw [hnd] at HN
  have q1 := eq_no h10
  have q2 := eq_no h11
  generalize ndR k = nr at *
  clear HS hnd
  cases hk : knB k with
  | false =>
    have Hr := hid (show prH g k n x y walk = false by unfold prH; rw [hk, Bool.false_and])
    rw [hk] at HN
    generalize prH g k n x y walk = q at *
    clear hk HTm HR1 HR2
    go_enter Tryd.func9, Tryd.ntmps9
    go_wp2_with fail
    refine (HN.out _).mono ?_
    rintro e Y0 ⟨rfl, bz0⟩
    have K3 := hid (K2.out.next bz0)
    clear g0 g1 g2 c0 c1 c2 c3 c4 d0 d1 d2 d3 d4 hP hW hQ hV hR hU bz0 K2 HN
    obtain ⟨c0, c1, c2, c3, c4⟩ := K3.out.sp (B := Q) (x := x) (by simp)
    obtain ⟨d0, d1, d2, d3, d4⟩ := K3.out.sp (B := R) (x := y) (by simp)
    go_wp2_with fail
    go_ret
    exact Did.mk (by rw [Hr.out]; rfl) K3.out.2
  | true =>
    have Hr := hid (show prH g k n x y walk = (Whn.right g x.w && (Whn.right g y.w && tmB g k n x.w y.w walk)) by unfold prH; rw [hk, if_neg h10, if_neg h11, Bool.true_and])
    rw [hk] at HN
    have HT1 := hid (fun h4 h5 X h => HTm.out hk h10 h11 h4 h5 X h)
    generalize prH g k n x y walk = q at *
    clear hk HTm
    go_enter Tryd.func9, Tryd.ntmps9
    go_wp2_with fail
    refine (HN.out _).mono ?_
    rintro e Y0 ⟨rfl, bz0⟩
    have K3 := hid (K2.out.next bz0)
    clear g0 g1 g2 c0 c1 c2 c3 c4 d0 d1 d2 d3 d4 hP hW hQ hV hR hU bz0 K2 HN
    obtain ⟨c0, c1, c2, c3, c4⟩ := K3.out.sp (B := Q) (x := x) (by simp)
    obtain ⟨d0, d1, d2, d3, d4⟩ := K3.out.sp (B := R) (x := y) (by simp)
    obtain ⟨g0, g1, g2⟩ := K3.out.gr (B := P) (g := g) (by simp)
    go_wp2_with fail
    refine (HR1.out _).mono ?_
    rintro e Y1 ⟨rfl, bz⟩
    have K4 := hid (K3.out.next bz)
    clear g0 g1 g2 c0 c1 c2 c3 c4 d0 d1 d2 d3 d4 bz K3 HR1
    obtain ⟨g0, g1, g2⟩ := K4.out.gr (B := P) (g := g) (by simp)
    obtain ⟨c0, c1, c2, c3, c4⟩ := K4.out.sp (B := Q) (x := x) (by simp)
    obtain ⟨d0, d1, d2, d3, d4⟩ := K4.out.sp (B := R) (x := y) (by simp)
    cases hr1 : Whn.right g x.w with
    | false =>
      rw [hr1] at Hr
      go_wp2_with fail
      go_ret
      exact Did.mk (by rw [Hr.out]; rfl) K4.out.2
    | true =>
      rw [hr1, Bool.true_and] at Hr
      go_wp2_with fail
      refine (HR2.out _).mono ?_
      rintro e Y2 ⟨rfl, bz⟩
      have K5 := hid (K4.out.next bz)
      clear g0 g1 g2 c0 c1 c2 c3 c4 d0 d1 d2 d3 d4 bz K4 HR2
      obtain ⟨g0, g1, g2⟩ := K5.out.gr (B := P) (g := g) (by simp)
      obtain ⟨c0, c1, c2, c3, c4⟩ := K5.out.sp (B := Q) (x := x) (by simp)
      obtain ⟨d0, d1, d2, d3, d4⟩ := K5.out.sp (B := R) (x := y) (by simp)
      cases hr2 : Whn.right g y.w with
      | false =>
        rw [hr2] at Hr
        go_wp2_with fail
        go_ret
        exact Did.mk (by rw [Hr.out]; rfl) K5.out.2
      | true =>
        rw [hr2, Bool.true_and] at Hr
        have HT2 := hid (fun X h => HT1.out hr1 hr2 X h)
        clear HT1
        go_wp2_with fail
        refine (HT2.out _ (HT.out.next K5.out.2)).mono ?_
        rintro e Y3 ⟨rfl, bz⟩
        have K6 := hid (K5.out.next bz)
        clear g0 g1 g2 c0 c1 c2 c3 c4 d0 d1 d2 d3 d4 bz K5
        go_wp2_with fail
        go_ret
        exact Did.mk (by rw [Hr.out]; rfl) K6.out.2
theorem reach_zero_of {a b : Wh} {n : Int} (h : reach a b n = true) : reach a b 0 = true := by
  rw [reach_zero]
  rw [reach_ref, Bool.and_eq_true] at h
  exact h.1
theorem prH_zero_of {g : Gr} {n : Int} {x y : Sp} {walk : Int} (h : prH g 14 n x y walk = true) : prH g 14 n x y 0 = true := by
  have e : ∀ m, prH g 14 n x y m = (Whn.right g x.w && (Whn.right g y.w && reach x.w y.w m)) := fun _ => rfl
  rw [e, Bool.and_eq_true, Bool.and_eq_true] at h
  rw [e, h.1, h.2.1, reach_zero_of h.2.2]
  rfl
/-- what a kind's own theorem says -/
def PnAt (k : Int) : Prop := ∀ (g : Gr) (n : Int) (x y : Sp) (walk : Int) (_ : Wok x.w) (_ : Wok y.w) (w : World) (_ : Tb w),
  Calls Tryd.prog 14 #[gv g, .int .i64 k, .int .i64 n, spv x, spv y, .int .i64 walk] w (Did (.bool (prN g k n x y walk)) w)
set_option maxRecDepth 20000 in
set_option maxHeartbeats 4000000 in
theorem p_pn11 : PnAt 11 := by
  intro g n x y walk hx hy w hT
  have HP := hid (fun X => p_roomsKnownP x y X)
  have HH := hid (fun X h => p_HoldsP g 11 n x y walk hx hy X h)
  have HT := hid hT
  have Hr := hid (show prN g 11 n x y walk = (plB x y && !(prH g 11 n x y walk)) from rfl)
  generalize prN g 11 n x y walk = q at *
  generalize prH g 11 n x y walk = s at *
  generalize plB x y = pl at *
  clear hT
  obtain ⟨P, W, hP, hW, K, hb0⟩ := (Mem.nil w).one (gc g) 23
  obtain ⟨Q, V, hQ, hV, K1, hb1⟩ := K.out.one (spc x) 29
  obtain ⟨R, U, hR, hU, K2, hb2⟩ := K1.out.one (spc y) 29
  clear K K1 hb0 hb1 hb2
  obtain ⟨g0, g1, g2⟩ := K2.out.gr (B := P) (g := g) (by simp)
  obtain ⟨c0, c1, c2, c3, c4⟩ := K2.out.sp (B := Q) (x := x) (by simp)
  obtain ⟨d0, d1, d2, d3, d4⟩ := K2.out.sp (B := R) (x := y) (by simp)
  go_enter Tryd.func14, Tryd.ntmps14
  go_wp2_with fail
  refine (HP.out _).mono ?_
  rintro e Y1 ⟨rfl, bz⟩
  have K4 := hid (K2.out.next bz)
  clear g0 g1 g2 c0 c1 c2 c3 c4 d0 d1 d2 d3 d4
  obtain ⟨g0, g1, g2⟩ := K4.out.gr (B := P) (g := g) (by simp)
  obtain ⟨c0, c1, c2, c3, c4⟩ := K4.out.sp (B := Q) (x := x) (by simp)
  obtain ⟨d0, d1, d2, d3, d4⟩ := K4.out.sp (B := R) (x := y) (by simp)
  cases pl with
  | false =>
    go_wp2_with fail
    go_ret
    exact Did.mk (by rw [Hr.out]; rfl) K4.out.2
  | true =>
    go_wp2_with fail
    refine (HH.out _ (HT.out.next K4.out.2)).mono ?_
    rintro e Y2 ⟨rfl, bz2⟩
    have K5 := hid (K4.out.next bz2)
    clear g0 g1 g2 c0 c1 c2 c3 c4 d0 d1 d2 d3 d4
    go_wp2_with fail
    go_ret
    exact Did.mk (by rw [Hr.out]; rfl) K5.out.2
theorem sro_off {x y : Sp} (h : x.r = -1 ∨ y.r = -1) : sroB x y = false := by
  unfold sroB
  rw [Bool.and_eq_false_iff, decide_eq_false_iff_not, decide_eq_false_iff_not]
  omega
set_option maxRecDepth 20000 in
set_option maxHeartbeats 4000000 in
theorem p_pn10 : PnAt 10 := by
  intro g n x y walk hx hy w hT
  have HP := hid (fun X => p_roomsKnownP x y X)
  have HH := hid (fun X h => p_HoldsP g 10 n x y walk hx hy X h)
  have HT := hid hT
  have Hr0 := hid (show prN g 10 n x y walk = ((plB x y || (decide (x.r = -1) || decide (y.r = -1))) && !(sroB x y)) from rfl)
  rw [show prH g 10 n x y walk = sroB x y from rfl] at HH
  generalize prN g 10 n x y walk = q at *
  clear hT
  by_cases h1 : x.r = -1
  · have Hr := hid (Hr0.out.trans (by rw [sro_off (.inl h1), decide_eq_true h1, Bool.true_or, Bool.or_true]; rfl : _ = true))
    have q1 := eq_yes h1
    clear Hr0 HP HH
    obtain ⟨P, W, hP, hW, K, hb0⟩ := (Mem.nil w).one (gc g) 23
    obtain ⟨Q, V, hQ, hV, K1, hb1⟩ := K.out.one (spc x) 29
    obtain ⟨R, U, hR, hU, K2, hb2⟩ := K1.out.one (spc y) 29
    clear K K1 hb0 hb1 hb2
    obtain ⟨g0, g1, g2⟩ := K2.out.gr (B := P) (g := g) (by simp)
    obtain ⟨c0, c1, c2, c3, c4⟩ := K2.out.sp (B := Q) (x := x) (by simp)
    obtain ⟨d0, d1, d2, d3, d4⟩ := K2.out.sp (B := R) (x := y) (by simp)
    clear h1
    go_enter Tryd.func14, Tryd.ntmps14
    go_wp2_with fail
    go_ret
    exact Did.mk (by rw [Hr.out]; rfl) K2.out.2
  by_cases h2 : y.r = -1
  · have Hr := hid (Hr0.out.trans (by rw [sro_off (.inr h2), decide_eq_true h2, Bool.or_true, Bool.or_true]; rfl : _ = true))
    have q1 := eq_no h1
    have q2 := eq_yes h2
    clear Hr0 HP HH
    obtain ⟨P, W, hP, hW, K, hb0⟩ := (Mem.nil w).one (gc g) 23
    obtain ⟨Q, V, hQ, hV, K1, hb1⟩ := K.out.one (spc x) 29
    obtain ⟨R, U, hR, hU, K2, hb2⟩ := K1.out.one (spc y) 29
    clear K K1 hb0 hb1 hb2
    obtain ⟨g0, g1, g2⟩ := K2.out.gr (B := P) (g := g) (by simp)
    obtain ⟨c0, c1, c2, c3, c4⟩ := K2.out.sp (B := Q) (x := x) (by simp)
    obtain ⟨d0, d1, d2, d3, d4⟩ := K2.out.sp (B := R) (x := y) (by simp)
    clear h1 h2
    go_enter Tryd.func14, Tryd.ntmps14
    go_wp2_with fail
    go_ret
    exact Did.mk (by rw [Hr.out]; rfl) K2.out.2
  have Hr := hid (Hr0.out.trans (by rw [decide_eq_false h1, decide_eq_false h2, Bool.or_false, Bool.or_false] : _ = (plB x y && !(sroB x y))))
  have q1 := eq_no h1
  have q2 := eq_no h2
  generalize sroB x y = s at *
  generalize plB x y = pl at *
  clear Hr0
  obtain ⟨P, W, hP, hW, K, hb0⟩ := (Mem.nil w).one (gc g) 23
  obtain ⟨Q, V, hQ, hV, K1, hb1⟩ := K.out.one (spc x) 29
  obtain ⟨R, U, hR, hU, K2, hb2⟩ := K1.out.one (spc y) 29
  clear K K1 hb0 hb1 hb2
  obtain ⟨g0, g1, g2⟩ := K2.out.gr (B := P) (g := g) (by simp)
  obtain ⟨c0, c1, c2, c3, c4⟩ := K2.out.sp (B := Q) (x := x) (by simp)
  obtain ⟨d0, d1, d2, d3, d4⟩ := K2.out.sp (B := R) (x := y) (by simp)
  clear h1 h2
  go_enter Tryd.func14, Tryd.ntmps14
  go_wp2_with fail
  refine (HP.out _).mono ?_
  rintro e Y1 ⟨rfl, bz⟩
  have K4 := hid (K2.out.next bz)
  clear g0 g1 g2 c0 c1 c2 c3 c4 d0 d1 d2 d3 d4
  obtain ⟨g0, g1, g2⟩ := K4.out.gr (B := P) (g := g) (by simp)
  obtain ⟨c0, c1, c2, c3, c4⟩ := K4.out.sp (B := Q) (x := x) (by simp)
  obtain ⟨d0, d1, d2, d3, d4⟩ := K4.out.sp (B := R) (x := y) (by simp)
  cases pl with
  | false =>
    go_wp2_with fail
    go_ret
    exact Did.mk (by rw [Hr.out]; rfl) K4.out.2
  | true =>
    go_wp2_with fail
    refine (HH.out _ (HT.out.next K4.out.2)).mono ?_
    rintro e Y2 ⟨rfl, bz2⟩
    have K5 := hid (K4.out.next bz2)
    clear g0 g1 g2 c0 c1 c2 c3 c4 d0 d1 d2 d3 d4
    go_wp2_with fail
    go_ret
    exact Did.mk (by rw [Hr.out]; rfl) K5.out.2
set_option maxRecDepth 20000 in
set_option maxHeartbeats 4000000 in
theorem p_pn14 : PnAt 14 := by
  intro g n x y walk hx hy w hT
  have HP := hid (fun X => p_roomsKnownP x y X)
  have HTK := hid (fun X => p_timesKnownP x y X)
  have HK := hid (fun X => p_KnownP 14 X)
  rw [show knB 14 = true from rfl] at HK
  have HH0 := hid (fun X h => p_HoldsP g 14 n x y 0 hx hy X h)
  have HH := hid (fun X h => p_HoldsP g 14 n x y walk hx hy X h)
  have HT := hid hT
  have Hr0 := hid (show prN g 14 n x y walk = (tkB x y && (!(prH g 14 n x y 0) || (plB x y && !(prH g 14 n x y walk)))) from rfl)
  have Hz := hid (fun h => prH_zero_of (g := g) (n := n) (x := x) (y := y) (walk := walk) h)
  generalize prN g 14 n x y walk = q at *
  generalize prH g 14 n x y walk = s at *
  generalize prH g 14 n x y 0 = s0 at *
  generalize tkB x y = tk at *
  cases hpl : plB x y with
  | false =>
    have Hr := hid (Hr0.out.trans (by rw [hpl, Bool.false_and, Bool.or_false] : _ = (tk && !s0)))
    rw [hpl] at HP
    clear hT hpl Hr0 Hz HH
    have HH := hid HH0.out
    clear HH0
    obtain ⟨P, W, hP, hW, K, hb0⟩ := (Mem.nil w).one (gc g) 23
    obtain ⟨Q, V, hQ, hV, K1, hb1⟩ := K.out.one (spc x) 29
    obtain ⟨R, U, hR, hU, K2, hb2⟩ := K1.out.one (spc y) 29
    clear K K1 hb0 hb1 hb2
    obtain ⟨g0, g1, g2⟩ := K2.out.gr (B := P) (g := g) (by simp)
    obtain ⟨c0, c1, c2, c3, c4⟩ := K2.out.sp (B := Q) (x := x) (by simp)
    obtain ⟨d0, d1, d2, d3, d4⟩ := K2.out.sp (B := R) (x := y) (by simp)
    go_enter Tryd.func14, Tryd.ntmps14
    go_wp2_with fail
    refine (HP.out _).mono ?_
    rintro e Y1 ⟨rfl, bz⟩
    have K4 := hid (K2.out.next bz)
    clear g0 g1 g2 c0 c1 c2 c3 c4 d0 d1 d2 d3 d4 hP hW hQ hV hR hU
    obtain ⟨g0, g1, g2⟩ := K4.out.gr (B := P) (g := g) (by simp)
    obtain ⟨c0, c1, c2, c3, c4⟩ := K4.out.sp (B := Q) (x := x) (by simp)
    obtain ⟨d0, d1, d2, d3, d4⟩ := K4.out.sp (B := R) (x := y) (by simp)
    go_wp2_with fail
    refine (HK.out _).mono ?_
    rintro e Y2 ⟨rfl, bz2⟩
    have K5 := hid (K4.out.next bz2)
    clear g0 g1 g2 c0 c1 c2 c3 c4 d0 d1 d2 d3 d4
    obtain ⟨g0, g1, g2⟩ := K5.out.gr (B := P) (g := g) (by simp)
    obtain ⟨c0, c1, c2, c3, c4⟩ := K5.out.sp (B := Q) (x := x) (by simp)
    obtain ⟨d0, d1, d2, d3, d4⟩ := K5.out.sp (B := R) (x := y) (by simp)
    go_wp2_with fail
    refine (HTK.out _).mono ?_
    rintro e Y3 ⟨rfl, bz3⟩
    have K6 := hid (K5.out.next bz3)
    clear g0 g1 g2 c0 c1 c2 c3 c4 d0 d1 d2 d3 d4
    obtain ⟨g0, g1, g2⟩ := K6.out.gr (B := P) (g := g) (by simp)
    obtain ⟨c0, c1, c2, c3, c4⟩ := K6.out.sp (B := Q) (x := x) (by simp)
    obtain ⟨d0, d1, d2, d3, d4⟩ := K6.out.sp (B := R) (x := y) (by simp)
    cases tk with
    | false =>
      go_wp2_with fail
      go_ret
      exact Did.mk (by rw [Hr.out]; rfl) K6.out.2
    | true =>
      go_wp2_with fail
      refine (HH.out _ (HT.out.next K6.out.2)).mono ?_
      rintro e Y4 ⟨rfl, bz4⟩
      have K7 := hid (K6.out.next bz4)
      clear g0 g1 g2 c0 c1 c2 c3 c4 d0 d1 d2 d3 d4
      go_wp2_with fail
      go_ret
      exact Did.mk (by rw [Hr.out]; rfl) K7.out.2
  | true =>
    have Hr := hid (Hr0.out.trans (by
      rw [hpl, Bool.true_and]
      cases s with
      | false => rw [show (!false) = true from rfl, Bool.or_true]
      | true => rw [Hz.out rfl]; rfl : _ = (tk && !s)))
    rw [hpl] at HP
    clear hT hpl Hr0 Hz HH0
    obtain ⟨P, W, hP, hW, K, hb0⟩ := (Mem.nil w).one (gc g) 23
    obtain ⟨Q, V, hQ, hV, K1, hb1⟩ := K.out.one (spc x) 29
    obtain ⟨R, U, hR, hU, K2, hb2⟩ := K1.out.one (spc y) 29
    clear K K1 hb0 hb1 hb2
    obtain ⟨g0, g1, g2⟩ := K2.out.gr (B := P) (g := g) (by simp)
    obtain ⟨c0, c1, c2, c3, c4⟩ := K2.out.sp (B := Q) (x := x) (by simp)
    obtain ⟨d0, d1, d2, d3, d4⟩ := K2.out.sp (B := R) (x := y) (by simp)
    go_enter Tryd.func14, Tryd.ntmps14
    go_wp2_with fail
    refine (HP.out _).mono ?_
    rintro e Y1 ⟨rfl, bz⟩
    have K4 := hid (K2.out.next bz)
    clear g0 g1 g2 c0 c1 c2 c3 c4 d0 d1 d2 d3 d4 hP hW hQ hV hR hU
    obtain ⟨g0, g1, g2⟩ := K4.out.gr (B := P) (g := g) (by simp)
    obtain ⟨c0, c1, c2, c3, c4⟩ := K4.out.sp (B := Q) (x := x) (by simp)
    obtain ⟨d0, d1, d2, d3, d4⟩ := K4.out.sp (B := R) (x := y) (by simp)
    go_wp2_with fail
    refine (HK.out _).mono ?_
    rintro e Y2 ⟨rfl, bz2⟩
    have K5 := hid (K4.out.next bz2)
    clear g0 g1 g2 c0 c1 c2 c3 c4 d0 d1 d2 d3 d4
    obtain ⟨g0, g1, g2⟩ := K5.out.gr (B := P) (g := g) (by simp)
    obtain ⟨c0, c1, c2, c3, c4⟩ := K5.out.sp (B := Q) (x := x) (by simp)
    obtain ⟨d0, d1, d2, d3, d4⟩ := K5.out.sp (B := R) (x := y) (by simp)
    go_wp2_with fail
    refine (HTK.out _).mono ?_
    rintro e Y3 ⟨rfl, bz3⟩
    have K6 := hid (K5.out.next bz3)
    clear g0 g1 g2 c0 c1 c2 c3 c4 d0 d1 d2 d3 d4
    obtain ⟨g0, g1, g2⟩ := K6.out.gr (B := P) (g := g) (by simp)
    obtain ⟨c0, c1, c2, c3, c4⟩ := K6.out.sp (B := Q) (x := x) (by simp)
    obtain ⟨d0, d1, d2, d3, d4⟩ := K6.out.sp (B := R) (x := y) (by simp)
    cases tk with
    | false =>
      go_wp2_with fail
      go_ret
      exact Did.mk (by rw [Hr.out]; rfl) K6.out.2
    | true =>
      go_wp2_with fail
      refine (HH.out _ (HT.out.next K6.out.2)).mono ?_
      rintro e Y4 ⟨rfl, bz4⟩
      have K7 := hid (K6.out.next bz4)
      clear g0 g1 g2 c0 c1 c2 c3 c4 d0 d1 d2 d3 d4
      go_wp2_with fail
      go_ret
      exact Did.mk (by rw [Hr.out]; rfl) K7.out.2
set_option maxRecDepth 20000 in
set_option maxHeartbeats 4000000 in
theorem p_NeverP (g : Gr) (k n : Int) (x y : Sp) (walk : Int) (hx : Wok x.w) (hy : Wok y.w) (w : World) (hT : Tb w) :
    Calls Tryd.prog 14 #[gv g, .int .i64 k, .int .i64 n, spv x, spv y, .int .i64 walk] w (Did (.bool (prN g k n x y walk)) w) := by
  by_cases h10 : k = 10
  · subst h10; exact p_pn10 g n x y walk hx hy w hT
  by_cases h11 : k = 11
  · subst h11; exact p_pn11 g n x y walk hx hy w hT
  by_cases h14 : k = 14
  · subst h14; exact p_pn14 g n x y walk hx hy w hT
  have HTK := hid (fun X => p_timesKnownP x y X)
  have HK := hid (fun X => p_KnownP k X)
  have HH := hid (fun X h => p_HoldsP g k n x y walk hx hy X h)
  have HT := hid hT
  have Hr0 := hid (show prN g k n x y walk = (knB k && (tkB x y && !(prH g k n x y walk))) by unfold prN tkB; rw [if_neg h10, if_neg h11, if_neg h14])
  have q1 := eq_no h10
  have q2 := eq_no h11
  have q3 := eq_no h14
  generalize prN g k n x y walk = q at *
  generalize prH g k n x y walk = s at *
  generalize tkB x y = tk at *
  clear hT h10 h11 h14
  obtain ⟨P, W, hP, hW, K, hb0⟩ := (Mem.nil w).one (gc g) 23
  obtain ⟨Q, V, hQ, hV, K1, hb1⟩ := K.out.one (spc x) 29
  obtain ⟨R, U, hR, hU, K2, hb2⟩ := K1.out.one (spc y) 29
  clear K K1 hb0 hb1 hb2
  obtain ⟨g0, g1, g2⟩ := K2.out.gr (B := P) (g := g) (by simp)
  obtain ⟨c0, c1, c2, c3, c4⟩ := K2.out.sp (B := Q) (x := x) (by simp)
  obtain ⟨d0, d1, d2, d3, d4⟩ := K2.out.sp (B := R) (x := y) (by simp)
  cases hk : knB k with
  | false =>
    have Hr := hid (Hr0.out.trans (by rw [hk, Bool.false_and] : _ = false))
    rw [hk] at HK
    clear Hr0 hk
    go_enter Tryd.func14, Tryd.ntmps14
    go_wp2_with fail
    refine (HK.out _).mono ?_
    rintro e Y2 ⟨rfl, bz2⟩
    have K5 := hid (K2.out.next bz2)
    clear g0 g1 g2 c0 c1 c2 c3 c4 d0 d1 d2 d3 d4
    go_wp2_with fail
    go_ret
    exact Did.mk (by rw [Hr.out]; rfl) K5.out.2
  | true =>
    have Hr := hid (Hr0.out.trans (by rw [hk, Bool.true_and] : _ = (tk && !s)))
    rw [hk] at HK
    clear Hr0 hk
    go_enter Tryd.func14, Tryd.ntmps14
    go_wp2_with fail
    refine (HK.out _).mono ?_
    rintro e Y2 ⟨rfl, bz2⟩
    have K5 := hid (K2.out.next bz2)
    clear g0 g1 g2 c0 c1 c2 c3 c4 d0 d1 d2 d3 d4
    obtain ⟨g0, g1, g2⟩ := K5.out.gr (B := P) (g := g) (by simp)
    obtain ⟨c0, c1, c2, c3, c4⟩ := K5.out.sp (B := Q) (x := x) (by simp)
    obtain ⟨d0, d1, d2, d3, d4⟩ := K5.out.sp (B := R) (x := y) (by simp)
    go_wp2_with fail
    refine (HTK.out _).mono ?_
    rintro e Y3 ⟨rfl, bz3⟩
    have K6 := hid (K5.out.next bz3)
    clear g0 g1 g2 c0 c1 c2 c3 c4 d0 d1 d2 d3 d4
    obtain ⟨g0, g1, g2⟩ := K6.out.gr (B := P) (g := g) (by simp)
    obtain ⟨c0, c1, c2, c3, c4⟩ := K6.out.sp (B := Q) (x := x) (by simp)
    obtain ⟨d0, d1, d2, d3, d4⟩ := K6.out.sp (B := R) (x := y) (by simp)
    cases tk with
    | false =>
      go_wp2_with fail
      go_ret
      exact Did.mk (by rw [Hr.out]; rfl) K6.out.2
    | true =>
      go_wp2_with fail
      refine (HH.out _ (HT.out.next K6.out.2)).mono ?_
      rintro e Y4 ⟨rfl, bz4⟩
      have K7 := hid (K6.out.next bz4)
      clear g0 g1 g2 c0 c1 c2 c3 c4 d0 d1 d2 d3 d4
      go_wp2_with fail
      go_ret
      exact Did.mk (by rw [Hr.out]; rfl) K7.out.2
end Go.Proofs.YtnhniajfnmdnnaaDoor

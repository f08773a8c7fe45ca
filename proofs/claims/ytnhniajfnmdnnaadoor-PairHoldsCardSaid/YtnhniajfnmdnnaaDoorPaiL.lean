/- The program's own answers for layer 15 (pair): which kinds that ask for times hold. -/
import Derived.Test.YtnhniajfnmdnnaaDoorPaiK
namespace Go.Proofs.YtnhniajfnmdnnaaDoor
open Go.RowKit
open Whn (Gr Wh)

theorem day_same {a b : Wh} (ha : Whn.tame a = true) (hb : Whn.tame b = true) : Whn.sameDay (dly a) (dly b) = true := by
  unfold Whn.sameDay
  rw [show Whn.tame (dly a) = Whn.tame a from rfl, show Whn.tame (dly b) = Whn.tame b from rfl, ha, hb]
  have h : (dly a).w &&& (dly b).w ≠ 0 ∧ (dly a).d &&& (dly b).d ≠ 0 := (show ((1 : Nat) &&& 1 ≠ 0 ∧ (1 : Nat) &&& 1 ≠ 0) from by decide)
  rw [decide_eq_true h]
  rfl
theorem day_meet {a b : Wh} (ha : Whn.tame a = true) (hb : Whn.tame b = true) : (!(Whn.meet (dly a) (dly b))) = (decide (a.s + a.l ≤ b.s) || decide (b.s + b.l ≤ a.s)) := by
  have e1 := (Whn.tame_iff a).1 ha
  have e2 := (Whn.tame_iff b).1 hb
  unfold Whn.meet
  rw [day_same ha hb, Bool.true_and]
  unfold Whn.slots
  rw [Bool.eq_iff_iff, Bool.not_eq_true', decide_eq_false_iff_not, Bool.or_eq_true, decide_eq_true_iff, decide_eq_true_iff]
  show (¬ (max a.s b.s < min (a.s + a.l) (b.s + b.l))) ↔ _
  omega
theorem day_covers {a b : Wh} (ha : Whn.tame a = true) (hb : Whn.tame b = true) : Whn.covers (dly a) (dly b) = inS b a := by
  have e1 := (Whn.tame_iff a).1 ha
  have e2 := (Whn.tame_iff b).1 hb
  unfold Whn.covers Whn.meet inS
  rw [day_same ha hb, Bool.true_and]
  unfold Whn.slots Whn.share
  rw [Bool.eq_iff_iff, Bool.and_eq_true, Bool.and_eq_true, decide_eq_true_iff, decide_eq_true_iff, decide_eq_true_iff, decide_eq_true_iff]
  show (max a.s b.s < min (a.s + a.l) (b.s + b.l) ∧ (1 &&& 1 = 1 ∧ 1 &&& 1 = 1 ∧ max a.s b.s = b.s ∧ min (a.s + a.l) (b.s + b.l) - max a.s b.s = b.l)) ↔ _
  constructor
  · rintro ⟨_, _, _, h1, h2⟩
    omega
  · rintro ⟨h1, h2⟩
    exact ⟨by omega, rfl, rfl, by omega, by omega⟩
theorem dly_ok {a : Wh} (ha : Wok a) : Wok (dly a) := ⟨by show 1 < 4294967296; omega, by show 1 < 256; omega, ha.2.2.1, ha.2.2.2⟩
/-- what a kind's own theorem says -/
def PmAt (k : Int) : Prop := ∀ (g : Gr) (n : Int) (a b : Wh) (walk : Int) (_ : Wok a) (_ : Wok b) (_ : Whn.right g a = true) (_ : Whn.right g b = true) (w : World) (_ : Tb w),
  Calls Tryd.prog 27 #[gv g, .int .i64 k, .int .i64 n, wv a, wv b, .int .i64 walk] w (Did (.bool (tmB g k n a b walk)) w)
set_option maxRecDepth 20000 in
set_option maxHeartbeats 2000000 in
theorem p_pm1 : PmAt 1 := by
  intro g n a b walk ha hb ra rb w hT
  have Hr := hid (show tmB g 1 n a b walk = (decide (a.s = b.s)) from rfl)
  have e1 := (Whn.tame_iff a).1 (Whn.right_tame ra)
  have e2 := (Whn.tame_iff b).1 (Whn.right_tame rb)
  generalize tmB g 1 n a b walk = q at *
  obtain ⟨P, W, hP, hW, K, hb0⟩ := (Mem.nil w).one (gc g) 23
  obtain ⟨Q, V, hQ, hV, K1, hb1⟩ := K.out.one (wc a) 27
  obtain ⟨R, U, hR, hU, K2, hb2⟩ := K1.out.one (wc b) 27
  obtain ⟨g0, g1, g2⟩ := K2.out.gr (B := P) (g := g) (by simp)
  obtain ⟨c0, c1, c2, c3⟩ := K2.out.wh (B := Q) (x := a) (by simp)
  obtain ⟨d0, d1, d2, d3⟩ := K2.out.wh (B := R) (x := b) (by simp)
  have HT := hid hT
  clear K K1 hb0 hb1 hb2 hT
  have Hv := hid (show (a.s == b.s) = q by rw [Hr.out, Bool.eq_iff_iff, beq_iff_eq, decide_eq_true_iff])
  clear Hr
  go_enter Tryd.func27, Tryd.ntmps27
  go_wp2_with fail
  go_ret
  exact Did.mk (by rw [Hv.out]; rfl) K2.out.2
set_option maxRecDepth 20000 in
set_option maxHeartbeats 2000000 in
theorem p_pm4 : PmAt 4 := by
  intro g n a b walk ha hb ra rb w hT
  have Hr := hid (show tmB g 4 n a b walk = (inN a.d b.d || inN b.d a.d) from rfl)
  have e1 := (Whn.tame_iff a).1 (Whn.right_tame ra)
  have e2 := (Whn.tame_iff b).1 (Whn.right_tame rb)
  generalize tmB g 4 n a b walk = q at *
  have HS1 := hid (fun X => p_among8P a.d b.d ha.2.1 hb.2.1 X)
  generalize (inN a.d b.d || inN b.d a.d) = s1 at *
  obtain ⟨P, W, hP, hW, K, hb0⟩ := (Mem.nil w).one (gc g) 23
  obtain ⟨Q, V, hQ, hV, K1, hb1⟩ := K.out.one (wc a) 27
  obtain ⟨R, U, hR, hU, K2, hb2⟩ := K1.out.one (wc b) 27
  obtain ⟨g0, g1, g2⟩ := K2.out.gr (B := P) (g := g) (by simp)
  obtain ⟨c0, c1, c2, c3⟩ := K2.out.wh (B := Q) (x := a) (by simp)
  obtain ⟨d0, d1, d2, d3⟩ := K2.out.wh (B := R) (x := b) (by simp)
  have HT := hid hT
  clear K K1 hb0 hb1 hb2 hT
  go_enter Tryd.func27, Tryd.ntmps27
  go_wp2_with fail
  refine (HS1.out _).mono ?_
  rintro e w1 ⟨rfl, bz⟩
  have K3 := hid (K2.out.next bz)
  clear g0 g1 g2 c0 c1 c2 c3 d0 d1 d2 d3 hP hW hQ hV hR hU
  go_wp2_with fail
  go_ret
  exact Did.mk (by rw [Hr.out]; rfl) K3.out.2
set_option maxRecDepth 20000 in
set_option maxHeartbeats 2000000 in
theorem p_pm5 : PmAt 5 := by
  intro g n a b walk ha hb ra rb w hT
  have Hr := hid (show tmB g 5 n a b walk = (decide (a.d &&& b.d = 0)) from rfl)
  have e1 := (Whn.tame_iff a).1 (Whn.right_tame ra)
  have e2 := (Whn.tame_iff b).1 (Whn.right_tame rb)
  generalize tmB g 5 n a b walk = q at *
  have z1 := o_and8 a.d b.d ha.2.1 hb.2.1
  have Hv := hid (show (((a.d &&& b.d : Nat) : Int) == 0) = q by
    rw [Hr.out, Bool.eq_iff_iff, beq_iff_eq, decide_eq_true_iff]; omega)
  generalize a.d &&& b.d = z at *
  clear Hr
  obtain ⟨P, W, hP, hW, K, hb0⟩ := (Mem.nil w).one (gc g) 23
  obtain ⟨Q, V, hQ, hV, K1, hb1⟩ := K.out.one (wc a) 27
  obtain ⟨R, U, hR, hU, K2, hb2⟩ := K1.out.one (wc b) 27
  obtain ⟨g0, g1, g2⟩ := K2.out.gr (B := P) (g := g) (by simp)
  obtain ⟨c0, c1, c2, c3⟩ := K2.out.wh (B := Q) (x := a) (by simp)
  obtain ⟨d0, d1, d2, d3⟩ := K2.out.wh (B := R) (x := b) (by simp)
  have HT := hid hT
  clear K K1 hb0 hb1 hb2 hT
  go_enter Tryd.func27, Tryd.ntmps27
  go_wp2_with fail
  go_ret
  exact Did.mk (by rw [Hv.out]; rfl) K2.out.2
set_option maxRecDepth 20000 in
set_option maxHeartbeats 2000000 in
theorem p_pm6 : PmAt 6 := by
  intro g n a b walk ha hb ra rb w hT
  have Hr := hid (show tmB g 6 n a b walk = (inN a.w b.w || inN b.w a.w) from rfl)
  have e1 := (Whn.tame_iff a).1 (Whn.right_tame ra)
  have e2 := (Whn.tame_iff b).1 (Whn.right_tame rb)
  generalize tmB g 6 n a b walk = q at *
  have HS1 := hid (fun X => p_among32P a.w b.w ha.1 hb.1 X)
  generalize (inN a.w b.w || inN b.w a.w) = s1 at *
  obtain ⟨P, W, hP, hW, K, hb0⟩ := (Mem.nil w).one (gc g) 23
  obtain ⟨Q, V, hQ, hV, K1, hb1⟩ := K.out.one (wc a) 27
  obtain ⟨R, U, hR, hU, K2, hb2⟩ := K1.out.one (wc b) 27
  obtain ⟨g0, g1, g2⟩ := K2.out.gr (B := P) (g := g) (by simp)
  obtain ⟨c0, c1, c2, c3⟩ := K2.out.wh (B := Q) (x := a) (by simp)
  obtain ⟨d0, d1, d2, d3⟩ := K2.out.wh (B := R) (x := b) (by simp)
  have HT := hid hT
  clear K K1 hb0 hb1 hb2 hT
  go_enter Tryd.func27, Tryd.ntmps27
  go_wp2_with fail
  refine (HS1.out _).mono ?_
  rintro e w1 ⟨rfl, bz⟩
  have K3 := hid (K2.out.next bz)
  clear g0 g1 g2 c0 c1 c2 c3 d0 d1 d2 d3 hP hW hQ hV hR hU
  go_wp2_with fail
  go_ret
  exact Did.mk (by rw [Hr.out]; rfl) K3.out.2
set_option maxRecDepth 20000 in
set_option maxHeartbeats 2000000 in
theorem p_pm7 : PmAt 7 := by
  intro g n a b walk ha hb ra rb w hT
  have Hr := hid (show tmB g 7 n a b walk = (decide (a.w &&& b.w = 0)) from rfl)
  have e1 := (Whn.tame_iff a).1 (Whn.right_tame ra)
  have e2 := (Whn.tame_iff b).1 (Whn.right_tame rb)
  generalize tmB g 7 n a b walk = q at *
  have z1 := o_and32 a.w b.w ha.1 hb.1
  have Hv := hid (show (((a.w &&& b.w : Nat) : Int) == 0) = q by
    rw [Hr.out, Bool.eq_iff_iff, beq_iff_eq, decide_eq_true_iff]; omega)
  generalize a.w &&& b.w = z at *
  clear Hr
  obtain ⟨P, W, hP, hW, K, hb0⟩ := (Mem.nil w).one (gc g) 23
  obtain ⟨Q, V, hQ, hV, K1, hb1⟩ := K.out.one (wc a) 27
  obtain ⟨R, U, hR, hU, K2, hb2⟩ := K1.out.one (wc b) 27
  obtain ⟨g0, g1, g2⟩ := K2.out.gr (B := P) (g := g) (by simp)
  obtain ⟨c0, c1, c2, c3⟩ := K2.out.wh (B := Q) (x := a) (by simp)
  obtain ⟨d0, d1, d2, d3⟩ := K2.out.wh (B := R) (x := b) (by simp)
  have HT := hid hT
  clear K K1 hb0 hb1 hb2 hT
  go_enter Tryd.func27, Tryd.ntmps27
  go_wp2_with fail
  go_ret
  exact Did.mk (by rw [Hv.out]; rfl) K2.out.2
set_option maxRecDepth 20000 in
set_option maxHeartbeats 2000000 in
theorem p_pm8 : PmAt 8 := by
  intro g n a b walk ha hb ra rb w hT
  have Hr := hid (show tmB g 8 n a b walk = (Whn.meet a b) from rfl)
  have e1 := (Whn.tame_iff a).1 (Whn.right_tame ra)
  have e2 := (Whn.tame_iff b).1 (Whn.right_tame rb)
  generalize tmB g 8 n a b walk = q at *
  have HS1 := hid (fun X => p_Meet a b ha hb X)
  generalize Whn.meet a b = s1 at *
  obtain ⟨P, W, hP, hW, K, hb0⟩ := (Mem.nil w).one (gc g) 23
  obtain ⟨Q, V, hQ, hV, K1, hb1⟩ := K.out.one (wc a) 27
  obtain ⟨R, U, hR, hU, K2, hb2⟩ := K1.out.one (wc b) 27
  obtain ⟨g0, g1, g2⟩ := K2.out.gr (B := P) (g := g) (by simp)
  obtain ⟨c0, c1, c2, c3⟩ := K2.out.wh (B := Q) (x := a) (by simp)
  obtain ⟨d0, d1, d2, d3⟩ := K2.out.wh (B := R) (x := b) (by simp)
  have HT := hid hT
  clear K K1 hb0 hb1 hb2 hT
  go_enter Tryd.func27, Tryd.ntmps27
  go_wp2_with fail
  refine (HS1.out _).mono ?_
  rintro e w1 ⟨rfl, bz⟩
  have K3 := hid (K2.out.next bz)
  clear g0 g1 g2 c0 c1 c2 c3 d0 d1 d2 d3 hP hW hQ hV hR hU
  go_wp2_with fail
  go_ret
  exact Did.mk (by rw [Hr.out]; rfl) K3.out.2
set_option maxRecDepth 20000 in
set_option maxHeartbeats 2000000 in
theorem p_pm9 : PmAt 9 := by
  intro g n a b walk ha hb ra rb w hT
  have Hr := hid (show tmB g 9 n a b walk = (!(Whn.meet a b)) from rfl)
  have e1 := (Whn.tame_iff a).1 (Whn.right_tame ra)
  have e2 := (Whn.tame_iff b).1 (Whn.right_tame rb)
  generalize tmB g 9 n a b walk = q at *
  have HS1 := hid (fun X => p_Meet a b ha hb X)
  generalize Whn.meet a b = s1 at *
  obtain ⟨P, W, hP, hW, K, hb0⟩ := (Mem.nil w).one (gc g) 23
  obtain ⟨Q, V, hQ, hV, K1, hb1⟩ := K.out.one (wc a) 27
  obtain ⟨R, U, hR, hU, K2, hb2⟩ := K1.out.one (wc b) 27
  obtain ⟨g0, g1, g2⟩ := K2.out.gr (B := P) (g := g) (by simp)
  obtain ⟨c0, c1, c2, c3⟩ := K2.out.wh (B := Q) (x := a) (by simp)
  obtain ⟨d0, d1, d2, d3⟩ := K2.out.wh (B := R) (x := b) (by simp)
  have HT := hid hT
  clear K K1 hb0 hb1 hb2 hT
  go_enter Tryd.func27, Tryd.ntmps27
  go_wp2_with fail
  refine (HS1.out _).mono ?_
  rintro e w1 ⟨rfl, bz⟩
  have K3 := hid (K2.out.next bz)
  clear g0 g1 g2 c0 c1 c2 c3 d0 d1 d2 d3 hP hW hQ hV hR hU
  go_wp2_with fail
  go_ret
  exact Did.mk (by rw [Hr.out]; rfl) K3.out.2
set_option maxRecDepth 20000 in
set_option maxHeartbeats 2000000 in
theorem p_pm12 : PmAt 12 := by
  intro g n a b walk ha hb ra rb w hT
  have Hr := hid (show tmB g 12 n a b walk = (decide (Whn.lst g a < Whn.fst g b)) from rfl)
  have e1 := (Whn.tame_iff a).1 (Whn.right_tame ra)
  have e2 := (Whn.tame_iff b).1 (Whn.right_tame rb)
  generalize tmB g 12 n a b walk = q at *
  have HS1 := hid (fun X h => p_FirstG g a ha X h)
  have HS2 := hid (fun X h => p_FirstG g b hb X h)
  unfold fsV at HS1 HS2
  generalize Whn.lst g a = la at *
  generalize Whn.fst g b = fb at *
  obtain ⟨P, W, hP, hW, K, hb0⟩ := (Mem.nil w).one (gc g) 23
  obtain ⟨Q, V, hQ, hV, K1, hb1⟩ := K.out.one (wc a) 27
  obtain ⟨R, U, hR, hU, K2, hb2⟩ := K1.out.one (wc b) 27
  obtain ⟨g0, g1, g2⟩ := K2.out.gr (B := P) (g := g) (by simp)
  obtain ⟨c0, c1, c2, c3⟩ := K2.out.wh (B := Q) (x := a) (by simp)
  obtain ⟨d0, d1, d2, d3⟩ := K2.out.wh (B := R) (x := b) (by simp)
  have HT := hid hT
  clear K K1 hb0 hb1 hb2 hT
  go_enter Tryd.func27, Tryd.ntmps27
  go_wp2_with fail
  refine (HS1.out _ (HT.out.next K2.out.2)).mono ?_
  rintro e w1 ⟨rfl, bz⟩
  have K3 := hid (K2.out.next bz)
  clear c0 c1 c2 c3 d0 d1 d2 d3 g0 g1 g2 hP hW hQ hV hR hU
  obtain ⟨g0, g1, g2⟩ := K3.out.gr (B := P) (g := g) (by simp)
  obtain ⟨d0, d1, d2, d3⟩ := K3.out.wh (B := R) (x := b) (by simp)
  go_wp2_with fail
  refine (HS2.out _ (HT.out.next K3.out.2)).mono ?_
  rintro e w2 ⟨rfl, bz2⟩
  have K4 := hid (K3.out.next bz2)
  clear d0 d1 d2 d3 g0 g1 g2
  go_wp2_with fail
  go_ret
  exact Did.mk (by rw [Hr.out]; rfl) K4.out.2
set_option maxRecDepth 20000 in
set_option maxHeartbeats 2000000 in
theorem p_pm13 : PmAt 13 := by
  intro g n a b walk ha hb ra rb w hT
  have Hr := hid (show tmB g 13 n a b walk = (!(Whn.sameDay a b) || decide (max (a.s + a.l) (b.s + b.l) - min a.s b.s ≤ n)) from rfl)
  have e1 := (Whn.tame_iff a).1 (Whn.right_tame ra)
  have e2 := (Whn.tame_iff b).1 (Whn.right_tame rb)
  generalize tmB g 13 n a b walk = q at *
  have HS1 := hid (fun X => p_SameDay a b ha hb X)
  have HS2 := hid (fun X => p_spanP a b (Whn.right_tame ra) (Whn.right_tame rb) X)
  generalize Whn.sameDay a b = s1 at *
  generalize max (a.s + a.l) (b.s + b.l) - min a.s b.s = m at *
  obtain ⟨P, W, hP, hW, K, hb0⟩ := (Mem.nil w).one (gc g) 23
  obtain ⟨Q, V, hQ, hV, K1, hb1⟩ := K.out.one (wc a) 27
  obtain ⟨R, U, hR, hU, K2, hb2⟩ := K1.out.one (wc b) 27
  obtain ⟨g0, g1, g2⟩ := K2.out.gr (B := P) (g := g) (by simp)
  obtain ⟨c0, c1, c2, c3⟩ := K2.out.wh (B := Q) (x := a) (by simp)
  obtain ⟨d0, d1, d2, d3⟩ := K2.out.wh (B := R) (x := b) (by simp)
  have HT := hid hT
  clear K K1 hb0 hb1 hb2 hT
  go_enter Tryd.func27, Tryd.ntmps27
  go_wp2_with fail
  refine (HS1.out _).mono ?_
  rintro e w1 ⟨rfl, bz⟩
  have K3 := hid (K2.out.next bz)
  clear c0 c1 c2 c3 d0 d1 d2 d3 g0 g1 g2 hP hW hQ hV hR hU
  obtain ⟨c0, c1, c2, c3⟩ := K3.out.wh (B := Q) (x := a) (by simp)
  obtain ⟨d0, d1, d2, d3⟩ := K3.out.wh (B := R) (x := b) (by simp)
  cases s1 with
  | false =>
    go_wp2_with fail
    go_ret
    exact Did.mk (by rw [Hr.out]; rfl) K3.out.2
  | true =>
    go_wp2_with fail
    refine (HS2.out _).mono ?_
    rintro e w2 ⟨rfl, bz2⟩
    have K4 := hid (K3.out.next bz2)
    clear c0 c1 c2 c3 d0 d1 d2 d3
    go_wp2_with fail
    go_ret
    exact Did.mk (by rw [Hr.out]; rfl) K4.out.2
set_option maxRecDepth 20000 in
set_option maxHeartbeats 2000000 in
theorem p_pm14 : PmAt 14 := by
  intro g n a b walk ha hb ra rb w hT
  have Hr := hid (show tmB g 14 n a b walk = (reach a b walk) from rfl)
  have e1 := (Whn.tame_iff a).1 (Whn.right_tame ra)
  have e2 := (Whn.tame_iff b).1 (Whn.right_tame rb)
  generalize tmB g 14 n a b walk = q at *
  have HS1 := hid (fun X => p_Reach a b ha hb walk X)
  generalize reach a b walk = s1 at *
  obtain ⟨P, W, hP, hW, K, hb0⟩ := (Mem.nil w).one (gc g) 23
  obtain ⟨Q, V, hQ, hV, K1, hb1⟩ := K.out.one (wc a) 27
  obtain ⟨R, U, hR, hU, K2, hb2⟩ := K1.out.one (wc b) 27
  obtain ⟨g0, g1, g2⟩ := K2.out.gr (B := P) (g := g) (by simp)
  obtain ⟨c0, c1, c2, c3⟩ := K2.out.wh (B := Q) (x := a) (by simp)
  obtain ⟨d0, d1, d2, d3⟩ := K2.out.wh (B := R) (x := b) (by simp)
  have HT := hid hT
  clear K K1 hb0 hb1 hb2 hT
  go_enter Tryd.func27, Tryd.ntmps27
  go_wp2_with fail
  refine (HS1.out _).mono ?_
  rintro e w1 ⟨rfl, bz⟩
  have K3 := hid (K2.out.next bz)
  clear g0 g1 g2 c0 c1 c2 c3 d0 d1 d2 d3 hP hW hQ hV hR hU
  go_wp2_with fail
  go_ret
  exact Did.mk (by rw [Hr.out]; rfl) K3.out.2
set_option maxRecDepth 20000 in
set_option maxHeartbeats 2000000 in
theorem p_pm3 : PmAt 3 := by
  intro g n a b walk ha hb ra rb w hT
  have Hr := hid (show tmB g 3 n a b walk = (decide (a.s + a.l ≤ b.s) || decide (b.s + b.l ≤ a.s)) from rfl)
  have e1 := (Whn.tame_iff a).1 (Whn.right_tame ra)
  have e2 := (Whn.tame_iff b).1 (Whn.right_tame rb)
  generalize tmB g 3 n a b walk = q at *
  have HA := hid (fun X => p_dailyP a X)
  have HB := hid (fun X => p_dailyP b X)
  have HS1 := hid (fun X => p_Meet (dly a) (dly b) (dly_ok ha) (dly_ok hb) X)
  have Hr2 := hid (Hr.out.trans (day_meet (Whn.right_tame ra) (Whn.right_tame rb)).symm)
  generalize Whn.meet (dly a) (dly b) = s1 at *
  clear Hr
  obtain ⟨P, W, hP, hW, K, hb0⟩ := (Mem.nil w).one (gc g) 23
  obtain ⟨Q, V, hQ, hV, K1, hb1⟩ := K.out.one (wc a) 27
  obtain ⟨R, U, hR, hU, K2, hb2⟩ := K1.out.one (wc b) 27
  obtain ⟨g0, g1, g2⟩ := K2.out.gr (B := P) (g := g) (by simp)
  obtain ⟨c0, c1, c2, c3⟩ := K2.out.wh (B := Q) (x := a) (by simp)
  obtain ⟨d0, d1, d2, d3⟩ := K2.out.wh (B := R) (x := b) (by simp)
  have HT := hid hT
  clear K K1 hb0 hb1 hb2 hT
  go_enter Tryd.func27, Tryd.ntmps27
  go_wp2_with fail
  refine wp_region_held_drew (S := fun X => Mem w X [(R, wc b, 27), (Q, wc a, 27), (P, gc g, 23)]) (by kernel_rfl) K2.out.drew (fun hHeld => ?_)
  have KD := hid K2.out.drew
  refine takeH 0 41 (wv a) rfl rfl (by kernel_rfl) (by kernel_rfl) (by kernel_rfl) (fun _ _ _ h => h) (by kernel_rfl) (fun X hX => by obtain ⟨q0, q1, q2, q3⟩ := hX.wh (B := Q) (x := a) (by simp); clear hX; go_simp) hHeld ?_
  simp only [Act.put, List.setIfInBounds_toArray, List.set_cons_zero, List.set_cons_succ]
  refine takeH 2 43 (wv b) rfl rfl (by kernel_rfl) (by kernel_rfl) (by kernel_rfl) (fun _ _ _ h => h) (by kernel_rfl) (fun X hX => by obtain ⟨q0, q1, q2, q3⟩ := hX.wh (B := R) (x := b) (by simp); clear hX; go_simp) hHeld ?_
  simp only [Act.put, List.setIfInBounds_toArray, List.set_cons_zero, List.set_cons_succ]
  refine wpAnyH_ready (rs := [1]) (by kernel_rfl) (by simp) ?_
  refine AllReadyH.cons rfl (fun KK hK => ?_) AllReadyH.nil
  simp only [List.getElem_toArray, List.getElem_cons_succ, List.getElem_cons_zero]
  go_simp
  refine (HA.out _).mono ?_
  rintro e Y1 ⟨rfl, bz⟩
  have K3 := hid (KD.out.next bz)
  refine hK.out _ _ K3.out (fun hHeld => ?_)
  clear hK KK
  try simp only [Act.put, List.setIfInBounds_toArray, List.set_cons_zero, List.set_cons_succ]
  refine wpAnyH_ready (rs := [3]) (by kernel_rfl) (by simp) ?_
  refine AllReadyH.cons rfl (fun KK hK => ?_) AllReadyH.nil
  simp only [List.getElem_toArray, List.getElem_cons_succ, List.getElem_cons_zero]
  go_simp
  refine (HB.out _).mono ?_
  rintro e Y2 ⟨rfl, bz2⟩
  have K4 := hid (K3.out.next bz2)
  refine hK.out _ _ K4.out (fun hHeld => ?_)
  clear hK KK
  try simp only [Act.put, List.setIfInBounds_toArray, List.set_cons_zero, List.set_cons_succ]
  refine wpAnyH_ready (rs := [4]) (by kernel_rfl) (by simp) ?_
  refine AllReadyH.cons rfl (fun KK hK => ?_) AllReadyH.nil
  simp only [List.getElem_toArray, List.getElem_cons_succ, List.getElem_cons_zero]
  go_simp
  refine (HS1.out _).mono ?_
  rintro e Y3 ⟨rfl, bz3⟩
  have K5 := hid (K4.out.next bz3)
  refine hK.out _ _ K5.out (fun hHeld => ?_)
  clear hK KK
  try simp only [Act.put, List.setIfInBounds_toArray, List.set_cons_zero, List.set_cons_succ]
  refine takeH 5 46 (.bool (!s1)) rfl rfl (by kernel_rfl) (by kernel_rfl) (by kernel_rfl) (fun _ _ _ h => h) (by kernel_rfl) (fun X hX => by clear hX; first | rfl | go_simp) hHeld ?_
  simp only [Act.put, List.setIfInBounds_toArray, List.set_cons_zero, List.set_cons_succ]
  refine takeH 6 12 (.bool (!s1)) rfl rfl (by kernel_rfl) (by kernel_rfl) (by kernel_rfl) (fun _ _ _ h => h) (by kernel_rfl) (fun X hX => by clear hX; first | rfl | go_simp) hHeld ?_
  simp only [Act.put, List.setIfInBounds_toArray, List.set_cons_zero, List.set_cons_succ]
  refine wpAnyH_done (by kernel_rfl) ?_ _
  clear hHeld
  go_wp2_with fail
  go_ret
  exact Did.mk (by rw [Hr2.out]; rfl) K5.out.2
set_option maxRecDepth 20000 in
set_option maxHeartbeats 2000000 in
theorem p_pm2 : PmAt 2 := by
  intro g n a b walk ha hb ra rb w hT
  have Hr := hid (show tmB g 2 n a b walk = (inS a b || inS b a) from rfl)
  have e1 := (Whn.tame_iff a).1 (Whn.right_tame ra)
  have e2 := (Whn.tame_iff b).1 (Whn.right_tame rb)
  generalize tmB g 2 n a b walk = q at *
  have HA := hid (fun X => p_dailyP a X)
  have HB := hid (fun X => p_dailyP b X)
  have HS1 := hid (fun X => p_Covers (dly a) (dly b) (dly_ok ha) (dly_ok hb) X)
  have HS2 := hid (fun X => p_Covers (dly b) (dly a) (dly_ok hb) (dly_ok ha) X)
  rw [day_covers (Whn.right_tame ra) (Whn.right_tame rb)] at HS1
  rw [day_covers (Whn.right_tame rb) (Whn.right_tame ra)] at HS2
  generalize inS a b = s1 at *
  generalize inS b a = s2 at *
  obtain ⟨P, W, hP, hW, K, hb0⟩ := (Mem.nil w).one (gc g) 23
  obtain ⟨Q, V, hQ, hV, K1, hb1⟩ := K.out.one (wc a) 27
  obtain ⟨R, U, hR, hU, K2, hb2⟩ := K1.out.one (wc b) 27
  obtain ⟨g0, g1, g2⟩ := K2.out.gr (B := P) (g := g) (by simp)
  obtain ⟨c0, c1, c2, c3⟩ := K2.out.wh (B := Q) (x := a) (by simp)
  obtain ⟨d0, d1, d2, d3⟩ := K2.out.wh (B := R) (x := b) (by simp)
  have HT := hid hT
  clear K K1 hb0 hb1 hb2 hT
  have hPQ : P < Q := by rw [← hQ, ← hW, ← hP]; exact (Ob.new w (gc g) 23).lt
  have hQR : Q < R := by rw [← hR, ← hV, ← hQ]; exact (Ob.new W (wc a) 27).lt
  have hQw : w.heap.size ≤ Q := by omega
  have hRw : w.heap.size ≤ R := by omega
  have hQn : ∀ p ∈ [(R, wc b, (27 : TypeId)), (P, gc g, (23 : TypeId))], p.1 ≠ Q := by
    intro p hp
    simp only [List.mem_cons, List.not_mem_nil, or_false] at hp
    rcases hp with rfl | rfl
    · show R ≠ Q; omega
    · show P ≠ Q; omega
  have hRn : ∀ p ∈ [(Q, wc (dly a), (27 : TypeId)), (P, gc g, (23 : TypeId))], p.1 ≠ R := by
    intro p hp
    simp only [List.mem_cons, List.not_mem_nil, or_false] at hp
    rcases hp with rfl | rfl
    · show Q ≠ R; omega
    · show P ≠ R; omega
  clear g0 g1 g2 c0 c1 c2 c3 d0 d1 d2 d3
  go_enter Tryd.func27, Tryd.ntmps27
  go_wp2_with fail
  clear hP hW hQ hV hR hU
  refine wp_region_held_drew (S := fun X => Below w.heap.size w X) (by kernel_rfl) K2.out.drew.2 (fun hHeld => ?_)
  have KD := hid K2.out.drew
  refine wpAnyH_ready (rs := [0, 2]) (by kernel_rfl) (by simp) ?_
  refine AllReadyH.cons rfl (fun KK hK => ?_) (AllReadyH.cons rfl (fun KK hK => ?_) AllReadyH.nil)
  · simp only [List.getElem_toArray, List.getElem_cons_zero]
    obtain ⟨q0, q1, q2, q3⟩ := KD.out.wh (B := Q) (x := a) (by simp)
    go_simp
    clear q0 q1 q2 q3
    refine hK.out _ _ KD.out.2 (fun hHeld => ?_)
    clear hK KK
    try simp only [Act.put, List.setIfInBounds_toArray, List.set_cons_zero, List.set_cons_succ]
    refine wpAnyH_ready (rs := [1, 2]) (by kernel_rfl) (by simp) ?_
    refine AllReadyH.cons rfl (fun KK hK => ?_) (AllReadyH.cons rfl (fun KK hK => ?_) AllReadyH.nil)
    · simp only [List.getElem_toArray, List.getElem_cons_succ, List.getElem_cons_zero]
      go_simp
      refine (HA.out _).mono ?_
      rintro e Y1 ⟨rfl, bz1⟩
      have K3 := hid (KD.out.next bz1)
      refine hK.out _ _ K3.out.2 (fun hHeld => ?_)
      clear hK KK
      try simp only [Act.put, List.setIfInBounds_toArray, List.set_cons_zero, List.set_cons_succ]
      refine wpAnyH_ready (rs := [2]) (by kernel_rfl) (by simp) ?_
      refine AllReadyH.cons rfl (fun KK hK => ?_) AllReadyH.nil
      simp only [List.getElem_toArray, List.getElem_cons_succ, List.getElem_cons_zero]
      obtain ⟨q0, q1, q2, q3⟩ := K3.out.wh (B := R) (x := b) (by simp)
      go_simp
      clear q0 q1 q2 q3
      refine hK.out _ _ K3.out.2 (fun hHeld => ?_)
      clear hK KK
      try simp only [Act.put, List.setIfInBounds_toArray, List.set_cons_zero, List.set_cons_succ]
      refine wpAnyH_ready (rs := [3]) (by kernel_rfl) (by simp) ?_
      refine AllReadyH.cons rfl (fun KK hK => ?_) AllReadyH.nil
      simp only [List.getElem_toArray, List.getElem_cons_succ, List.getElem_cons_zero]
      go_simp
      refine (HB.out _).mono ?_
      rintro e Y2 ⟨rfl, bz2⟩
      have K4 := hid (K3.out.next bz2)
      refine hK.out _ _ K4.out.2 (fun hHeld => ?_)
      clear hK KK
      try simp only [Act.put, List.setIfInBounds_toArray, List.set_cons_zero, List.set_cons_succ]
      have KQ := hid (((K4.out.sub (l' := [(Q, wc a, 27), (R, wc b, 27), (P, gc g, 23)]) (by simp)).four hQw hQn (.int .u32 1) (.int .u8 1) (.int .i64 a.s) (.int .i64 a.l)))
      have fQ := (K4.out.at_ (b := Q) (cs := wc a) (t := 27) (by simp))
      obtain ⟨c0, c1, c2, c3⟩ := K4.out.wh (B := Q) (x := a) (by simp)
      have s0 := fQ.free 0
      have s1' := fQ.free 1
      have s2' := fQ.free 2
      have s3 := fQ.free 3
      obtain ⟨Z1, hZ1⟩ : ∃ Z1, ((((Y2.setCell ⟨Q, 0, none⟩ (.int .u32 1)).setCell ⟨Q, 1, none⟩ (.int .u8 1)).setCell ⟨Q, 2, none⟩ (.int .i64 a.s)).setCell ⟨Q, 3, none⟩ (.int .i64 a.l)) = Z1 := ⟨_, rfl⟩
      rw [hZ1] at KQ
      refine wpAnyH_ready (rs := [4]) (by kernel_rfl) (by simp) ?_
      refine AllReadyH.cons rfl (fun KK hK => ?_) AllReadyH.nil
      simp only [List.getElem_toArray, List.getElem_cons_succ, List.getElem_cons_zero]
      go_simp
      refine hK.out _ _ KQ.out.2 (fun hHeld => ?_)
      clear hK KK fQ c0 c1 c2 c3 s0 s1' s2' s3
      have KR := hid (((KQ.out.sub (l' := [(R, wc b, 27), (Q, wc (dly a), 27), (P, gc g, 23)]) (by
        intro p hp
        simp only [List.mem_cons, List.not_mem_nil, or_false] at hp
        rcases hp with rfl | rfl | rfl
        · simp
        · exact List.mem_cons_self ..
        · simp)).four hRw hRn (.int .u32 1) (.int .u8 1) (.int .i64 b.s) (.int .i64 b.l)))
      have fR := (KQ.out.at_ (b := R) (cs := wc b) (t := 27) (by simp))
      obtain ⟨d0, d1, d2, d3⟩ := KQ.out.wh (B := R) (x := b) (by simp)
      have s0 := fR.free 0
      have s1' := fR.free 1
      have s2' := fR.free 2
      have s3 := fR.free 3
      obtain ⟨Z2, hZ2⟩ : ∃ Z2, ((((Z1.setCell ⟨R, 0, none⟩ (.int .u32 1)).setCell ⟨R, 1, none⟩ (.int .u8 1)).setCell ⟨R, 2, none⟩ (.int .i64 b.s)).setCell ⟨R, 3, none⟩ (.int .i64 b.l)) = Z2 := ⟨_, rfl⟩
      rw [hZ2] at KR
      refine wpAnyH_ready (rs := [5]) (by kernel_rfl) (by simp) ?_
      refine AllReadyH.cons rfl (fun KK hK => ?_) AllReadyH.nil
      simp only [List.getElem_toArray, List.getElem_cons_succ, List.getElem_cons_zero]
      go_simp
      refine hK.out _ _ KR.out.2 (fun hHeld => ?_)
      clear hK KK fR d0 d1 d2 d3 s0 s1' s2' s3
      refine wpAnyH_done (by kernel_rfl) ?_ _
      have K6 := hid (KR.out.sub (l' := [(R, wc (dly b), 27), (Q, wc (dly a), 27)]) (by
        intro p hp
        simp only [List.mem_cons, List.not_mem_nil, or_false] at hp
        rcases hp with rfl | rfl
        · exact List.mem_cons_self ..
        · simp))
      clear KR KQ hHeld hZ1 hZ2 hQw hRw hQn hRn
      obtain ⟨c0, c1, c2, c3⟩ := K6.out.wh (B := Q) (x := dly a) (by simp)
      obtain ⟨d0, d1, d2, d3⟩ := K6.out.wh (B := R) (x := dly b) (by simp)
      go_wp2_with fail
      refine (HS1.out _).mono ?_
      rintro e Y3 ⟨rfl, bz⟩
      have K7 := hid (K6.out.next bz)
      clear c0 c1 c2 c3 d0 d1 d2 d3
      cases s2 with
      | true =>
        go_wp2_with fail
        go_ret
        exact Did.mk (by rw [Hr.out, Bool.or_true]; rfl) K7.out.2
      | false =>
        obtain ⟨c0, c1, c2, c3⟩ := K7.out.wh (B := Q) (x := dly a) (by simp)
        obtain ⟨d0, d1, d2, d3⟩ := K7.out.wh (B := R) (x := dly b) (by simp)
        go_wp2_with fail
        refine (HS2.out _).mono ?_
        rintro e Y4 ⟨rfl, bz4⟩
        have K8 := hid (K7.out.next bz4)
        clear c0 c1 c2 c3 d0 d1 d2 d3
        go_wp2_with fail
        go_ret
        exact Did.mk (by rw [Hr.out, Bool.or_false]; rfl) K8.out.2
    · simp only [List.getElem_toArray, List.getElem_cons_succ, List.getElem_cons_zero]
      obtain ⟨q0, q1, q2, q3⟩ := KD.out.wh (B := R) (x := b) (by simp)
      go_simp
      clear q0 q1 q2 q3
      refine hK.out _ _ KD.out.2 (fun hHeld => ?_)
      clear hK KK
      try simp only [Act.put, List.setIfInBounds_toArray, List.set_cons_zero, List.set_cons_succ]
      refine wpAnyH_ready (rs := [1]) (by kernel_rfl) (by simp) ?_
      refine AllReadyH.cons rfl (fun KK hK => ?_) AllReadyH.nil
      simp only [List.getElem_toArray, List.getElem_cons_succ, List.getElem_cons_zero]
      go_simp
      refine (HA.out _).mono ?_
      rintro e Y1 ⟨rfl, bz1⟩
      have K3 := hid (KD.out.next bz1)
      refine hK.out _ _ K3.out.2 (fun hHeld => ?_)
      clear hK KK
      try simp only [Act.put, List.setIfInBounds_toArray, List.set_cons_zero, List.set_cons_succ]
      refine wpAnyH_ready (rs := [3]) (by kernel_rfl) (by simp) ?_
      refine AllReadyH.cons rfl (fun KK hK => ?_) AllReadyH.nil
      simp only [List.getElem_toArray, List.getElem_cons_succ, List.getElem_cons_zero]
      go_simp
      refine (HB.out _).mono ?_
      rintro e Y2 ⟨rfl, bz2⟩
      have K4 := hid (K3.out.next bz2)
      refine hK.out _ _ K4.out.2 (fun hHeld => ?_)
      clear hK KK
      try simp only [Act.put, List.setIfInBounds_toArray, List.set_cons_zero, List.set_cons_succ]
      have KQ := hid (((K4.out.sub (l' := [(Q, wc a, 27), (R, wc b, 27), (P, gc g, 23)]) (by simp)).four hQw hQn (.int .u32 1) (.int .u8 1) (.int .i64 a.s) (.int .i64 a.l)))
      have fQ := (K4.out.at_ (b := Q) (cs := wc a) (t := 27) (by simp))
      obtain ⟨c0, c1, c2, c3⟩ := K4.out.wh (B := Q) (x := a) (by simp)
      have s0 := fQ.free 0
      have s1' := fQ.free 1
      have s2' := fQ.free 2
      have s3 := fQ.free 3
      obtain ⟨Z1, hZ1⟩ : ∃ Z1, ((((Y2.setCell ⟨Q, 0, none⟩ (.int .u32 1)).setCell ⟨Q, 1, none⟩ (.int .u8 1)).setCell ⟨Q, 2, none⟩ (.int .i64 a.s)).setCell ⟨Q, 3, none⟩ (.int .i64 a.l)) = Z1 := ⟨_, rfl⟩
      rw [hZ1] at KQ
      refine wpAnyH_ready (rs := [4]) (by kernel_rfl) (by simp) ?_
      refine AllReadyH.cons rfl (fun KK hK => ?_) AllReadyH.nil
      simp only [List.getElem_toArray, List.getElem_cons_succ, List.getElem_cons_zero]
      go_simp
      refine hK.out _ _ KQ.out.2 (fun hHeld => ?_)
      clear hK KK fQ c0 c1 c2 c3 s0 s1' s2' s3
      have KR := hid (((KQ.out.sub (l' := [(R, wc b, 27), (Q, wc (dly a), 27), (P, gc g, 23)]) (by
        intro p hp
        simp only [List.mem_cons, List.not_mem_nil, or_false] at hp
        rcases hp with rfl | rfl | rfl
        · simp
        · exact List.mem_cons_self ..
        · simp)).four hRw hRn (.int .u32 1) (.int .u8 1) (.int .i64 b.s) (.int .i64 b.l)))
      have fR := (KQ.out.at_ (b := R) (cs := wc b) (t := 27) (by simp))
      obtain ⟨d0, d1, d2, d3⟩ := KQ.out.wh (B := R) (x := b) (by simp)
      have s0 := fR.free 0
      have s1' := fR.free 1
      have s2' := fR.free 2
      have s3 := fR.free 3
      obtain ⟨Z2, hZ2⟩ : ∃ Z2, ((((Z1.setCell ⟨R, 0, none⟩ (.int .u32 1)).setCell ⟨R, 1, none⟩ (.int .u8 1)).setCell ⟨R, 2, none⟩ (.int .i64 b.s)).setCell ⟨R, 3, none⟩ (.int .i64 b.l)) = Z2 := ⟨_, rfl⟩
      rw [hZ2] at KR
      refine wpAnyH_ready (rs := [5]) (by kernel_rfl) (by simp) ?_
      refine AllReadyH.cons rfl (fun KK hK => ?_) AllReadyH.nil
      simp only [List.getElem_toArray, List.getElem_cons_succ, List.getElem_cons_zero]
      go_simp
      refine hK.out _ _ KR.out.2 (fun hHeld => ?_)
      clear hK KK fR d0 d1 d2 d3 s0 s1' s2' s3
      refine wpAnyH_done (by kernel_rfl) ?_ _
      have K6 := hid (KR.out.sub (l' := [(R, wc (dly b), 27), (Q, wc (dly a), 27)]) (by
        intro p hp
        simp only [List.mem_cons, List.not_mem_nil, or_false] at hp
        rcases hp with rfl | rfl
        · exact List.mem_cons_self ..
        · simp))
      clear KR KQ hHeld hZ1 hZ2 hQw hRw hQn hRn
      obtain ⟨c0, c1, c2, c3⟩ := K6.out.wh (B := Q) (x := dly a) (by simp)
      obtain ⟨d0, d1, d2, d3⟩ := K6.out.wh (B := R) (x := dly b) (by simp)
      go_wp2_with fail
      refine (HS1.out _).mono ?_
      rintro e Y3 ⟨rfl, bz⟩
      have K7 := hid (K6.out.next bz)
      clear c0 c1 c2 c3 d0 d1 d2 d3
      cases s2 with
      | true =>
        go_wp2_with fail
        go_ret
        exact Did.mk (by rw [Hr.out, Bool.or_true]; rfl) K7.out.2
      | false =>
        obtain ⟨c0, c1, c2, c3⟩ := K7.out.wh (B := Q) (x := dly a) (by simp)
        obtain ⟨d0, d1, d2, d3⟩ := K7.out.wh (B := R) (x := dly b) (by simp)
        go_wp2_with fail
        refine (HS2.out _).mono ?_
        rintro e Y4 ⟨rfl, bz4⟩
        have K8 := hid (K7.out.next bz4)
        clear c0 c1 c2 c3 d0 d1 d2 d3
        go_wp2_with fail
        go_ret
        exact Did.mk (by rw [Hr.out, Bool.or_false]; rfl) K8.out.2
  · simp only [List.getElem_toArray, List.getElem_cons_succ, List.getElem_cons_zero]
    obtain ⟨q0, q1, q2, q3⟩ := KD.out.wh (B := R) (x := b) (by simp)
    go_simp
    clear q0 q1 q2 q3
    refine hK.out _ _ KD.out.2 (fun hHeld => ?_)
    clear hK KK
    try simp only [Act.put, List.setIfInBounds_toArray, List.set_cons_zero, List.set_cons_succ]
    refine wpAnyH_ready (rs := [0]) (by kernel_rfl) (by simp) ?_
    refine AllReadyH.cons rfl (fun KK hK => ?_) AllReadyH.nil
    simp only [List.getElem_toArray, List.getElem_cons_zero]
    obtain ⟨q0, q1, q2, q3⟩ := KD.out.wh (B := Q) (x := a) (by simp)
    go_simp
    clear q0 q1 q2 q3
    refine hK.out _ _ KD.out.2 (fun hHeld => ?_)
    clear hK KK
    try simp only [Act.put, List.setIfInBounds_toArray, List.set_cons_zero, List.set_cons_succ]
    refine wpAnyH_ready (rs := [1]) (by kernel_rfl) (by simp) ?_
    refine AllReadyH.cons rfl (fun KK hK => ?_) AllReadyH.nil
    simp only [List.getElem_toArray, List.getElem_cons_succ, List.getElem_cons_zero]
    go_simp
    refine (HA.out _).mono ?_
    rintro e Y1 ⟨rfl, bz1⟩
    have K3 := hid (KD.out.next bz1)
    refine hK.out _ _ K3.out.2 (fun hHeld => ?_)
    clear hK KK
    try simp only [Act.put, List.setIfInBounds_toArray, List.set_cons_zero, List.set_cons_succ]
    refine wpAnyH_ready (rs := [3]) (by kernel_rfl) (by simp) ?_
    refine AllReadyH.cons rfl (fun KK hK => ?_) AllReadyH.nil
    simp only [List.getElem_toArray, List.getElem_cons_succ, List.getElem_cons_zero]
    go_simp
    refine (HB.out _).mono ?_
    rintro e Y2 ⟨rfl, bz2⟩
    have K4 := hid (K3.out.next bz2)
    refine hK.out _ _ K4.out.2 (fun hHeld => ?_)
    clear hK KK
    try simp only [Act.put, List.setIfInBounds_toArray, List.set_cons_zero, List.set_cons_succ]
    have KQ := hid (((K4.out.sub (l' := [(Q, wc a, 27), (R, wc b, 27), (P, gc g, 23)]) (by simp)).four hQw hQn (.int .u32 1) (.int .u8 1) (.int .i64 a.s) (.int .i64 a.l)))
    have fQ := (K4.out.at_ (b := Q) (cs := wc a) (t := 27) (by simp))
    obtain ⟨c0, c1, c2, c3⟩ := K4.out.wh (B := Q) (x := a) (by simp)
    have s0 := fQ.free 0
    have s1' := fQ.free 1
    have s2' := fQ.free 2
    have s3 := fQ.free 3
    obtain ⟨Z1, hZ1⟩ : ∃ Z1, ((((Y2.setCell ⟨Q, 0, none⟩ (.int .u32 1)).setCell ⟨Q, 1, none⟩ (.int .u8 1)).setCell ⟨Q, 2, none⟩ (.int .i64 a.s)).setCell ⟨Q, 3, none⟩ (.int .i64 a.l)) = Z1 := ⟨_, rfl⟩
    rw [hZ1] at KQ
    refine wpAnyH_ready (rs := [4]) (by kernel_rfl) (by simp) ?_
    refine AllReadyH.cons rfl (fun KK hK => ?_) AllReadyH.nil
    simp only [List.getElem_toArray, List.getElem_cons_succ, List.getElem_cons_zero]
    go_simp
    refine hK.out _ _ KQ.out.2 (fun hHeld => ?_)
    clear hK KK fQ c0 c1 c2 c3 s0 s1' s2' s3
    have KR := hid (((KQ.out.sub (l' := [(R, wc b, 27), (Q, wc (dly a), 27), (P, gc g, 23)]) (by
      intro p hp
      simp only [List.mem_cons, List.not_mem_nil, or_false] at hp
      rcases hp with rfl | rfl | rfl
      · simp
      · exact List.mem_cons_self ..
      · simp)).four hRw hRn (.int .u32 1) (.int .u8 1) (.int .i64 b.s) (.int .i64 b.l)))
    have fR := (KQ.out.at_ (b := R) (cs := wc b) (t := 27) (by simp))
    obtain ⟨d0, d1, d2, d3⟩ := KQ.out.wh (B := R) (x := b) (by simp)
    have s0 := fR.free 0
    have s1' := fR.free 1
    have s2' := fR.free 2
    have s3 := fR.free 3
    obtain ⟨Z2, hZ2⟩ : ∃ Z2, ((((Z1.setCell ⟨R, 0, none⟩ (.int .u32 1)).setCell ⟨R, 1, none⟩ (.int .u8 1)).setCell ⟨R, 2, none⟩ (.int .i64 b.s)).setCell ⟨R, 3, none⟩ (.int .i64 b.l)) = Z2 := ⟨_, rfl⟩
    rw [hZ2] at KR
    refine wpAnyH_ready (rs := [5]) (by kernel_rfl) (by simp) ?_
    refine AllReadyH.cons rfl (fun KK hK => ?_) AllReadyH.nil
    simp only [List.getElem_toArray, List.getElem_cons_succ, List.getElem_cons_zero]
    go_simp
    refine hK.out _ _ KR.out.2 (fun hHeld => ?_)
    clear hK KK fR d0 d1 d2 d3 s0 s1' s2' s3
    refine wpAnyH_done (by kernel_rfl) ?_ _
    have K6 := hid (KR.out.sub (l' := [(R, wc (dly b), 27), (Q, wc (dly a), 27)]) (by
      intro p hp
      simp only [List.mem_cons, List.not_mem_nil, or_false] at hp
      rcases hp with rfl | rfl
      · exact List.mem_cons_self ..
      · simp))
    clear KR KQ hHeld hZ1 hZ2 hQw hRw hQn hRn
    obtain ⟨c0, c1, c2, c3⟩ := K6.out.wh (B := Q) (x := dly a) (by simp)
    obtain ⟨d0, d1, d2, d3⟩ := K6.out.wh (B := R) (x := dly b) (by simp)
    go_wp2_with fail
    refine (HS1.out _).mono ?_
    rintro e Y3 ⟨rfl, bz⟩
    have K7 := hid (K6.out.next bz)
    clear c0 c1 c2 c3 d0 d1 d2 d3
    cases s2 with
    | true =>
      go_wp2_with fail
      go_ret
      exact Did.mk (by rw [Hr.out, Bool.or_true]; rfl) K7.out.2
    | false =>
      obtain ⟨c0, c1, c2, c3⟩ := K7.out.wh (B := Q) (x := dly a) (by simp)
      obtain ⟨d0, d1, d2, d3⟩ := K7.out.wh (B := R) (x := dly b) (by simp)
      go_wp2_with fail
      refine (HS2.out _).mono ?_
      rintro e Y4 ⟨rfl, bz4⟩
      have K8 := hid (K7.out.next bz4)
      clear c0 c1 c2 c3 d0 d1 d2 d3
      go_wp2_with fail
      go_ret
      exact Did.mk (by rw [Hr.out, Bool.or_false]; rfl) K8.out.2
theorem p_times (g : Gr) (k n : Int) (a b : Wh) (walk : Int) (hk : knB k = true) (h10 : k ≠ 10) (h11 : k ≠ 11) (ha : Wok a) (hb : Wok b) (ra : Whn.right g a = true) (rb : Whn.right g b = true) (w : World) (hT : Tb w) :
    Calls Tryd.prog 27 #[gv g, .int .i64 k, .int .i64 n, wv a, wv b, .int .i64 walk] w (Did (.bool (tmB g k n a b walk)) w) := by
  unfold knB at hk
  rw [Bool.and_eq_true, decide_eq_true_iff, decide_eq_true_iff] at hk
  have hc : k = 1 ∨ k = 2 ∨ k = 3 ∨ k = 4 ∨ k = 5 ∨ k = 6 ∨ k = 7 ∨ k = 8 ∨ k = 9 ∨ k = 12 ∨ k = 13 ∨ k = 14 := by omega
  rcases hc with rfl | rfl | rfl | rfl | rfl | rfl | rfl | rfl | rfl | rfl | rfl | rfl
  · exact p_pm1 g n a b walk ha hb ra rb w hT
  · exact p_pm2 g n a b walk ha hb ra rb w hT
  · exact p_pm3 g n a b walk ha hb ra rb w hT
  · exact p_pm4 g n a b walk ha hb ra rb w hT
  · exact p_pm5 g n a b walk ha hb ra rb w hT
  · exact p_pm6 g n a b walk ha hb ra rb w hT
  · exact p_pm7 g n a b walk ha hb ra rb w hT
  · exact p_pm8 g n a b walk ha hb ra rb w hT
  · exact p_pm9 g n a b walk ha hb ra rb w hT
  · exact p_pm12 g n a b walk ha hb ra rb w hT
  · exact p_pm13 g n a b walk ha hb ra rb w hT
  · exact p_pm14 g n a b walk ha hb ra rb w hT
end Go.Proofs.YtnhniajfnmdnnaaDoor

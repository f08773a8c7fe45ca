/- The document's own answers for layer 15 (pair): Known, rooms, slots, inside, times. -/
import Derived.Test.YtnhniajfnmdnnaaDoorPaiA
namespace Go.Proofs.YtnhniajfnmdnnaaDoor
open Go.RowKit
open Whn (Gr Wh)

theorem r_Known (k : Int) (w : World) : Calls Tryd.prog 21 #[.int .i64 k] w (fun e w' => e = .returned (.bool (knB k)) ∧ w = w') := by
  by_cases h1 : 1 ≤ k
  · have h2 := hid (show decide (k ≤ 14) = knB k by unfold knB; rw [decide_eq_true h1, Bool.true_and])
    go_enter Tryd.func21, Tryd.ntmps21
    go_wp2_with fail
    go_ret
    exact ⟨congrArg (fun z => Ending.returned (Value.bool z)) h2.out, rfl⟩
  · have h2 := hid (show false = knB k by unfold knB; rw [decide_eq_false h1, Bool.false_and])
    go_enter Tryd.func21, Tryd.ntmps21
    go_wp2_with fail
    go_ret
    exact ⟨congrArg (fun z => Ending.returned (Value.bool z)) h2.out, rfl⟩
theorem r_rooms (k : Int) (w : World) : Calls Tryd.prog 35 #[.int .i64 k] w (fun e w' => e = .returned (.bool (roB k)) ∧ w = w') := by
  by_cases h1 : k = 10
  · subst h1
    go_enter Tryd.func35, Tryd.ntmps35
    go_wp2_with fail
    go_ret
    exact ⟨rfl, rfl⟩
  · have q1 : (k == 10) = false := by rw [beq_eq_false_iff_ne]; exact h1
    have h2 := hid (show (k == 11) = roB k by
      unfold roB
      rw [decide_eq_false h1, Bool.false_or, Bool.eq_iff_iff, beq_iff_eq, decide_eq_true_iff])
    clear h1
    go_enter Tryd.func35, Tryd.ntmps35
    go_wp2_with fail
    go_ret
    exact ⟨congrArg (fun z => Ending.returned (Value.bool z)) h2.out, rfl⟩
set_option maxRecDepth 8000 in
theorem r_slots15 (a b : Wh) (ha : Whn.tame a = true) (hb : Whn.tame b = true) (w : World) : Calls Tryd.prog 49 #[wv a, wv b] w (Did (.bool (inS a b)) w) := by
  have e1 := (Whn.tame_iff a).1 ha
  have e2 := (Whn.tame_iff b).1 hb
  have q1 : IntKind.i64.wrap (a.s + a.l) = a.s + a.l := by rw [IntKind.wrap_i64]; omega
  have q2 : IntKind.i64.wrap (b.s + b.l) = b.s + b.l := by rw [IntKind.wrap_i64]; omega
  have Hr := hid (show inS a b = (decide (b.s ≤ a.s) && decide (a.s + a.l ≤ b.s + b.l)) from rfl)
  generalize inS a b = q at *
  obtain ⟨P, W, hP, hW, K, hb0⟩ := (Mem.nil w).one (wc a) 27
  obtain ⟨Q, V, hQ, hV, K1, hb1⟩ := K.out.one (wc b) 27
  obtain ⟨c0, c1, c2, c3⟩ := K1.out.wh (B := P) (x := a) (by simp)
  obtain ⟨d0, d1, d2, d3⟩ := K1.out.wh (B := Q) (x := b) (by simp)
  clear K hb0 hb1 ha hb e1 e2
  by_cases h1 : b.s ≤ a.s
  · have Hr2 := hid (Hr.out.trans (by rw [decide_eq_true h1, Bool.true_and]))
    clear Hr
    go_enter Tryd.func49, Tryd.ntmps49
    go_wp2_with fail
    go_ret
    exact Did.mk (by rw [Hr2.out]; rfl) K1.out.2
  · have Hr2 := hid (Hr.out.trans (by rw [decide_eq_false h1, Bool.false_and]))
    clear Hr
    go_enter Tryd.func49, Tryd.ntmps49
    go_wp2_with fail
    go_ret
    exact Did.mk (by rw [Hr2.out]; rfl) K1.out.2
theorem r_inside (a b : Nat) (ha : a < 4294967296) (hb : b < 4294967296) (w : World) : Calls Tryd.prog 50 #[.int .u32 (a : Int), .int .u32 (b : Int)] w (fun e w' => e = .returned (.bool (inN a b)) ∧ w = w') := by
  have q1 := o_and32 a b ha hb
  have Hr := hid (show (((a &&& b : Nat) : Int) == (a : Int)) = inN a b by
    unfold inN
    rw [Bool.eq_iff_iff, beq_iff_eq, decide_eq_true_iff]
    omega)
  generalize a &&& b = z at *
  clear ha hb
  go_enter Tryd.func50, Tryd.ntmps50
  go_wp2_with fail
  go_ret
  exact ⟨congrArg (fun z => Ending.returned (Value.bool z)) Hr.out, rfl⟩
/-- what a kind's own theorem says -/
def TmAt (k : Int) : Prop := ∀ (g : Gr) (n : Int) (a b : Wh) (walk : Int) (_ : Wok a) (_ : Wok b) (_ : Whn.right g a = true) (_ : Whn.right g b = true) (w : World),
  Calls Tryd.prog 29 #[gv g, .int .i64 k, .int .i64 n, wv a, wv b, .int .i64 walk] w (Did (.bool (tmB g k n a b walk)) w)
set_option maxRecDepth 20000 in
set_option maxHeartbeats 2000000 in
theorem r_tm1 : TmAt 1 := by
  intro g n a b walk ha hb ra rb w
  have Hr := hid (show tmB g 1 n a b walk = (decide (a.s = b.s)) from rfl)
  have e1 := (Whn.tame_iff a).1 (Whn.right_tame ra)
  have e2 := (Whn.tame_iff b).1 (Whn.right_tame rb)
  have q1 : IntKind.i64.wrap (a.s + a.l) = a.s + a.l := by rw [IntKind.wrap_i64]; omega
  have q2 : IntKind.i64.wrap (b.s + b.l) = b.s + b.l := by rw [IntKind.wrap_i64]; omega
  generalize tmB g 1 n a b walk = q at *
  obtain ⟨P, W, hP, hW, K, hb0⟩ := (Mem.nil w).one (gc g) 23
  obtain ⟨Q, V, hQ, hV, K1, hb1⟩ := K.out.one (wc a) 27
  obtain ⟨R, U, hR, hU, K2, hb2⟩ := K1.out.one (wc b) 27
  obtain ⟨g0, g1, g2⟩ := K2.out.gr (B := P) (g := g) (by simp)
  obtain ⟨c0, c1, c2, c3⟩ := K2.out.wh (B := Q) (x := a) (by simp)
  obtain ⟨d0, d1, d2, d3⟩ := K2.out.wh (B := R) (x := b) (by simp)
  clear K K1 hb0 hb1 hb2
  have Hv := hid (show (a.s == b.s) = q by rw [Hr.out, Bool.eq_iff_iff, beq_iff_eq, decide_eq_true_iff])
  clear Hr
  go_enter Tryd.func29, Tryd.ntmps29
  go_wp2_with fail
  go_ret
  exact Did.mk (by rw [Hv.out]; rfl) K2.out.2
set_option maxRecDepth 20000 in
set_option maxHeartbeats 2000000 in
theorem r_tm2 : TmAt 2 := by
  intro g n a b walk ha hb ra rb w
  have Hr := hid (show tmB g 2 n a b walk = (inS a b || inS b a) from rfl)
  have e1 := (Whn.tame_iff a).1 (Whn.right_tame ra)
  have e2 := (Whn.tame_iff b).1 (Whn.right_tame rb)
  have q1 : IntKind.i64.wrap (a.s + a.l) = a.s + a.l := by rw [IntKind.wrap_i64]; omega
  have q2 : IntKind.i64.wrap (b.s + b.l) = b.s + b.l := by rw [IntKind.wrap_i64]; omega
  generalize tmB g 2 n a b walk = q at *
  have HS1 := hid (fun X => r_slots15 a b (Whn.right_tame ra) (Whn.right_tame rb) X)
  have HS2 := hid (fun X => r_slots15 b a (Whn.right_tame rb) (Whn.right_tame ra) X)
  generalize inS a b = s1 at *
  generalize inS b a = s2 at *
  obtain ⟨P, W, hP, hW, K, hb0⟩ := (Mem.nil w).one (gc g) 23
  obtain ⟨Q, V, hQ, hV, K1, hb1⟩ := K.out.one (wc a) 27
  obtain ⟨R, U, hR, hU, K2, hb2⟩ := K1.out.one (wc b) 27
  obtain ⟨g0, g1, g2⟩ := K2.out.gr (B := P) (g := g) (by simp)
  obtain ⟨c0, c1, c2, c3⟩ := K2.out.wh (B := Q) (x := a) (by simp)
  obtain ⟨d0, d1, d2, d3⟩ := K2.out.wh (B := R) (x := b) (by simp)
  clear K K1 hb0 hb1 hb2
  go_enter Tryd.func29, Tryd.ntmps29
  go_wp2_with fail
  refine (HS1.out _).mono ?_
  rintro e w1 ⟨rfl, bz⟩
  have K3 := hid (K2.out.next bz)
  clear g0 g1 g2 c0 c1 c2 c3 d0 d1 d2 d3 hP hW hQ hV hR hU
  cases s1 with
  | true =>
    go_wp2_with fail
    go_ret
    exact Did.mk (by rw [Hr.out]; rfl) K3.out.2
  | false =>
    obtain ⟨c0, c1, c2, c3⟩ := K3.out.wh (B := Q) (x := a) (by simp)
    obtain ⟨d0, d1, d2, d3⟩ := K3.out.wh (B := R) (x := b) (by simp)
    go_wp2_with fail
    refine (HS2.out _).mono ?_
    rintro e w2 ⟨rfl, bz2⟩
    have K4 := hid (K3.out.next bz2)
    clear c0 c1 c2 c3 d0 d1 d2 d3
    go_wp2_with fail
    go_ret
    exact Did.mk (by rw [Hr.out]; rfl) K4.out.2
set_option maxRecDepth 20000 in
set_option maxHeartbeats 2000000 in
theorem r_tm3 : TmAt 3 := by
  intro g n a b walk ha hb ra rb w
  have Hr := hid (show tmB g 3 n a b walk = (decide (a.s + a.l ≤ b.s) || decide (b.s + b.l ≤ a.s)) from rfl)
  have e1 := (Whn.tame_iff a).1 (Whn.right_tame ra)
  have e2 := (Whn.tame_iff b).1 (Whn.right_tame rb)
  have q1 : IntKind.i64.wrap (a.s + a.l) = a.s + a.l := by rw [IntKind.wrap_i64]; omega
  have q2 : IntKind.i64.wrap (b.s + b.l) = b.s + b.l := by rw [IntKind.wrap_i64]; omega
  generalize tmB g 3 n a b walk = q at *
  obtain ⟨P, W, hP, hW, K, hb0⟩ := (Mem.nil w).one (gc g) 23
  obtain ⟨Q, V, hQ, hV, K1, hb1⟩ := K.out.one (wc a) 27
  obtain ⟨R, U, hR, hU, K2, hb2⟩ := K1.out.one (wc b) 27
  obtain ⟨g0, g1, g2⟩ := K2.out.gr (B := P) (g := g) (by simp)
  obtain ⟨c0, c1, c2, c3⟩ := K2.out.wh (B := Q) (x := a) (by simp)
  obtain ⟨d0, d1, d2, d3⟩ := K2.out.wh (B := R) (x := b) (by simp)
  clear K K1 hb0 hb1 hb2
  by_cases h1 : a.s + a.l ≤ b.s
  · have Hr2 := hid (Hr.out.trans (by rw [decide_eq_true h1, Bool.true_or]))
    clear Hr
    go_enter Tryd.func29, Tryd.ntmps29
    go_wp2_with fail
    go_ret
    exact Did.mk (by rw [Hr2.out]; rfl) K2.out.2
  · have Hr2 := hid (Hr.out.trans (by rw [decide_eq_false h1, Bool.false_or]))
    clear Hr
    go_enter Tryd.func29, Tryd.ntmps29
    go_wp2_with fail
    go_ret
    exact Did.mk (by rw [Hr2.out]; rfl) K2.out.2
set_option maxRecDepth 20000 in
set_option maxHeartbeats 2000000 in
theorem r_tm4 : TmAt 4 := by
  intro g n a b walk ha hb ra rb w
  have Hr := hid (show tmB g 4 n a b walk = (inN a.d b.d || inN b.d a.d) from rfl)
  have e1 := (Whn.tame_iff a).1 (Whn.right_tame ra)
  have e2 := (Whn.tame_iff b).1 (Whn.right_tame rb)
  have q1 : IntKind.i64.wrap (a.s + a.l) = a.s + a.l := by rw [IntKind.wrap_i64]; omega
  have q2 : IntKind.i64.wrap (b.s + b.l) = b.s + b.l := by rw [IntKind.wrap_i64]; omega
  generalize tmB g 4 n a b walk = q at *
  have HS1 := hid (fun X => r_inside a.d b.d (by have := ha.1; have := ha.2.1; omega) (by have := hb.1; have := hb.2.1; omega) X)
  have HS2 := hid (fun X => r_inside b.d a.d (by have := hb.1; have := hb.2.1; omega) (by have := ha.1; have := ha.2.1; omega) X)
  generalize inN a.d b.d = s1 at *
  generalize inN b.d a.d = s2 at *
  have z1 : IntKind.u32.wrap (a.d : Int) = (a.d : Int) := by rw [IntKind.wrap_u32]; have := ha.2.1; omega
  have z2 : IntKind.u32.wrap (b.d : Int) = (b.d : Int) := by rw [IntKind.wrap_u32]; have := hb.2.1; omega
  obtain ⟨P, W, hP, hW, K, hb0⟩ := (Mem.nil w).one (gc g) 23
  obtain ⟨Q, V, hQ, hV, K1, hb1⟩ := K.out.one (wc a) 27
  obtain ⟨R, U, hR, hU, K2, hb2⟩ := K1.out.one (wc b) 27
  obtain ⟨g0, g1, g2⟩ := K2.out.gr (B := P) (g := g) (by simp)
  obtain ⟨c0, c1, c2, c3⟩ := K2.out.wh (B := Q) (x := a) (by simp)
  obtain ⟨d0, d1, d2, d3⟩ := K2.out.wh (B := R) (x := b) (by simp)
  clear K K1 hb0 hb1 hb2
  go_enter Tryd.func29, Tryd.ntmps29
  go_wp2_with fail
  refine (HS1.out _).mono ?_
  rintro e w1 ⟨rfl, rfl⟩
  cases s1 with
  | true =>
    go_wp2_with fail
    go_ret
    exact Did.mk (by rw [Hr.out]; rfl) K2.out.2
  | false =>
    go_wp2_with fail
    refine (HS2.out _).mono ?_
    rintro e w2 ⟨rfl, rfl⟩
    go_wp2_with fail
    go_ret
    exact Did.mk (by rw [Hr.out]; rfl) K2.out.2
set_option maxRecDepth 20000 in
set_option maxHeartbeats 2000000 in
theorem r_tm5 : TmAt 5 := by
  intro g n a b walk ha hb ra rb w
  have Hr := hid (show tmB g 5 n a b walk = (decide (a.d &&& b.d = 0)) from rfl)
  have e1 := (Whn.tame_iff a).1 (Whn.right_tame ra)
  have e2 := (Whn.tame_iff b).1 (Whn.right_tame rb)
  have q1 : IntKind.i64.wrap (a.s + a.l) = a.s + a.l := by rw [IntKind.wrap_i64]; omega
  have q2 : IntKind.i64.wrap (b.s + b.l) = b.s + b.l := by rw [IntKind.wrap_i64]; omega
  generalize tmB g 5 n a b walk = q at *
  have z1 := o_and8 a.d b.d ha.2.1 hb.2.1
  have Hv := hid (show (((a.d &&& b.d : Nat) : Int) == 0) = q by
    rw [Hr.out, Bool.eq_iff_iff, beq_iff_eq, decide_eq_true_iff]; omega)
  generalize a.d &&& b.d = z at *
  clear Hr
  obtain ⟨P, W, hP, hW, K, hb0⟩ := (Mem.nil w).one (gc g) 23
  obtain ⟨Q, V, hQ, hV, K1, hb1⟩ := K.out.one (wc a) 27
  obtain ⟨R, U, hR, hU, K2, hb2⟩ := K1.out.one (wc b) 27
  obtain ⟨g0, g1, g2⟩ := K2.out.gr (B := P) (g := g) (by simp)
  obtain ⟨c0, c1, c2, c3⟩ := K2.out.wh (B := Q) (x := a) (by simp)
  obtain ⟨d0, d1, d2, d3⟩ := K2.out.wh (B := R) (x := b) (by simp)
  clear K K1 hb0 hb1 hb2
  go_enter Tryd.func29, Tryd.ntmps29
  go_wp2_with fail
  go_ret
  exact Did.mk (by rw [Hv.out]; rfl) K2.out.2
set_option maxRecDepth 20000 in
set_option maxHeartbeats 2000000 in
theorem r_tm6 : TmAt 6 := by
  intro g n a b walk ha hb ra rb w
  have Hr := hid (show tmB g 6 n a b walk = (inN a.w b.w || inN b.w a.w) from rfl)
  have e1 := (Whn.tame_iff a).1 (Whn.right_tame ra)
  have e2 := (Whn.tame_iff b).1 (Whn.right_tame rb)
  have q1 : IntKind.i64.wrap (a.s + a.l) = a.s + a.l := by rw [IntKind.wrap_i64]; omega
  have q2 : IntKind.i64.wrap (b.s + b.l) = b.s + b.l := by rw [IntKind.wrap_i64]; omega
  generalize tmB g 6 n a b walk = q at *
  have HS1 := hid (fun X => r_inside a.w b.w (by have := ha.1; have := ha.2.1; omega) (by have := hb.1; have := hb.2.1; omega) X)
  have HS2 := hid (fun X => r_inside b.w a.w (by have := hb.1; have := hb.2.1; omega) (by have := ha.1; have := ha.2.1; omega) X)
  generalize inN a.w b.w = s1 at *
  generalize inN b.w a.w = s2 at *
  obtain ⟨P, W, hP, hW, K, hb0⟩ := (Mem.nil w).one (gc g) 23
  obtain ⟨Q, V, hQ, hV, K1, hb1⟩ := K.out.one (wc a) 27
  obtain ⟨R, U, hR, hU, K2, hb2⟩ := K1.out.one (wc b) 27
  obtain ⟨g0, g1, g2⟩ := K2.out.gr (B := P) (g := g) (by simp)
  obtain ⟨c0, c1, c2, c3⟩ := K2.out.wh (B := Q) (x := a) (by simp)
  obtain ⟨d0, d1, d2, d3⟩ := K2.out.wh (B := R) (x := b) (by simp)
  clear K K1 hb0 hb1 hb2
  go_enter Tryd.func29, Tryd.ntmps29
  go_wp2_with fail
  refine (HS1.out _).mono ?_
  rintro e w1 ⟨rfl, rfl⟩
  cases s1 with
  | true =>
    go_wp2_with fail
    go_ret
    exact Did.mk (by rw [Hr.out]; rfl) K2.out.2
  | false =>
    go_wp2_with fail
    refine (HS2.out _).mono ?_
    rintro e w2 ⟨rfl, rfl⟩
    go_wp2_with fail
    go_ret
    exact Did.mk (by rw [Hr.out]; rfl) K2.out.2
set_option maxRecDepth 20000 in
set_option maxHeartbeats 2000000 in
theorem r_tm7 : TmAt 7 := by
  intro g n a b walk ha hb ra rb w
  have Hr := hid (show tmB g 7 n a b walk = (decide (a.w &&& b.w = 0)) from rfl)
  have e1 := (Whn.tame_iff a).1 (Whn.right_tame ra)
  have e2 := (Whn.tame_iff b).1 (Whn.right_tame rb)
  have q1 : IntKind.i64.wrap (a.s + a.l) = a.s + a.l := by rw [IntKind.wrap_i64]; omega
  have q2 : IntKind.i64.wrap (b.s + b.l) = b.s + b.l := by rw [IntKind.wrap_i64]; omega
  generalize tmB g 7 n a b walk = q at *
  have z1 := o_and32 a.w b.w ha.1 hb.1
  have Hv := hid (show (((a.w &&& b.w : Nat) : Int) == 0) = q by
    rw [Hr.out, Bool.eq_iff_iff, beq_iff_eq, decide_eq_true_iff]; omega)
  generalize a.w &&& b.w = z at *
  clear Hr
  obtain ⟨P, W, hP, hW, K, hb0⟩ := (Mem.nil w).one (gc g) 23
  obtain ⟨Q, V, hQ, hV, K1, hb1⟩ := K.out.one (wc a) 27
  obtain ⟨R, U, hR, hU, K2, hb2⟩ := K1.out.one (wc b) 27
  obtain ⟨g0, g1, g2⟩ := K2.out.gr (B := P) (g := g) (by simp)
  obtain ⟨c0, c1, c2, c3⟩ := K2.out.wh (B := Q) (x := a) (by simp)
  obtain ⟨d0, d1, d2, d3⟩ := K2.out.wh (B := R) (x := b) (by simp)
  clear K K1 hb0 hb1 hb2
  go_enter Tryd.func29, Tryd.ntmps29
  go_wp2_with fail
  go_ret
  exact Did.mk (by rw [Hv.out]; rfl) K2.out.2
set_option maxRecDepth 20000 in
set_option maxHeartbeats 2000000 in
theorem r_tm8 : TmAt 8 := by
  intro g n a b walk ha hb ra rb w
  have Hr := hid (show tmB g 8 n a b walk = (Whn.meet a b) from rfl)
  have e1 := (Whn.tame_iff a).1 (Whn.right_tame ra)
  have e2 := (Whn.tame_iff b).1 (Whn.right_tame rb)
  have q1 : IntKind.i64.wrap (a.s + a.l) = a.s + a.l := by rw [IntKind.wrap_i64]; omega
  have q2 : IntKind.i64.wrap (b.s + b.l) = b.s + b.l := by rw [IntKind.wrap_i64]; omega
  generalize tmB g 8 n a b walk = q at *
  have HS1 := hid (fun X => r_Meet a b ha hb X)
  generalize Whn.meet a b = s1 at *
  obtain ⟨P, W, hP, hW, K, hb0⟩ := (Mem.nil w).one (gc g) 23
  obtain ⟨Q, V, hQ, hV, K1, hb1⟩ := K.out.one (wc a) 27
  obtain ⟨R, U, hR, hU, K2, hb2⟩ := K1.out.one (wc b) 27
  obtain ⟨g0, g1, g2⟩ := K2.out.gr (B := P) (g := g) (by simp)
  obtain ⟨c0, c1, c2, c3⟩ := K2.out.wh (B := Q) (x := a) (by simp)
  obtain ⟨d0, d1, d2, d3⟩ := K2.out.wh (B := R) (x := b) (by simp)
  clear K K1 hb0 hb1 hb2
  go_enter Tryd.func29, Tryd.ntmps29
  go_wp2_with fail
  refine (HS1.out _).mono ?_
  rintro e w1 ⟨rfl, bz⟩
  have K3 := hid (K2.out.next bz)
  clear g0 g1 g2 c0 c1 c2 c3 d0 d1 d2 d3 hP hW hQ hV hR hU
  go_wp2_with fail
  go_ret
  exact Did.mk (by rw [Hr.out]; rfl) K3.out.2
set_option maxRecDepth 20000 in
set_option maxHeartbeats 2000000 in
theorem r_tm9 : TmAt 9 := by
  intro g n a b walk ha hb ra rb w
  have Hr := hid (show tmB g 9 n a b walk = (!(Whn.meet a b)) from rfl)
  have e1 := (Whn.tame_iff a).1 (Whn.right_tame ra)
  have e2 := (Whn.tame_iff b).1 (Whn.right_tame rb)
  have q1 : IntKind.i64.wrap (a.s + a.l) = a.s + a.l := by rw [IntKind.wrap_i64]; omega
  have q2 : IntKind.i64.wrap (b.s + b.l) = b.s + b.l := by rw [IntKind.wrap_i64]; omega
  generalize tmB g 9 n a b walk = q at *
  have HS1 := hid (fun X => r_Meet a b ha hb X)
  generalize Whn.meet a b = s1 at *
  obtain ⟨P, W, hP, hW, K, hb0⟩ := (Mem.nil w).one (gc g) 23
  obtain ⟨Q, V, hQ, hV, K1, hb1⟩ := K.out.one (wc a) 27
  obtain ⟨R, U, hR, hU, K2, hb2⟩ := K1.out.one (wc b) 27
  obtain ⟨g0, g1, g2⟩ := K2.out.gr (B := P) (g := g) (by simp)
  obtain ⟨c0, c1, c2, c3⟩ := K2.out.wh (B := Q) (x := a) (by simp)
  obtain ⟨d0, d1, d2, d3⟩ := K2.out.wh (B := R) (x := b) (by simp)
  clear K K1 hb0 hb1 hb2
  go_enter Tryd.func29, Tryd.ntmps29
  go_wp2_with fail
  refine (HS1.out _).mono ?_
  rintro e w1 ⟨rfl, bz⟩
  have K3 := hid (K2.out.next bz)
  clear g0 g1 g2 c0 c1 c2 c3 d0 d1 d2 d3 hP hW hQ hV hR hU
  go_wp2_with fail
  go_ret
  exact Did.mk (by rw [Hr.out]; rfl) K3.out.2
set_option maxRecDepth 20000 in
set_option maxHeartbeats 2000000 in
theorem r_tm12 : TmAt 12 := by
  intro g n a b walk ha hb ra rb w
  have Hr := hid (show tmB g 12 n a b walk = (decide (Whn.lst g a < Whn.fst g b)) from rfl)
  have e1 := (Whn.tame_iff a).1 (Whn.right_tame ra)
  have e2 := (Whn.tame_iff b).1 (Whn.right_tame rb)
  have q1 : IntKind.i64.wrap (a.s + a.l) = a.s + a.l := by rw [IntKind.wrap_i64]; omega
  have q2 : IntKind.i64.wrap (b.s + b.l) = b.s + b.l := by rw [IntKind.wrap_i64]; omega
  generalize tmB g 12 n a b walk = q at *
  have HS1 := hid (fun X => r_First g a ha X)
  have HS2 := hid (fun X => r_First g b hb X)
  unfold fsV at HS1 HS2
  generalize Whn.lst g a = la at *
  generalize Whn.fst g b = fb at *
  obtain ⟨P, W, hP, hW, K, hb0⟩ := (Mem.nil w).one (gc g) 23
  obtain ⟨Q, V, hQ, hV, K1, hb1⟩ := K.out.one (wc a) 27
  obtain ⟨R, U, hR, hU, K2, hb2⟩ := K1.out.one (wc b) 27
  obtain ⟨g0, g1, g2⟩ := K2.out.gr (B := P) (g := g) (by simp)
  obtain ⟨c0, c1, c2, c3⟩ := K2.out.wh (B := Q) (x := a) (by simp)
  obtain ⟨d0, d1, d2, d3⟩ := K2.out.wh (B := R) (x := b) (by simp)
  clear K K1 hb0 hb1 hb2
  go_enter Tryd.func29, Tryd.ntmps29
  go_wp2_with fail
  refine (HS1.out _).mono ?_
  rintro e w1 ⟨rfl, bz⟩
  have K3 := hid (K2.out.next bz)
  clear c0 c1 c2 c3 d0 d1 d2 d3 g0 g1 g2 hP hW hQ hV hR hU
  obtain ⟨g0, g1, g2⟩ := K3.out.gr (B := P) (g := g) (by simp)
  obtain ⟨d0, d1, d2, d3⟩ := K3.out.wh (B := R) (x := b) (by simp)
  go_wp2_with fail
  refine (HS2.out _).mono ?_
  rintro e w2 ⟨rfl, bz2⟩
  have K4 := hid (K3.out.next bz2)
  clear d0 d1 d2 d3 g0 g1 g2
  go_wp2_with fail
  go_ret
  exact Did.mk (by rw [Hr.out]; rfl) K4.out.2
set_option maxRecDepth 20000 in
set_option maxHeartbeats 2000000 in
theorem r_tm13 : TmAt 13 := by
  intro g n a b walk ha hb ra rb w
  have Hr := hid (show tmB g 13 n a b walk = (!(Whn.sameDay a b) || decide (max (a.s + a.l) (b.s + b.l) - min a.s b.s ≤ n)) from rfl)
  have e1 := (Whn.tame_iff a).1 (Whn.right_tame ra)
  have e2 := (Whn.tame_iff b).1 (Whn.right_tame rb)
  have q1 : IntKind.i64.wrap (a.s + a.l) = a.s + a.l := by rw [IntKind.wrap_i64]; omega
  have q2 : IntKind.i64.wrap (b.s + b.l) = b.s + b.l := by rw [IntKind.wrap_i64]; omega
  generalize tmB g 13 n a b walk = q at *
  have HS1 := hid (fun X => r_SameDay a b ha hb X)
  generalize Whn.sameDay a b = s1 at *
  obtain ⟨mx, hmx⟩ : ∃ mx, max (a.s + a.l) (b.s + b.l) = mx := ⟨_, rfl⟩
  obtain ⟨mn, hmn⟩ : ∃ mn, min a.s b.s = mn := ⟨_, rfl⟩
  have r1 : (if a.s + a.l < b.s + b.l then b.s + b.l else a.s + a.l) = mx := by split <;> omega
  have r2 : (if b.s + b.l < a.s + a.l then a.s + a.l else b.s + b.l) = mx := by split <;> omega
  have r3 : (if a.s < b.s then a.s else b.s) = mn := by split <;> omega
  have r4 : (if b.s < a.s then b.s else a.s) = mn := by split <;> omega
  have q3 : IntKind.i64.wrap (mx - mn) = mx - mn := by rw [IntKind.wrap_i64]; omega
  rw [hmx, hmn] at Hr
  clear hmx hmn
  obtain ⟨P, W, hP, hW, K, hb0⟩ := (Mem.nil w).one (gc g) 23
  obtain ⟨Q, V, hQ, hV, K1, hb1⟩ := K.out.one (wc a) 27
  obtain ⟨R, U, hR, hU, K2, hb2⟩ := K1.out.one (wc b) 27
  obtain ⟨g0, g1, g2⟩ := K2.out.gr (B := P) (g := g) (by simp)
  obtain ⟨c0, c1, c2, c3⟩ := K2.out.wh (B := Q) (x := a) (by simp)
  obtain ⟨d0, d1, d2, d3⟩ := K2.out.wh (B := R) (x := b) (by simp)
  clear K K1 hb0 hb1 hb2
  go_enter Tryd.func29, Tryd.ntmps29
  go_wp2_with fail
  refine (HS1.out _).mono ?_
  rintro e w1 ⟨rfl, bz⟩
  have K3 := hid (K2.out.next bz)
  clear c0 c1 c2 c3 d0 d1 d2 d3 g0 g1 g2 hP hW hQ hV hR hU
  obtain ⟨c0, c1, c2, c3⟩ := K3.out.wh (B := Q) (x := a) (by simp)
  obtain ⟨d0, d1, d2, d3⟩ := K3.out.wh (B := R) (x := b) (by simp)
  cases s1 with
  | false =>
    go_wp2_with fail
    go_ret
    exact Did.mk (by rw [Hr.out]; rfl) K3.out.2
  | true =>
    go_wp2_with fail
    go_ret
    exact Did.mk (by rw [Hr.out]; rfl) K3.out.2
set_option maxRecDepth 20000 in
set_option maxHeartbeats 2000000 in
theorem r_tm14 : TmAt 14 := by
  intro g n a b walk ha hb ra rb w
  have Hr := hid (show tmB g 14 n a b walk = (reach a b walk) from rfl)
  have e1 := (Whn.tame_iff a).1 (Whn.right_tame ra)
  have e2 := (Whn.tame_iff b).1 (Whn.right_tame rb)
  have q1 : IntKind.i64.wrap (a.s + a.l) = a.s + a.l := by rw [IntKind.wrap_i64]; omega
  have q2 : IntKind.i64.wrap (b.s + b.l) = b.s + b.l := by rw [IntKind.wrap_i64]; omega
  generalize tmB g 14 n a b walk = q at *
  have HS1 := hid (fun X => r_Reach a b ha hb walk X)
  generalize reach a b walk = s1 at *
  obtain ⟨P, W, hP, hW, K, hb0⟩ := (Mem.nil w).one (gc g) 23
  obtain ⟨Q, V, hQ, hV, K1, hb1⟩ := K.out.one (wc a) 27
  obtain ⟨R, U, hR, hU, K2, hb2⟩ := K1.out.one (wc b) 27
  obtain ⟨g0, g1, g2⟩ := K2.out.gr (B := P) (g := g) (by simp)
  obtain ⟨c0, c1, c2, c3⟩ := K2.out.wh (B := Q) (x := a) (by simp)
  obtain ⟨d0, d1, d2, d3⟩ := K2.out.wh (B := R) (x := b) (by simp)
  clear K K1 hb0 hb1 hb2
  go_enter Tryd.func29, Tryd.ntmps29
  go_wp2_with fail
  refine (HS1.out _).mono ?_
  rintro e w1 ⟨rfl, bz⟩
  have K3 := hid (K2.out.next bz)
  clear g0 g1 g2 c0 c1 c2 c3 d0 d1 d2 d3 hP hW hQ hV hR hU
  go_wp2_with fail
  go_ret
  exact Did.mk (by rw [Hr.out]; rfl) K3.out.2
theorem r_times (g : Gr) (k n : Int) (a b : Wh) (walk : Int) (hk : knB k = true) (h10 : k ≠ 10) (h11 : k ≠ 11) (ha : Wok a) (hb : Wok b) (ra : Whn.right g a = true) (rb : Whn.right g b = true) (w : World) :
    Calls Tryd.prog 29 #[gv g, .int .i64 k, .int .i64 n, wv a, wv b, .int .i64 walk] w (Did (.bool (tmB g k n a b walk)) w) := by
  unfold knB at hk
  rw [Bool.and_eq_true, decide_eq_true_iff, decide_eq_true_iff] at hk
  have hc : k = 1 ∨ k = 2 ∨ k = 3 ∨ k = 4 ∨ k = 5 ∨ k = 6 ∨ k = 7 ∨ k = 8 ∨ k = 9 ∨ k = 12 ∨ k = 13 ∨ k = 14 := by omega
  rcases hc with rfl | rfl | rfl | rfl | rfl | rfl | rfl | rfl | rfl | rfl | rfl | rfl
  · exact r_tm1 g n a b walk ha hb ra rb w
  · exact r_tm2 g n a b walk ha hb ra rb w
  · exact r_tm3 g n a b walk ha hb ra rb w
  · exact r_tm4 g n a b walk ha hb ra rb w
  · exact r_tm5 g n a b walk ha hb ra rb w
  · exact r_tm6 g n a b walk ha hb ra rb w
  · exact r_tm7 g n a b walk ha hb ra rb w
  · exact r_tm8 g n a b walk ha hb ra rb w
  · exact r_tm9 g n a b walk ha hb ra rb w
  · exact r_tm12 g n a b walk ha hb ra rb w
  · exact r_tm13 g n a b walk ha hb ra rb w
  · exact r_tm14 g n a b walk ha hb ra rb w
end Go.Proofs.YtnhniajfnmdnnaaDoor

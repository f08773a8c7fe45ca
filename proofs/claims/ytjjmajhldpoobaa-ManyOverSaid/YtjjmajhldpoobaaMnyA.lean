/- The document's own answers for layer 16 (many): Known, from, Right, all; few. -/
import Derived.Test.YtjjmajhldpoobaaMnyN
import Derived.Test.YtjjmajhldpoobaaRomB
import Derived.Test.YtjjmajhldpoobaaPerR
namespace Go.Proofs.Ytjjmajhldpoobaa
open Go.RowKit
open Whn (Gr Wh)

/-- is a number from one to another one? -/
def frB (n lo hi : Int) : Bool := decide (lo ≤ n) && decide (n ≤ hi)
def mkB (k : Int) : Bool := frB k 21 24
def kn15 (k : Int) : Bool := frB k 1 14
def rtV (k a b : Int) : Bool :=
  if k = 21 then frB a 1 7 && decide (b = 0) else
  if k = 22 ∨ k = 13 then frB a 1 96 && decide (b = 0) else
  if k = 23 then frB a 0 48 && frB b 0 96 else
  if k = 24 then frB a 1 96 && frB b 0 96 else
  kn15 k && (decide (a = 0) && decide (b = 0))
theorem r16_from (n lo hi : Int) (w : World) : Calls Try.prog 31 #[.int .i64 n, .int .i64 lo, .int .i64 hi] w (fun e w' => e = .returned (.bool (frB n lo hi)) ∧ w = w') := by
  by_cases h1 : lo ≤ n
  · have h2 := hid (show decide (n ≤ hi) = frB n lo hi by show _ = frB n (lo) (hi); unfold frB; rw [decide_eq_true h1, Bool.true_and])
    go_enter Try.func31, Try.ntmps31
    go_wp2_with fail
    go_ret
    exact ⟨congrArg (fun z => Ending.returned (Value.bool z)) h2.out, rfl⟩
  · have h2 := hid (show false = frB n lo hi by show _ = frB n (lo) (hi); unfold frB; rw [decide_eq_false h1, Bool.false_and])
    go_enter Try.func31, Try.ntmps31
    go_wp2_with fail
    go_ret
    exact ⟨congrArg (fun z => Ending.returned (Value.bool z)) h2.out, rfl⟩
theorem r16_Known (n : Int) (w : World) : Calls Try.prog 12 #[.int .i64 n] w (fun e w' => e = .returned (.bool (mkB n)) ∧ w = w') := by
  by_cases h1 : 21 ≤ n
  · have h2 := hid (show decide (n ≤ 24) = mkB n by show _ = frB n (21) (24); unfold frB; rw [decide_eq_true h1, Bool.true_and])
    go_enter Try.func12, Try.ntmps12
    go_wp2_with fail
    go_ret
    exact ⟨congrArg (fun z => Ending.returned (Value.bool z)) h2.out, rfl⟩
  · have h2 := hid (show false = mkB n by show _ = frB n (21) (24); unfold frB; rw [decide_eq_false h1, Bool.false_and])
    go_enter Try.func12, Try.ntmps12
    go_wp2_with fail
    go_ret
    exact ⟨congrArg (fun z => Ending.returned (Value.bool z)) h2.out, rfl⟩
theorem r16_kn15 (n : Int) (w : World) : Calls Try.prog 32 #[.int .i64 n] w (fun e w' => e = .returned (.bool (kn15 n)) ∧ w = w') := by
  by_cases h1 : 1 ≤ n
  · have h2 := hid (show decide (n ≤ 14) = kn15 n by show _ = frB n (1) (14); unfold frB; rw [decide_eq_true h1, Bool.true_and])
    go_enter Try.func32, Try.ntmps32
    go_wp2_with fail
    go_ret
    exact ⟨congrArg (fun z => Ending.returned (Value.bool z)) h2.out, rfl⟩
  · have h2 := hid (show false = kn15 n by show _ = frB n (1) (14); unfold frB; rw [decide_eq_false h1, Bool.false_and])
    go_enter Try.func32, Try.ntmps32
    go_wp2_with fail
    go_ret
    exact ⟨congrArg (fun z => Ending.returned (Value.bool z)) h2.out, rfl⟩
theorem deq (b : Int) : decide (b = 0) = (b == 0) := by rw [Bool.eq_iff_iff, decide_eq_true_iff, beq_iff_eq]
theorem r16_Right (k a b : Int) (w : World) : Calls Try.prog 14 #[.int .i64 k, .int .i64 a, .int .i64 b] w (fun e w' => e = .returned (.bool (rtV k a b)) ∧ w = w') := by
  by_cases h21 : k = 21
  · subst h21
    have Hr := hid (show rtV 21 a b = (frB a 1 7 && (b == 0)) from (by unfold rtV; simp [deq]))
    have H1 := hid (fun X => r16_from a 1 7 X)
    generalize frB a 1 7 = f1 at *
    generalize rtV 21 a b = q at *
    go_enter Try.func14, Try.ntmps14
    go_wp2_with fail
    refine (H1.out _).mono ?_
    rintro e w1 ⟨rfl, rfl⟩
    cases f1 with
    | false =>
      go_wp2_with fail
      go_ret
      exact ⟨congrArg (fun z => Ending.returned (Value.bool z)) (by rw [Hr.out]; rfl), rfl⟩
    | true =>
      go_wp2_with fail
      go_ret
      exact ⟨congrArg (fun z => Ending.returned (Value.bool z)) (by rw [Hr.out, Bool.true_and]), rfl⟩
  by_cases h22 : k = 22
  · subst h22
    have Hr := hid (show rtV 22 a b = (frB a 1 96 && (b == 0)) from (by unfold rtV; simp [deq]))
    have H1 := hid (fun X => r16_from a 1 96 X)
    generalize frB a 1 96 = f1 at *
    generalize rtV 22 a b = q at *
    go_enter Try.func14, Try.ntmps14
    go_wp2_with fail
    refine (H1.out _).mono ?_
    rintro e w1 ⟨rfl, rfl⟩
    cases f1 with
    | false =>
      go_wp2_with fail
      go_ret
      exact ⟨congrArg (fun z => Ending.returned (Value.bool z)) (by rw [Hr.out]; rfl), rfl⟩
    | true =>
      go_wp2_with fail
      go_ret
      exact ⟨congrArg (fun z => Ending.returned (Value.bool z)) (by rw [Hr.out, Bool.true_and]), rfl⟩
  by_cases h13 : k = 13
  · subst h13
    have Hr := hid (show rtV 13 a b = (frB a 1 96 && (b == 0)) from (by unfold rtV; simp [deq]))
    have H1 := hid (fun X => r16_from a 1 96 X)
    generalize frB a 1 96 = f1 at *
    generalize rtV 13 a b = q at *
    go_enter Try.func14, Try.ntmps14
    go_wp2_with fail
    refine (H1.out _).mono ?_
    rintro e w1 ⟨rfl, rfl⟩
    cases f1 with
    | false =>
      go_wp2_with fail
      go_ret
      exact ⟨congrArg (fun z => Ending.returned (Value.bool z)) (by rw [Hr.out]; rfl), rfl⟩
    | true =>
      go_wp2_with fail
      go_ret
      exact ⟨congrArg (fun z => Ending.returned (Value.bool z)) (by rw [Hr.out, Bool.true_and]), rfl⟩
  by_cases h23 : k = 23
  · subst h23
    have Hr := hid (show rtV 23 a b = (frB a 0 48 && frB b 0 96) from rfl)
    have H1 := hid (fun X => r16_from a 0 48 X)
    have H2 := hid (fun X => r16_from b 0 96 X)
    generalize frB a 0 48 = f1 at *
    generalize frB b 0 96 = f2 at *
    generalize rtV 23 a b = q at *
    go_enter Try.func14, Try.ntmps14
    go_wp2_with fail
    refine (H1.out _).mono ?_
    rintro e w1 ⟨rfl, rfl⟩
    cases f1 with
    | false =>
      go_wp2_with fail
      go_ret
      exact ⟨congrArg (fun z => Ending.returned (Value.bool z)) (by rw [Hr.out]; rfl), rfl⟩
    | true =>
      go_wp2_with fail
      refine (H2.out _).mono ?_
      rintro e w2 ⟨rfl, rfl⟩
      go_wp2_with fail
      go_ret
      exact ⟨congrArg (fun z => Ending.returned (Value.bool z)) (by rw [Hr.out]; rfl), rfl⟩
  by_cases h24 : k = 24
  · subst h24
    have Hr := hid (show rtV 24 a b = (frB a 1 96 && frB b 0 96) from rfl)
    have H1 := hid (fun X => r16_from a 1 96 X)
    have H2 := hid (fun X => r16_from b 0 96 X)
    generalize frB a 1 96 = f1 at *
    generalize frB b 0 96 = f2 at *
    generalize rtV 24 a b = q at *
    go_enter Try.func14, Try.ntmps14
    go_wp2_with fail
    refine (H1.out _).mono ?_
    rintro e w1 ⟨rfl, rfl⟩
    cases f1 with
    | false =>
      go_wp2_with fail
      go_ret
      exact ⟨congrArg (fun z => Ending.returned (Value.bool z)) (by rw [Hr.out]; rfl), rfl⟩
    | true =>
      go_wp2_with fail
      refine (H2.out _).mono ?_
      rintro e w2 ⟨rfl, rfl⟩
      go_wp2_with fail
      go_ret
      exact ⟨congrArg (fun z => Ending.returned (Value.bool z)) (by rw [Hr.out]; rfl), rfl⟩
  have Hr := hid (show rtV k a b = (kn15 k && ((a == 0) && (b == 0))) by
    unfold rtV
    rw [if_neg h21, if_neg (by omega), if_neg h23, if_neg h24, deq, deq])
  have H1 := hid (fun X => r16_kn15 k X)
  have q1 : (k == 21) = false := by rw [beq_eq_false_iff_ne]; exact h21
  have q2 : (k == 22) = false := by rw [beq_eq_false_iff_ne]; exact h22
  have q3 : (k == 13) = false := by rw [beq_eq_false_iff_ne]; exact h13
  have q4 : (k == 23) = false := by rw [beq_eq_false_iff_ne]; exact h23
  have q5 : (k == 24) = false := by rw [beq_eq_false_iff_ne]; exact h24
  clear h21 h22 h13 h23 h24
  generalize rtV k a b = q at *
  generalize kn15 k = f1 at *
  go_enter Try.func14, Try.ntmps14
  go_wp2_with fail
  refine (H1.out _).mono ?_
  rintro e w1 ⟨rfl, rfl⟩
  cases f1 with
  | false =>
    go_wp2_with fail
    go_ret
    exact ⟨congrArg (fun z => Ending.returned (Value.bool z)) (by rw [Hr.out]; rfl), rfl⟩
  | true =>
    cases h1 : (a == 0) with
    | false =>
      rw [h1] at Hr
      go_wp2_with fail
      go_ret
      exact ⟨congrArg (fun z => Ending.returned (Value.bool z)) (by rw [Hr.out]; rfl), rfl⟩
    | true =>
      rw [h1] at Hr
      go_wp2_with fail
      go_ret
      exact ⟨congrArg (fun z => Ending.returned (Value.bool z)) (by rw [Hr.out]; rfl), rfl⟩
set_option maxRecDepth 4000 in
set_option maxHeartbeats 1000000 in
theorem r16_all (g : Gr) (w : World) : Calls Try.prog 38 #[gv g] w (Did (.int .i64 (Whn.daysN g : Nat)) w) := by
  have HG := hid (fun w => r_RightGrid g w)
  obtain ⟨G, W, hG, hW, K, hb0⟩ := (Mem.nil w).one (gc g) 23
  obtain ⟨g0, g1, g2⟩ := K.out.gr (B := G) (g := g) (by simp)
  cases hgg : Whn.rgrid g with
  | false =>
    rw [hgg] at HG
    have Hr := hid (show (0 : Int) = (Whn.daysN g : Nat) by unfold Whn.daysN; rw [hgg]; rfl)
    clear hgg
    go_enter Try.func38, Try.ntmps38
    go_wp2_with fail
    refine (HG.out _).mono ?_
    rintro e w1 ⟨rfl, b1⟩
    go_wp2_with fail
    go_ret
    exact Did.mk (by rw [← Hr.out]; rfl) (K.out.next b1).2
  | true =>
    obtain ⟨q1, q2, q3, q4, q5, q6⟩ := (Whn.rgrid_iff g).1 hgg
    have m1 : g.w * g.d ≤ 20 * 7 := Int.mul_le_mul q2 q4 (by omega) (by omega)
    have m0 : 0 ≤ g.w * g.d := Int.mul_nonneg (by omega) (by omega)
    have Hr := hid (show wrap64 (g.w * g.d) = (Whn.daysN g : Nat) by
      unfold Whn.daysN
      rw [if_pos hgg, IntWalk.wrap64_in _ ⟨by omega, by omega⟩, Int.toNat_of_nonneg m0])
    have Hm := hid (show g.w * g.d = (Whn.daysN g : Nat) by
      unfold Whn.daysN
      rw [if_pos hgg, Int.toNat_of_nonneg m0])
    rw [hgg] at HG
    clear hgg m0 m1 q1 q2 q3 q4 q5 q6
    go_enter Try.func38, Try.ntmps38
    go_wp2_with fail
    refine (HG.out _).mono ?_
    rintro e w1 ⟨rfl, b1⟩
    have K2 := hid (K.out.next b1)
    clear g0 g1 g2
    obtain ⟨g0, g1, g2⟩ := K2.out.gr (B := G) (g := g) (by simp)
    go_wp2_with fail
    go_ret
    exact Did.mk (by first | (rw [← Hr.out]; rfl) | (rw [← Hm.out]; rfl)) K2.out.2
theorem l_few16 (n : Nat) (v : Option Addr) (c : Nat) (w : World) : Calls Try.prog 9 #[.slice v n c] w (fun e w' => e = .returned (.bool (decide (n ≤ 12))) ∧ w = w') := by
  have hq := hid (show decide ((n : Int) ≤ 12) = decide (n ≤ 12) by rw [Bool.eq_iff_iff, decide_eq_true_iff, decide_eq_true_iff]; omega)
  go_enter Try.func9, Try.ntmps9
  go_wp2_with fail
  go_ret
  exact ⟨congrArg (fun z => Ending.returned (Value.bool z)) (by first | exact hq.out | rfl), rfl⟩
end Go.Proofs.Ytjjmajhldpoobaa

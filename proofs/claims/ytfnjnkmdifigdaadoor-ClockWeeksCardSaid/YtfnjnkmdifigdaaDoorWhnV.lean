/- Contracts of the program's own functions of layer 9 (when): Moment, Of, slots, SameDay, Count. -/
import Derived.Test.YtfnjnkmdifigdaaDoorWhnQ
namespace Go.Proofs.YtfnjnkmdifigdaaDoor
open Go.RowKit
open Whn (Gr Wh)

theorem inG_cases (g : Gr) (a b c : Int) (hg : Whn.rgrid g = true) : (Whn.inG g a b c = true ∧ (0 ≤ a ∧ a ≤ g.w - 1) ∧ (0 ≤ b ∧ b ≤ g.d - 1) ∧ (0 ≤ c ∧ c ≤ g.s - 1)) ∨ (Whn.inG g a b c = false ∧ ((a < 0 ∨ g.w - 1 < a) ∨ ((0 ≤ a ∧ a ≤ g.w - 1) ∧ (b < 0 ∨ g.d - 1 < b)) ∨ ((0 ≤ a ∧ a ≤ g.w - 1) ∧ (0 ≤ b ∧ b ≤ g.d - 1) ∧ (c < 0 ∨ g.s - 1 < c)))) := by
  by_cases h : Whn.inG g a b c = true
  · refine .inl ⟨h, ?_⟩
    unfold Whn.inG at h
    rw [hg, Bool.true_and, decide_eq_true_iff] at h
    omega
  · refine .inr ⟨by simpa using h, ?_⟩
    have := inG_no h hg
    omega
set_option maxHeartbeats 2000000 in
theorem p_Of (g : Gr) (m : Int) (w : World) : Calls Tryd.prog 34 #[gv g, .int .i64 m] w (Did (ofV g m) w) := by
  have HI := hid (fun n a b h w => p_in n a b h w)
  have HO := hid (fun n a b h w => p_out n a b h w)
  have HT := hid (fun w => p_RightGrid g w)
  have ha := Whn.all_le g
  obtain ⟨B, W, hB, hW, K, hb0⟩ := (Mem.nil w).one (gc g) 23
  obtain ⟨c0, c1, c2⟩ := K.out.gr (B := B) (g := g) (by simp)
  cases hT : Whn.rgrid g with
  | false =>
    have Hr := hid (show ofV g m = .tuple #[.int .i64 0, .int .i64 0, .int .i64 0, .bool false] by
      unfold ofV Whn.isM Whn.all
      rw [hT, if_neg]
      rw [decide_eq_true_iff]
      show ¬ (0 ≤ m ∧ m < 0)
      omega)
    rw [hT] at HT
    clear hT
    go_enter Tryd.func34, Tryd.ntmps34
    go_wp2_with fail
    refine (HT.out _).mono ?_
    rintro e w1 ⟨rfl, b1⟩
    go_wp2_with fail
    exact bodyPost_ret (v := .tuple #[.int .i64 0, .int .i64 0, .int .i64 0, .bool false]) (by simp [results, Tryd.results34, go_sem]) rfl (Did.mk Hr.out.symm (K.out.next b1).2)
  | true =>
    have HA : Whn.all g = g.w * g.d * g.s := by unfold Whn.all; rw [if_pos hT]
    obtain ⟨g1, g2, g3, g4, g5, g6⟩ := (Whn.rgrid_iff g).1 hT
    have a1 : 1 * 1 ≤ g.w * g.d := Int.mul_le_mul g1 g3 (by omega) (by omega)
    have a2 : g.w * g.d ≤ 20 * 7 := Int.mul_le_mul g2 g4 (by omega) (by omega)
    have m1 : IntKind.i64.wrap (g.w * g.d) = g.w * g.d := by rw [IntKind.wrap_i64]; omega
    have m2 : IntKind.i64.wrap (g.w * g.d * g.s) = g.w * g.d * g.s := by rw [← HA, IntKind.wrap_i64]; omega
    have m3 : IntKind.i64.wrap (g.w * g.d * g.s - 1) = g.w * g.d * g.s - 1 := by rw [← HA, IntKind.wrap_i64]; omega
    rw [hT] at HT
    by_cases hm : Whn.isM g m = true
    · have Hr := hid (show ofV g m = .tuple #[.int .i64 (m / g.s / g.d), .int .i64 (m / g.s % g.d), .int .i64 (m % g.s), .bool true] by unfold ofV; rw [if_pos hm]; rfl)
      obtain ⟨hin, _⟩ := Whn.num_back hm
      unfold Whn.inG at hin
      rw [Bool.and_eq_true, decide_eq_true_iff] at hin
      have hdw : wrap64 ((m / g.s).tdiv g.d) = m / g.s / g.d := by
        have hw1 : 0 ≤ m / g.s / g.d := hin.2.1
        have hw2 : m / g.s / g.d < g.w := hin.2.2.1
        unfold Whn.isM at hm
        rw [decide_eq_true_iff] at hm
        rw [Int.tdiv_eq_ediv_of_nonneg (Int.ediv_nonneg hm.1 (by omega))]
        unfold wrap64
        omega
      unfold Whn.isM at hm
      rw [decide_eq_true_iff, HA] at hm
      obtain ⟨n1, n2⟩ := hm
      have d1 : 0 ≤ m / g.s := Int.ediv_nonneg n1 (by omega)
      have s1 : g.s ≠ 0 := by omega
      have s2 : g.d ≠ 0 := by omega
      have hq : wrap64 (m.tdiv g.s) = m / g.s := by
        have := Int.ediv_le_self g.s n1
        rw [Int.tdiv_eq_ediv_of_nonneg n1]
        unfold wrap64
        omega
      have hmod : (m / g.s).tmod g.d = m / g.s % g.d := Int.tmod_eq_emod_of_nonneg d1
      have Hq := hid (And.intro hq (And.intro hmod hdw))
      clear hq hmod hdw
      have hin' : 0 ≤ m ∧ m ≤ g.w * g.d * g.s - 1 := by omega
      clear hT hin HA ha a1 a2
      go_enter Tryd.func34, Tryd.ntmps34
      go_wp2_with fail
      refine (HT.out _).mono ?_
      rintro e w1 ⟨rfl, b1⟩
      have K1 := K.out.next b1
      clear c0 c1 c2
      obtain ⟨c0, c1, c2⟩ := K1.gr (B := B) (g := g) (by simp)
      go_wp2_with fail
      refine (HI.out _ _ _ hin' _).mono ?_
      rintro e w2 ⟨rfl, rfl⟩
      go_wp2_with fail
      go_quiet (fail)
      go_wp2_with fail
      exact bodyPost_ret (v := .tuple #[.int .i64 (m / g.s / g.d), .int .i64 (m / g.s % g.d), .int .i64 (m % g.s), .bool true]) (by simp [results, Tryd.results34, go_sem, Hq.out.1, Hq.out.2.1, Hq.out.2.2]) rfl (Did.mk Hr.out.symm (below_drewN K1.2 _))
    · have Hr := hid (show ofV g m = .tuple #[.int .i64 0, .int .i64 0, .int .i64 0, .bool false] by unfold ofV; rw [if_neg hm])
      unfold Whn.isM at hm
      rw [decide_eq_true_iff, HA] at hm
      have hno : m < 0 ∨ g.w * g.d * g.s - 1 < m := by omega
      clear hT hm HA ha a1 a2
      go_enter Tryd.func34, Tryd.ntmps34
      go_wp2_with fail
      refine (HT.out _).mono ?_
      rintro e w1 ⟨rfl, b1⟩
      have K1 := K.out.next b1
      clear c0 c1 c2
      obtain ⟨c0, c1, c2⟩ := K1.gr (B := B) (g := g) (by simp)
      go_wp2_with fail
      refine (HO.out _ _ _ hno _).mono ?_
      rintro e w2 ⟨rfl, rfl⟩
      go_wp2_with fail
      exact bodyPost_ret (v := .tuple #[.int .i64 0, .int .i64 0, .int .i64 0, .bool false]) (by simp [results, Tryd.results34, go_sem]) rfl (Did.mk Hr.out.symm K1.2)
end Go.Proofs.YtfnjnkmdifigdaaDoor

/- Contracts of the program's own functions of layer 9 (when): Moment, Of, slots, SameDay, Count. -/
import Derived.Test.YteldcaebbmaemaaWhnQ
namespace Go.Proofs.Yteldcaebbmaemaa
open Go.RowKit
open Whn (Gr Wh)

theorem inG_cases (g : Gr) (a b c : Int) (hg : Whn.rgrid g = true) : (Whn.inG g a b c = true ∧ (0 ≤ a ∧ a ≤ g.w - 1) ∧ (0 ≤ b ∧ b ≤ g.d - 1) ∧ (0 ≤ c ∧ c ≤ g.s - 1)) ∨ (Whn.inG g a b c = false ∧ ((a < 0 ∨ g.w - 1 < a) ∨ ((0 ≤ a ∧ a ≤ g.w - 1) ∧ (b < 0 ∨ g.d - 1 < b)) ∨ ((0 ≤ a ∧ a ≤ g.w - 1) ∧ (0 ≤ b ∧ b ≤ g.d - 1) ∧ (c < 0 ∨ g.s - 1 < c)))) := by
  by_cases h : Whn.inG g a b c = true
  · refine .inl ⟨h, ?_⟩
    unfold Whn.inG at h
    rw [hg, Bool.true_and, decide_eq_true_iff] at h
    omega
  · refine .inr ⟨by simpa using h, ?_⟩
    have := inG_no h hg
    omega
set_option maxHeartbeats 2000000 in
theorem p_Moment (g : Gr) (a b c : Int) (w : World) : Calls Try.prog 60 #[gv g, .int .i64 a, .int .i64 b, .int .i64 c] w (Did (.int .i64 (Whn.moment g a b c)) w) := by
  have HI := hid (fun n a b h w => p_in n a b h w)
  have HO := hid (fun n a b h w => p_out n a b h w)
  have HT := hid (fun w => p_RightGrid g w)
  obtain ⟨B, W, hB, hW, K, hb0⟩ := (Mem.nil w).one (gc g) 23
  obtain ⟨c0, c1, c2⟩ := K.out.gr (B := B) (g := g) (by simp)
  cases hT : Whn.rgrid g with
  | false =>
    have Hr := hid (show (-1 : Int) = Whn.moment g a b c by unfold Whn.moment Whn.inG; rw [hT]; rfl)
    rw [hT] at HT
    clear hT
    go_enter Try.func60, Try.ntmps60
    go_wp2_with fail
    refine (HT.out _).mono ?_
    rintro e w1 ⟨rfl, b1⟩
    go_wp2_with fail
    go_ret
    exact Did.mk (by rw [← Hr.out]; rfl) (K.out.next b1).2
  | true =>
    obtain ⟨q1, q2, q3, q4, q5, q6⟩ := (Whn.rgrid_iff g).1 hT
    rw [hT] at HT
    rcases inG_cases g a b c hT with ⟨hin, h1, h2, h3⟩ | ⟨hin, hno⟩
    · have Hr := hid (show Whn.num g a b c = Whn.moment g a b c by unfold Whn.moment; rw [if_pos hin])
      obtain ⟨⟨p1, p2⟩, ⟨p3, p4⟩, p5, p6, p7, p8⟩ := num_bounds hin
      clear hT hin
      go_enter Try.func60, Try.ntmps60
      go_wp2_with fail
      refine (HT.out _).mono ?_
      rintro e w1 ⟨rfl, b1⟩
      have K1 := K.out.next b1
      clear c0 c1 c2
      obtain ⟨c0, c1, c2⟩ := K1.gr (B := B) (g := g) (by simp)
      go_wp2_with fail
      refine (HI.out _ _ _ h1 _).mono ?_
      rintro e w2 ⟨rfl, rfl⟩
      go_wp2_with fail
      refine (HI.out _ _ _ h2 _).mono ?_
      rintro e w2 ⟨rfl, rfl⟩
      go_wp2_with fail
      refine (HI.out _ _ _ h3 _).mono ?_
      rintro e w2 ⟨rfl, rfl⟩
      go_wp2_with fail
      go_ret
      exact Did.mk (by rw [← Hr.out]; unfold Whn.num; go_num) K1.2
    · have Hr := hid (show (-1 : Int) = Whn.moment g a b c by unfold Whn.moment; rw [hin]; rfl)
      clear hT hin
      rcases hno with h1 | ⟨h1, h2⟩ | ⟨h1, h2, h3⟩
      · go_enter Try.func60, Try.ntmps60
        go_wp2_with fail
        refine (HT.out _).mono ?_
        rintro e w1 ⟨rfl, b1⟩
        have K1 := K.out.next b1
        clear c0 c1 c2
        obtain ⟨c0, c1, c2⟩ := K1.gr (B := B) (g := g) (by simp)
        go_wp2_with fail
        refine (HO.out _ _ _ h1 _).mono ?_
        rintro e w2 ⟨rfl, rfl⟩
        go_wp2_with fail
        go_ret
        exact Did.mk (by rw [← Hr.out]; rfl) K1.2
      · go_enter Try.func60, Try.ntmps60
        go_wp2_with fail
        refine (HT.out _).mono ?_
        rintro e w1 ⟨rfl, b1⟩
        have K1 := K.out.next b1
        clear c0 c1 c2
        obtain ⟨c0, c1, c2⟩ := K1.gr (B := B) (g := g) (by simp)
        go_wp2_with fail
        refine (HI.out _ _ _ h1 _).mono ?_
        rintro e w2 ⟨rfl, rfl⟩
        go_wp2_with fail
        refine (HO.out _ _ _ h2 _).mono ?_
        rintro e w2 ⟨rfl, rfl⟩
        go_wp2_with fail
        go_ret
        exact Did.mk (by rw [← Hr.out]; rfl) K1.2
      · go_enter Try.func60, Try.ntmps60
        go_wp2_with fail
        refine (HT.out _).mono ?_
        rintro e w1 ⟨rfl, b1⟩
        have K1 := K.out.next b1
        clear c0 c1 c2
        obtain ⟨c0, c1, c2⟩ := K1.gr (B := B) (g := g) (by simp)
        go_wp2_with fail
        refine (HI.out _ _ _ h1 _).mono ?_
        rintro e w2 ⟨rfl, rfl⟩
        go_wp2_with fail
        refine (HI.out _ _ _ h2 _).mono ?_
        rintro e w2 ⟨rfl, rfl⟩
        go_wp2_with fail
        refine (HO.out _ _ _ h3 _).mono ?_
        rintro e w2 ⟨rfl, rfl⟩
        go_wp2_with fail
        go_ret
        exact Did.mk (by rw [← Hr.out]; rfl) K1.2
end Go.Proofs.Yteldcaebbmaemaa

/- Contracts of the program's own functions of layer 9 (when), the small ones. -/
import Derived.Test.YteldcaebbmaemaaWhnP
namespace Go.Proofs.Yteldcaebbmaemaa
open Go.RowKit
open Whn (Gr Wh)

theorem p_in (n a b : Int) (h : a ≤ n ∧ n ≤ b) (w : World) : Calls Try.prog 53 #[.int .i64 n, .int .i64 a, .int .i64 b] w (fun e w' => e = .returned (.bool true) ∧ w = w') := by
  obtain ⟨h1, h2⟩ := h
  go_enter Try.func53, Try.ntmps53
  go_wp2_with fail
  go_ret
  exact ⟨rfl, rfl⟩
theorem p_out (n a b : Int) (h : n < a ∨ b < n) (w : World) : Calls Try.prog 53 #[.int .i64 n, .int .i64 a, .int .i64 b] w (fun e w' => e = .returned (.bool false) ∧ w = w') := by
  by_cases h1 : a ≤ n
  · have h2 := hid (show decide (n ≤ b) = false from decide_eq_false (by omega))
    clear h
    go_enter Try.func53, Try.ntmps53
    go_wp2_with fail
    go_ret
    exact ⟨congrArg (fun z => Ending.returned (Value.bool z)) h2.out, rfl⟩
  · clear h
    go_enter Try.func53, Try.ntmps53
    go_wp2_with fail
    go_ret
    exact ⟨rfl, rfl⟩
set_option maxHeartbeats 1000000 in
theorem p_tame (x : Wh) (w : World) : Calls Try.prog 67 #[wv x] w (Did (.bool (Whn.tame x)) w) := by
  have HI := hid (fun n a b h w => p_in n a b h w)
  have HO := hid (fun n a b h w => p_out n a b h w)
  obtain ⟨B, W, hB, hW, K, hb0⟩ := (Mem.nil w).one (wc x) 30
  obtain ⟨c0, c1, c2, c3⟩ := K.out.wh (B := B) (x := x) (by simp)
  by_cases hs : 0 ≤ x.s ∧ x.s ≤ 96
  · by_cases hl : 1 ≤ x.l ∧ x.l ≤ 96
    · have Hr := hid (show Whn.tame x = true by rw [Whn.tame_iff]; omega)
      go_enter Try.func67, Try.ntmps67
      go_wp2_with fail
      refine (HI.out _ _ _ hs _).mono ?_
      rintro e w1 ⟨rfl, rfl⟩
      go_wp2_with fail
      refine (HI.out _ _ _ hl _).mono ?_
      rintro e w1 ⟨rfl, rfl⟩
      go_wp2_with fail
      go_ret
      exact Did.mk (by rw [Hr.out]; rfl) K.out.2
    · have Hr := hid (show Whn.tame x = false by
        cases h : Whn.tame x with
        | false => rfl
        | true => have := (Whn.tame_iff x).1 h; omega)
      have hl' : x.l < 1 ∨ 96 < x.l := by omega
      clear hl
      go_enter Try.func67, Try.ntmps67
      go_wp2_with fail
      refine (HI.out _ _ _ hs _).mono ?_
      rintro e w1 ⟨rfl, rfl⟩
      go_wp2_with fail
      refine (HO.out _ _ _ hl' _).mono ?_
      rintro e w1 ⟨rfl, rfl⟩
      go_wp2_with fail
      go_ret
      exact Did.mk (by rw [Hr.out]; rfl) K.out.2
  · have Hr := hid (show Whn.tame x = false by
      cases h : Whn.tame x with
      | false => rfl
      | true => have := (Whn.tame_iff x).1 h; omega)
    have hs' : x.s < 0 ∨ 96 < x.s := by omega
    clear hs
    go_enter Try.func67, Try.ntmps67
    go_wp2_with fail
    refine (HO.out _ _ _ hs' _).mono ?_
    rintro e w1 ⟨rfl, rfl⟩
    go_wp2_with fail
    go_ret
    exact Did.mk (by rw [Hr.out]; rfl) K.out.2
/-- the weeks as they count -/
def wks (x : Wh) : Nat := if Whn.tame x then x.w else 0
set_option maxHeartbeats 1000000 in
theorem p_weeks (x : Wh) (w : World) : Calls Try.prog 65 #[wv x] w (Did (.int .u32 ((wks x : Nat) : Int)) w) := by
  have HT := hid (fun w => p_tame x w)
  obtain ⟨B, W, hB, hW, K, hb0⟩ := (Mem.nil w).one (wc x) 30
  obtain ⟨c0, c1, c2, c3⟩ := K.out.wh (B := B) (x := x) (by simp)
  cases hT : Whn.tame x with
  | false =>
    have Hr := hid (show wks x = 0 by unfold wks; rw [hT]; rfl)
    rw [hT] at HT
    clear hT
    go_enter Try.func65, Try.ntmps65
    go_wp2_with fail
    refine (HT.out _).mono ?_
    rintro e w1 ⟨rfl, b1⟩
    go_wp2_with fail
    go_ret
    exact Did.mk (by rw [Hr.out]; rfl) (K.out.next b1).2
  | true =>
    have Hr := hid (show wks x = x.w by unfold wks; rw [hT]; rfl)
    rw [hT] at HT
    clear hT
    go_enter Try.func65, Try.ntmps65
    go_wp2_with fail
    refine (HT.out _).mono ?_
    rintro e w1 ⟨rfl, b1⟩
    have K1 := K.out.next b1
    clear c0 c1 c2 c3
    obtain ⟨c0, c1, c2, c3⟩ := K1.wh (B := B) (x := x) (by simp)
    go_wp2_with fail
    go_ret
    exact Did.mk (by rw [Hr.out]; rfl) K1.2
set_option maxHeartbeats 1000000 in
theorem p_RightGrid (g : Gr) (w : World) : Calls Try.prog 40 #[gv g] w (Did (.bool (Whn.rgrid g)) w) := by
  have HI := hid (fun n a b h w => p_in n a b h w)
  have HO := hid (fun n a b h w => p_out n a b h w)
  obtain ⟨B, W, hB, hW, K, hb0⟩ := (Mem.nil w).one (gc g) 23
  obtain ⟨c0, c1, c2⟩ := K.out.gr (B := B) (g := g) (by simp)
  have hno : Whn.rgrid g = true ∨ Whn.rgrid g = false := by cases Whn.rgrid g <;> simp
  have hcs : (Whn.rgrid g = true ∧ (1 ≤ g.w ∧ g.w ≤ 20) ∧ (1 ≤ g.d ∧ g.d ≤ 7) ∧ (1 ≤ g.s ∧ g.s ≤ 96)) ∨ (Whn.rgrid g = false ∧ ((g.w < 1 ∨ 20 < g.w) ∨ ((1 ≤ g.w ∧ g.w ≤ 20) ∧ (g.d < 1 ∨ 7 < g.d)) ∨ ((1 ≤ g.w ∧ g.w ≤ 20) ∧ (1 ≤ g.d ∧ g.d ≤ 7) ∧ (g.s < 1 ∨ 96 < g.s)))) := by
    have h := Whn.rgrid_iff g
    rcases hno with h0 | h0
    · left
      have := h.1 h0
      exact ⟨h0, by omega⟩
    · right
      refine ⟨h0, ?_⟩
      rw [h0] at h
      have : ¬ (1 ≤ g.w ∧ g.w ≤ 20 ∧ 1 ≤ g.d ∧ g.d ≤ 7 ∧ 1 ≤ g.s ∧ g.s ≤ 96) := fun k => by have := h.2 k; cases this
      omega
  clear hno
  rcases hcs with ⟨hr, h1, h2, h3⟩ | ⟨hr, h1 | ⟨h1, h2⟩ | ⟨h1, h2, h3⟩⟩
  · have Hr := hid hr
    clear hr
    go_enter Try.func40, Try.ntmps40
    go_wp2_with fail
    refine (HI.out _ _ _ h1 _).mono ?_
    rintro e w1 ⟨rfl, rfl⟩
    go_wp2_with fail
    refine (HI.out _ _ _ h2 _).mono ?_
    rintro e w1 ⟨rfl, rfl⟩
    go_wp2_with fail
    refine (HI.out _ _ _ h3 _).mono ?_
    rintro e w1 ⟨rfl, rfl⟩
    go_wp2_with fail
    go_ret
    exact Did.mk (by rw [Hr.out]; rfl) K.out.2
  · have Hr := hid hr
    clear hr
    go_enter Try.func40, Try.ntmps40
    go_wp2_with fail
    refine (HO.out _ _ _ h1 _).mono ?_
    rintro e w1 ⟨rfl, rfl⟩
    go_wp2_with fail
    go_ret
    exact Did.mk (by rw [Hr.out]; rfl) K.out.2
  · have Hr := hid hr
    clear hr
    go_enter Try.func40, Try.ntmps40
    go_wp2_with fail
    refine (HI.out _ _ _ h1 _).mono ?_
    rintro e w1 ⟨rfl, rfl⟩
    go_wp2_with fail
    refine (HO.out _ _ _ h2 _).mono ?_
    rintro e w1 ⟨rfl, rfl⟩
    go_wp2_with fail
    go_ret
    exact Did.mk (by rw [Hr.out]; rfl) K.out.2
  · have Hr := hid hr
    clear hr
    go_enter Try.func40, Try.ntmps40
    go_wp2_with fail
    refine (HI.out _ _ _ h1 _).mono ?_
    rintro e w1 ⟨rfl, rfl⟩
    go_wp2_with fail
    refine (HI.out _ _ _ h2 _).mono ?_
    rintro e w1 ⟨rfl, rfl⟩
    go_wp2_with fail
    refine (HO.out _ _ _ h3 _).mono ?_
    rintro e w1 ⟨rfl, rfl⟩
    go_wp2_with fail
    go_ret
    exact Did.mk (by rw [Hr.out]; rfl) K.out.2
end Go.Proofs.Yteldcaebbmaemaa

/- Contracts of the program's own functions of layer 9 (when), the small ones. -/
import Derived.Test.YtfnjnkmdifigdaaDoorWhnP
namespace Go.Proofs.YtfnjnkmdifigdaaDoor
open Go.RowKit
open Whn (Gr Wh)

theorem p_in (n a b : Int) (h : a ≤ n ∧ n ≤ b) (w : World) : Calls Tryd.prog 47 #[.int .i64 n, .int .i64 a, .int .i64 b] w (fun e w' => e = .returned (.bool true) ∧ w = w') := by
  obtain ⟨h1, h2⟩ := h
  go_enter Tryd.func47, Tryd.ntmps47
  go_wp2_with fail
  go_ret
  exact ⟨rfl, rfl⟩
theorem p_out (n a b : Int) (h : n < a ∨ b < n) (w : World) : Calls Tryd.prog 47 #[.int .i64 n, .int .i64 a, .int .i64 b] w (fun e w' => e = .returned (.bool false) ∧ w = w') := by
  by_cases h1 : a ≤ n
  · have h2 := hid (show decide (n ≤ b) = false from decide_eq_false (by omega))
    clear h
    go_enter Tryd.func47, Tryd.ntmps47
    go_wp2_with fail
    go_ret
    exact ⟨congrArg (fun z => Ending.returned (Value.bool z)) h2.out, rfl⟩
  · clear h
    go_enter Tryd.func47, Tryd.ntmps47
    go_wp2_with fail
    go_ret
    exact ⟨rfl, rfl⟩
/-- the weeks as they count -/
def wks (x : Wh) : Nat := if Whn.tame x then x.w else 0
set_option maxHeartbeats 1000000 in
theorem p_RightGrid (g : Gr) (w : World) : Calls Tryd.prog 27 #[gv g] w (Did (.bool (Whn.rgrid g)) w) := by
  have HI := hid (fun n a b h w => p_in n a b h w)
  have HO := hid (fun n a b h w => p_out n a b h w)
  obtain ⟨B, W, hB, hW, K, hb0⟩ := (Mem.nil w).one (gc g) 23
  obtain ⟨c0, c1, c2⟩ := K.out.gr (B := B) (g := g) (by simp)
  have hno : Whn.rgrid g = true ∨ Whn.rgrid g = false := by cases Whn.rgrid g <;> simp
  have hcs : (Whn.rgrid g = true ∧ (1 ≤ g.w ∧ g.w ≤ 20) ∧ (1 ≤ g.d ∧ g.d ≤ 7) ∧ (1 ≤ g.s ∧ g.s ≤ 96)) ∨ (Whn.rgrid g = false ∧ ((g.w < 1 ∨ 20 < g.w) ∨ ((1 ≤ g.w ∧ g.w ≤ 20) ∧ (g.d < 1 ∨ 7 < g.d)) ∨ ((1 ≤ g.w ∧ g.w ≤ 20) ∧ (1 ≤ g.d ∧ g.d ≤ 7) ∧ (g.s < 1 ∨ 96 < g.s)))) := by
    have h := Whn.rgrid_iff g
    rcases hno with h0 | h0
    · left
      have := h.1 h0
      exact ⟨h0, by omega⟩
    · right
      refine ⟨h0, ?_⟩
      rw [h0] at h
      have : ¬ (1 ≤ g.w ∧ g.w ≤ 20 ∧ 1 ≤ g.d ∧ g.d ≤ 7 ∧ 1 ≤ g.s ∧ g.s ≤ 96) := fun k => by have := h.2 k; cases this
      omega
  clear hno
  rcases hcs with ⟨hr, h1, h2, h3⟩ | ⟨hr, h1 | ⟨h1, h2⟩ | ⟨h1, h2, h3⟩⟩
  · have Hr := hid hr
    clear hr
    go_enter Tryd.func27, Tryd.ntmps27
    go_wp2_with fail
    refine (HI.out _ _ _ h1 _).mono ?_
    rintro e w1 ⟨rfl, rfl⟩
    go_wp2_with fail
    refine (HI.out _ _ _ h2 _).mono ?_
    rintro e w1 ⟨rfl, rfl⟩
    go_wp2_with fail
    refine (HI.out _ _ _ h3 _).mono ?_
    rintro e w1 ⟨rfl, rfl⟩
    go_wp2_with fail
    go_ret
    exact Did.mk (by rw [Hr.out]; rfl) K.out.2
  · have Hr := hid hr
    clear hr
    go_enter Tryd.func27, Tryd.ntmps27
    go_wp2_with fail
    refine (HO.out _ _ _ h1 _).mono ?_
    rintro e w1 ⟨rfl, rfl⟩
    go_wp2_with fail
    go_ret
    exact Did.mk (by rw [Hr.out]; rfl) K.out.2
  · have Hr := hid hr
    clear hr
    go_enter Tryd.func27, Tryd.ntmps27
    go_wp2_with fail
    refine (HI.out _ _ _ h1 _).mono ?_
    rintro e w1 ⟨rfl, rfl⟩
    go_wp2_with fail
    refine (HO.out _ _ _ h2 _).mono ?_
    rintro e w1 ⟨rfl, rfl⟩
    go_wp2_with fail
    go_ret
    exact Did.mk (by rw [Hr.out]; rfl) K.out.2
  · have Hr := hid hr
    clear hr
    go_enter Tryd.func27, Tryd.ntmps27
    go_wp2_with fail
    refine (HI.out _ _ _ h1 _).mono ?_
    rintro e w1 ⟨rfl, rfl⟩
    go_wp2_with fail
    refine (HI.out _ _ _ h2 _).mono ?_
    rintro e w1 ⟨rfl, rfl⟩
    go_wp2_with fail
    refine (HO.out _ _ _ h3 _).mono ?_
    rintro e w1 ⟨rfl, rfl⟩
    go_wp2_with fail
    go_ret
    exact Did.mk (by rw [Hr.out]; rfl) K.out.2
end Go.Proofs.YtfnjnkmdifigdaaDoor

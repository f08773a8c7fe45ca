/- Contracts of the document's own answer for layer 9 (when): numbers of moments. -/
import Derived.Test.YteldcaebbmaemaaWhnR
namespace Go.Proofs.Yteldcaebbmaemaa
open Go.RowKit
open Whn (Gr Wh)

/-- the cells of a grid, of a time -/
abbrev gc (g : Gr) : List Value := [.int .i64 g.w, .int .i64 g.d, .int .i64 g.s]
abbrev wc (x : Wh) : List Value := [.int .u32 (x.w : Int), .int .u8 (x.d : Int), .int .i64 x.s, .int .i64 x.l]

theorem Mem.wh {w X : World} {l : Obs} (h : Mem w X l) {B : Nat} {x : Wh} (hm : (B, wc x, 30) ∈ l) : X.cell? ⟨B, 0, none⟩ = some (.int .u32 (x.w : Int)) ∧ X.cell? ⟨B, 1, none⟩ = some (.int .u8 (x.d : Int)) ∧ X.cell? ⟨B, 2, none⟩ = some (.int .i64 x.s) ∧ X.cell? ⟨B, 3, none⟩ = some (.int .i64 x.l) :=
  ⟨h.cell hm rfl, h.cell hm rfl, h.cell hm rfl, h.cell hm rfl⟩
theorem Mem.gr {w X : World} {l : Obs} (h : Mem w X l) {B : Nat} {g : Gr} (hm : (B, gc g, 23) ∈ l) : X.cell? ⟨B, 0, none⟩ = some (.int .i64 g.w) ∧ X.cell? ⟨B, 1, none⟩ = some (.int .i64 g.d) ∧ X.cell? ⟨B, 2, none⟩ = some (.int .i64 g.s) :=
  ⟨h.cell hm rfl, h.cell hm rfl, h.cell hm rfl⟩
theorem inG_no {g : Gr} {a b c : Int} (h : ¬ Whn.inG g a b c = true) (hg : Whn.rgrid g = true) : a < 0 ∨ (0 ≤ a ∧ g.w ≤ a) ∨ (0 ≤ a ∧ a < g.w ∧ b < 0) ∨ (0 ≤ a ∧ a < g.w ∧ 0 ≤ b ∧ g.d ≤ b) ∨ (0 ≤ a ∧ a < g.w ∧ 0 ≤ b ∧ b < g.d ∧ c < 0) ∨ (0 ≤ a ∧ a < g.w ∧ 0 ≤ b ∧ b < g.d ∧ 0 ≤ c ∧ g.s ≤ c) := by
  unfold Whn.inG at h
  rw [hg, Bool.true_and, decide_eq_true_iff] at h
  omega
theorem num_bounds {g : Gr} {a b c : Int} (h : Whn.inG g a b c = true) : (0 ≤ a * g.d ∧ a * g.d ≤ 140) ∧ (0 ≤ (a * g.d + b) * g.s ∧ (a * g.d + b) * g.s ≤ 13440) ∧ 0 ≤ b ∧ b ≤ 7 ∧ 0 ≤ c ∧ c ≤ 96 := by
  have ha := Whn.all_le g
  have hn := Whn.num_lt h
  have h0 := h
  unfold Whn.inG at h
  rw [Bool.and_eq_true, decide_eq_true_iff] at h
  obtain ⟨hg, h1, h2, h3, h4, h5, h6⟩ := h
  obtain ⟨g1, g2, g3, g4, g5, g6⟩ := (Whn.rgrid_iff g).1 hg
  have p1 : 0 ≤ a * g.d := Int.mul_nonneg h1 (by omega)
  have p2 : a * g.d ≤ 20 * 7 := Int.mul_le_mul (by omega) g4 (by omega) (by omega)
  have p3 : 0 ≤ (a * g.d + b) * g.s := Int.mul_nonneg (by omega) (by omega)
  unfold Whn.num at hn
  exact ⟨⟨p1, by omega⟩, ⟨p3, by omega⟩, h3, by omega, h5, by omega⟩
/-- what Of hands out -/
def ofV (g : Gr) (m : Int) : Value := if Whn.isM g m then .tuple #[.int .i64 (Whn.wk g m), .int .i64 (Whn.dy g m), .int .i64 (Whn.sl g m), .bool true] else .tuple #[.int .i64 0, .int .i64 0, .int .i64 0, .bool false]
set_option maxHeartbeats 2000000 in
theorem r_Of (g : Gr) (m : Int) (w : World) : Calls Try.prog 38 #[gv g, .int .i64 m] w (Did (ofV g m) w) := by
  have HA := hid (fun w => r_All g w)
  have ha := Whn.all_le g
  obtain ⟨B, W, hB, hW, K, hb0⟩ := (Mem.nil w).one (gc g) 23
  have c0 := K.out.cell (b := B) (cs := gc g) (t := 23) (by simp) (k := 0) rfl
  have c1 := K.out.cell (b := B) (cs := gc g) (t := 23) (by simp) (k := 1) rfl
  have c2 := K.out.cell (b := B) (cs := gc g) (t := 23) (by simp) (k := 2) rfl
  by_cases hm : Whn.isM g m = true
  · obtain ⟨hin, _⟩ := Whn.num_back hm
    have Hr := hid (show ofV g m = .tuple #[.int .i64 (m / g.s / g.d), .int .i64 (m / g.s % g.d), .int .i64 (m % g.s), .bool true] by unfold ofV; rw [if_pos hm]; rfl)
    unfold Whn.inG at hin
    rw [Bool.and_eq_true, decide_eq_true_iff] at hin
    obtain ⟨g1, g2, g3, g4, g5, g6⟩ := (Whn.rgrid_iff g).1 hin.1
    have hdw : wrap64 ((m / g.s).tdiv g.d) = m / g.s / g.d := by
      have hw1 : 0 ≤ m / g.s / g.d := hin.2.1
      have hw2 : m / g.s / g.d < g.w := hin.2.2.1
      unfold Whn.isM at hm
      rw [decide_eq_true_iff] at hm
      rw [Int.tdiv_eq_ediv_of_nonneg (Int.ediv_nonneg hm.1 (by omega))]
      unfold wrap64
      omega
    unfold Whn.isM at hm
    rw [decide_eq_true_iff] at hm
    obtain ⟨m1, m2⟩ := hm
    have d1 : 0 ≤ m / g.s := Int.ediv_nonneg m1 (by omega)
    have s1 : g.s ≠ 0 := by omega
    have s2 : g.d ≠ 0 := by omega
    clear hin
    generalize Whn.all g = A at *
    go_enter Try.func38, Try.ntmps38
    go_wp2_with fail
    refine (HA.out _).mono ?_
    rintro e w1 ⟨rfl, b1⟩
    have K1 := K.out.next b1
    clear c0 c1 c2
    have c0 := K1.cell (b := B) (cs := gc g) (t := 23) (by simp) (k := 0) rfl
    have c1 := K1.cell (b := B) (cs := gc g) (t := 23) (by simp) (k := 1) rfl
    have c2 := K1.cell (b := B) (cs := gc g) (t := 23) (by simp) (k := 2) rfl
    go_wp2_with fail
    go_quiet (fail)
    go_wp2_with fail
    exact bodyPost_ret (v := .tuple #[.int .i64 (m / g.s / g.d), .int .i64 (m / g.s % g.d), .int .i64 (m % g.s), .bool true]) (by simp [results, Try.results38, go_sem, hdw]) rfl (Did.mk Hr.out.symm (below_drewN K1.2 _))
  · have Hr := hid (show ofV g m = .tuple #[.int .i64 0, .int .i64 0, .int .i64 0, .bool false] by unfold ofV; rw [if_neg hm])
    unfold Whn.isM at hm
    rw [decide_eq_true_iff] at hm
    have hno : m < 0 ∨ (0 ≤ m ∧ Whn.all g ≤ m) := by omega
    generalize Whn.all g = A at *
    rcases hno with h1 | ⟨h1, h2⟩
    · clear hm
      go_enter Try.func38, Try.ntmps38
      go_wp2_with fail
      exact bodyPost_ret (v := .tuple #[.int .i64 0, .int .i64 0, .int .i64 0, .bool false]) (by simp [results, Try.results38, go_sem]) rfl (Did.mk Hr.out.symm K.out.2)
    · clear hm
      go_enter Try.func38, Try.ntmps38
      go_wp2_with fail
      refine (HA.out _).mono ?_
      rintro e w1 ⟨rfl, b1⟩
      go_wp2_with fail
      exact bodyPost_ret (v := .tuple #[.int .i64 0, .int .i64 0, .int .i64 0, .bool false]) (by simp [results, Try.results38, go_sem]) rfl (Did.mk Hr.out.symm (K.out.next b1).2)
end Go.Proofs.Yteldcaebbmaemaa

/- The document's own answers for layer 13 (class): cost, Seat, Whole, Cost, Spot. -/
import Derived.Test.YtcnpfchopjopeaaClsA
import Derived.Handy
namespace Go.Proofs.Ytcnpfchopjopeaa
open Go.RowKit
open Whn (Gr Wh)

structure Se where
  t : Int
  p : Int
abbrev sv (s : Se) : Value := .agg #[.int .i64 s.t, .int .i64 s.p]
abbrev sc (s : Se) : List Value := [.int .i64 s.t, .int .i64 s.p]
def Sok (s : Se) : Prop := I64 s.t ∧ I64 s.p
theorem Mem.se {w X : World} {l : Obs} (h : Mem w X l) {B : Nat} {s : Se} {t : TypeId} (hm : (B, sc s, t) ∈ l) : X.cell? ⟨B, 0, none⟩ = some (.int .i64 s.t) ∧ X.cell? ⟨B, 1, none⟩ = some (.int .i64 s.p) := ⟨h.cell hm rfl, h.cell hm rfl⟩
def seatB (x : Cl) (s : Se) : Bool := decide (-1 ≤ s.t) && decide (s.t < (x.t.length : Nat)) && decide (-1 ≤ s.p) && decide (s.p < (x.l.length : Nat))
def wholeB (x : Cl) (s : Se) : Bool := seatB x s && (s.t != -1) && ((s.p != -1) || ((x.l.length : Int) == 0))
def costB (n : Int) : Bool := decide (0 ≤ n) && decide (n ≤ 1000)
theorem seatB_iff (x : Cl) (s : Se) : seatB x s = true ↔ -1 ≤ s.t ∧ s.t < (x.t.length : Nat) ∧ -1 ≤ s.p ∧ s.p < (x.l.length : Nat) := by
  unfold seatB
  simp only [Bool.and_eq_true, decide_eq_true_iff, and_assoc]
set_option maxRecDepth 4000 in
theorem r_cost (n : Int) (w : World) : Calls Try.prog 54 #[.int .i64 n] w (fun e w' => e = .returned (.bool (costB n)) ∧ w = w') := by
  have Hr := hid (show costB n = (decide (0 ≤ n) && decide (n ≤ 1000)) from rfl)
  by_cases h1 : 0 ≤ n
  · rw [decide_eq_true h1, Bool.true_and] at Hr
    go_enter Try.func54, Try.ntmps54
    go_wp2_with fail
    go_ret
    exact ⟨by rw [Hr.out]; rfl, rfl⟩
  · rw [decide_eq_false h1, Bool.false_and] at Hr
    go_enter Try.func54, Try.ntmps54
    go_wp2_with fail
    go_ret
    exact ⟨by rw [Hr.out]; rfl, rfl⟩
set_option maxRecDepth 8000 in
set_option maxHeartbeats 2000000 in
theorem r_Seat (x : Cl) (r : Cw) (s : Se) (w : World) : Calls Try.prog 21 #[cv x r, sv s] w (Did (.bool (seatB x s)) w) := by
  have Hr := hid (show seatB x s = (decide (-1 ≤ s.t) && decide (s.t < (x.t.length : Nat)) && decide (-1 ≤ s.p) && decide (s.p < (x.l.length : Nat))) from rfl)
  generalize seatB x s = q at *
  obtain ⟨B, W, hB, hW, K, z0⟩ := (Mem.nil w).one (ccl x r) 30
  obtain ⟨D, V, hD, hV, K1, z1⟩ := K.out.one (sc s) 41
  clear K z0 z1
  obtain ⟨_, _, _, _, e4, e5, _⟩ := K1.out.cl (B := B) (x := x) (r := r) (t := 30) (by simp)
  obtain ⟨d0, d1⟩ := K1.out.se (B := D) (s := s) (t := 41) (by simp)
  by_cases h1 : -1 ≤ s.t
  · by_cases h2 : s.t < (x.t.length : Nat)
    · by_cases h3 : -1 ≤ s.p
      · by_cases h4 : s.p < (x.l.length : Nat)
        · rw [decide_eq_true h1, decide_eq_true h2, decide_eq_true h3, decide_eq_true h4] at Hr
          go_enter Try.func21, Try.ntmps21
          go_wp2_with fail
          go_ret
          exact Did.mk (by rw [Hr.out]; rfl) K1.out.2
        · rw [decide_eq_true h1, decide_eq_true h2, decide_eq_true h3, decide_eq_false h4] at Hr
          go_enter Try.func21, Try.ntmps21
          go_wp2_with fail
          go_ret
          exact Did.mk (by rw [Hr.out]; rfl) K1.out.2
      · rw [decide_eq_true h1, decide_eq_true h2, decide_eq_false h3] at Hr
        go_enter Try.func21, Try.ntmps21
        go_wp2_with fail
        go_ret
        exact Did.mk (by rw [Hr.out]; rfl) K1.out.2
    · rw [decide_eq_true h1, decide_eq_false h2] at Hr
      go_enter Try.func21, Try.ntmps21
      go_wp2_with fail
      go_ret
      exact Did.mk (by rw [Hr.out]; rfl) K1.out.2
  · rw [decide_eq_false h1] at Hr
    go_enter Try.func21, Try.ntmps21
    go_wp2_with fail
    go_ret
    exact Did.mk (by rw [Hr.out]; rfl) K1.out.2
set_option maxRecDepth 8000 in
set_option maxHeartbeats 2000000 in
theorem r_Whole (x : Cl) (r : Cw) (s : Se) (w : World) : Calls Try.prog 23 #[cv x r, sv s] w (Did (.bool (wholeB x s)) w) := by
  have HS := hid (fun X => r_Seat x r s X)
  have Hr := hid (show wholeB x s = (seatB x s && (s.t != -1) && ((s.p != -1) || ((x.l.length : Int) == 0))) from rfl)
  generalize wholeB x s = q at *
  generalize seatB x s = se at *
  obtain ⟨B, W, hB, hW, K, z0⟩ := (Mem.nil w).one (ccl x r) 30
  obtain ⟨D, V, hD, hV, K1, z1⟩ := K.out.one (sc s) 41
  clear K z0 z1
  obtain ⟨e0, e1, e2, e3, e4, e5, e6⟩ := K1.out.cl (B := B) (x := x) (r := r) (t := 30) (by simp)
  obtain ⟨d0, d1⟩ := K1.out.se (B := D) (s := s) (t := 41) (by simp)
  go_enter Try.func23, Try.ntmps23
  go_wp2_with fail
  refine (HS.out _).mono ?_
  rintro e Y1 ⟨rfl, b1⟩
  have K2 := hid (K1.out.next b1)
  clear e0 e1 e2 e3 e4 e5 e6 d0 d1 b1 K1
  obtain ⟨_, _, _, _, e4, e5, _⟩ := K2.out.cl (B := B) (x := x) (r := r) (t := 30) (by simp)
  obtain ⟨d0, d1⟩ := K2.out.se (B := D) (s := s) (t := 41) (by simp)
  cases se with
  | false =>
    go_wp2_with fail
    go_ret
    exact Did.mk (by rw [Hr.out]; rfl) K2.out.2
  | true =>
    cases h1 : s.t != -1 with
    | false =>
      rw [h1] at Hr
      go_wp2_with fail
      go_ret
      exact Did.mk (by rw [Hr.out]; rfl) K2.out.2
    | true =>
      rw [h1] at Hr
      cases h2 : s.p != -1 with
      | true =>
        rw [h2] at Hr
        go_wp2_with fail
        go_ret
        exact Did.mk (by rw [Hr.out]; rfl) K2.out.2
      | false =>
        rw [h2] at Hr
        go_wp2_with fail
        go_ret
        exact Did.mk (by rw [Hr.out]; rfl) K2.out.2
def costT (x : Cl) (s : Se) : Int := if seatB x s && decide (0 ≤ s.t) then (x.t.getD s.t.toNat ⟨⟨0, 0, 0, 0⟩, 0⟩).c else 0
def costP (x : Cl) (s : Se) : Int := if seatB x s && decide (0 ≤ s.p) then (x.l.getD s.p.toNat ⟨0, 0⟩).c else 0
/-- the cells of a time in a class's row -/
theorem tm_cell {w : World} {B : Nat} {A : Option Addr} {l : List Tm} (h : Es enT w B A l) {i : Int} (h0 : 0 ≤ i) (h1 : i < (l.length : Nat)) :
    ∃ ad k y, i = ((k : Nat) : Int) ∧ A = some ad ∧ Hid (l.getD i.toNat ⟨⟨0, 0, 0, 0⟩, 0⟩ = y) ∧ Hid (l[k]? = some y) ∧ k < l.length ∧
      w.cell? (ad.add (k * 5)) = some (.int .u32 (y.w.w : Int)) ∧ w.cell? ⟨(ad.add (k * 5)).block, (ad.add (k * 5)).off + 1, none⟩ = some (.int .u8 (y.w.d : Int)) ∧ w.cell? ⟨(ad.add (k * 5)).block, (ad.add (k * 5)).off + 2, none⟩ = some (.int .i64 y.w.s) ∧
      w.cell? ⟨(ad.add (k * 5)).block, (ad.add (k * 5)).off + 3, none⟩ = some (.int .i64 y.w.l) ∧ w.cell? ⟨(ad.add (k * 5)).block, (ad.add (k * 5)).off + 4, none⟩ = some (.int .i64 y.c) := by
  obtain ⟨k, rfl⟩ := Int.eq_ofNat_of_zero_le h0
  have hk : k < l.length := by omega
  obtain ⟨ad, y, hA, _, hy, _, hc⟩ := Es.get enT_len (by decide) h hk
  have c0 := hc 0 _ rfl
  have c1 := hc 1 _ rfl
  have c2 := hc 2 _ rfl
  have c3 := hc 3 _ rfl
  have c4 := hc 4 _ rfl
  rw [Nat.add_zero] at c0
  rw [add_add _ _ _ (by omega)] at c1 c2 c3 c4
  exact ⟨ad, k, y, rfl, hA, by rw [Int.toNat_natCast, List.getD_eq_getElem?_getD, hy.out]; exact hid rfl, hy, hk, c0, c1, c2, c3, c4⟩
theorem pl_cell {w : World} {B : Nat} {A : Option Addr} {l : List Pl} (h : Es enP w B A l) {i : Int} (h0 : 0 ≤ i) (h1 : i < (l.length : Nat)) :
    ∃ ad k y, i = ((k : Nat) : Int) ∧ A = some ad ∧ Hid (l.getD i.toNat ⟨0, 0⟩ = y) ∧ Hid (l[k]? = some y) ∧ k < l.length ∧
      w.cell? (ad.add (k * 2)) = some (.int .i64 y.r) ∧ w.cell? ⟨(ad.add (k * 2)).block, (ad.add (k * 2)).off + 1, none⟩ = some (.int .i64 y.c) := by
  obtain ⟨k, rfl⟩ := Int.eq_ofNat_of_zero_le h0
  have hk : k < l.length := by omega
  obtain ⟨ad, y, hA, _, hy, _, hc⟩ := Es.get enP_len (by decide) h hk
  have c0 := hc 0 _ rfl
  have c1 := hc 1 _ rfl
  rw [Nat.add_zero] at c0
  rw [add_add _ _ _ (by omega)] at c1
  exact ⟨ad, k, y, rfl, hA, by rw [Int.toNat_natCast, List.getD_eq_getElem?_getD, hy.out]; exact hid rfl, hy, hk, c0, c1⟩
end Go.Proofs.Ytcnpfchopjopeaa

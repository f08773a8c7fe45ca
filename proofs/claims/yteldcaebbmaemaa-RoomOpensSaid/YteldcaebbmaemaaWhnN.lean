/- Contracts of the document's own answer for layer 9 (when): Right, Moments. -/
import Derived.Test.YteldcaebbmaemaaWhnU
namespace Go.Proofs.Yteldcaebbmaemaa
open Go.RowKit
open Whn (Gr Wh)

/-- what Right asks of a time ahead of its bits -/
def pre (g : Gr) (x : Wh) : Bool := Whn.rgrid g && decide (x.w ≠ 0 ∧ x.d ≠ 0 ∧ 0 ≤ x.s ∧ 1 ≤ x.l ∧ x.s + x.l ≤ g.s)
theorem lt_of_bits {n k m : Nat} (hn : n < 2 ^ m) (h : ∀ j, k ≤ j → j < m → n.testBit j = false) : n < 2 ^ k := by
  refine Nat.lt_pow_two_of_testBit n fun j hj => ?_
  rcases Nat.lt_or_ge j m with h1 | h1
  · exact h j hj h1
  · exact Nat.testBit_lt_two_pow (Nat.lt_of_lt_of_le hn (Nat.pow_le_pow_right (by decide) h1))
theorem not_lt_of_bit {n k j : Nat} (hj : k ≤ j) (h : n.testBit j = true) : ¬ n < 2 ^ k := fun hn => by
  have := Whn.bit_lt hn h
  omega
theorem right_of (g : Gr) (x : Wh) (h : pre g x = true) : Whn.right g x = decide (x.w < 2 ^ g.w.toNat ∧ x.d < 2 ^ g.d.toNat) := by
  unfold pre at h
  rw [Bool.and_eq_true, decide_eq_true_iff] at h
  obtain ⟨h0, h1, h2, h3, h4, h5⟩ := h
  rw [Bool.eq_iff_iff, Whn.right_iff, decide_eq_true_iff]
  exact ⟨fun h => h.2.2.2.2.2.2, fun h => ⟨h0, h1, h2, h3, h4, h5, h⟩⟩
theorem right_not (g : Gr) (x : Wh) (h : pre g x = false) : Whn.right g x = false := by
  cases hr : Whn.right g x with
  | false => rfl
  | true =>
    obtain ⟨h0, h1, h2, h3, h4, h5, _⟩ := (Whn.right_iff g x).1 hr
    unfold pre at h
    rw [h0, Bool.true_and, decide_eq_false_iff_not] at h
    exact absurd ⟨h1, h2, h3, h4, h5⟩ h
set_option maxRecDepth 20000 in
set_option maxHeartbeats 4000000 in
theorem r_Right (g : Gr) (x : Wh) (hx : Wok x) (w : World) : Calls Try.prog 33 #[gv g, wv x] w (Did (.bool (Whn.right g x)) w) := by
  obtain ⟨hx1, hx2, hx3, hx4⟩ := hx
  have HT := hid (fun w => r_RightGrid g w)
  have HB := hid (fun (n : Nat) (hn : n < 4294967296) (i : Nat) (hi : i < 64) w => r_bit n hn i hi w)
  obtain ⟨A, W, hA, hW, K, hb0⟩ := (Mem.nil w).one (gc g) 23
  obtain ⟨B, V, hB, hV, K1, hb1⟩ := K.out.one (wc x) 30
  obtain ⟨g0, g1, g2⟩ := K1.out.gr (B := A) (g := g) (by simp)
  obtain ⟨c0, c1, c2, c3⟩ := K1.out.wh (B := B) (x := x) (by simp)
  clear K hb0 hb1
  cases hT : Whn.rgrid g with
  | false =>
    have Hr := hid (show Whn.right g x = false by unfold Whn.right; rw [hT]; rfl)
    rw [hT] at HT
    clear hT HB
    go_enter Try.func33, Try.ntmps33
    go_wp2_with fail
    refine (HT.out _).mono ?_
    rintro e w1 ⟨rfl, b1⟩
    go_wp2_with fail
    go_ret
    exact Did.mk (by rw [Hr.out]; rfl) (K1.out.next b1).2
  | true =>
    obtain ⟨q1, q2, q3, q4, q5, q6⟩ := (Whn.rgrid_iff g).1 hT
    rw [hT] at HT
    by_cases hpre : pre g x = true
    · have Hr := hid (right_of g x hpre)
      unfold pre at hpre
      rw [hT, Bool.true_and, decide_eq_true_iff] at hpre
      obtain ⟨p1, p2, p3, p4, p5⟩ := hpre
      have p1' : ((x.w : Int) == 0) = false := by rw [beq_eq_false_iff_ne]; omega
      have p2' : ((x.d : Int) == 0) = false := by rw [beq_eq_false_iff_ne]; omega
      have p6 : x.s ≤ g.s := by omega
      have p7 : x.l ≤ g.s - x.s := by omega
      go_enter Try.func33, Try.ntmps33
      go_wp2_with fail
      refine (HT.out _).mono ?_
      rintro e w1 ⟨rfl, b1⟩
      have K2 := K1.out.next b1
      clear g0 g1 g2 c0 c1 c2 c3
      obtain ⟨g0, g1, g2⟩ := K2.gr (B := A) (g := g) (by simp)
      obtain ⟨c0, c1, c2, c3⟩ := K2.wh (B := B) (x := x) (by simp)
      go_wp2_with fail
      have hw1 := Int.toNat_of_nonneg (show 0 ≤ g.w by omega)
      have hd1 := Int.toNat_of_nonneg (show 0 ≤ g.d by omega)
      have hw2 : g.w.toNat ≤ 20 := by omega
      have hd2 : g.d.toNat ≤ 7 := by omega
      obtain ⟨gw, hgw⟩ : ∃ gw, g.w.toNat = gw := ⟨_, rfl⟩
      obtain ⟨gd, hgd⟩ : ∃ gd, g.d.toNat = gd := ⟨_, rfl⟩
      rw [hgw] at hw1 hw2 Hr
      rw [hgd] at hd1 hd2 Hr
      have Hw1 := hid hw1
      have Hd1 := hid hd1
      have u1 : IntKind.u32.wrap (x.d : Int) = (x.d : Int) := by rw [IntKind.wrap_u32]; omega
      clear hw1 hd1 hgw hgd
      go_loop [5] (fun iv => ∃ i : Nat, iv = .int .i64 i ∧ gw ≤ i ∧ i ≤ 32 ∧ Hid (∀ j, gw ≤ j → j < i → x.w.testBit j = false)) (fun iv => 32 - (intOf iv).toNat)
      case atStart => exact ⟨gw, by rw [Hw1.out], Nat.le_refl _, by omega, hid (fun j h1 h2 => absurd h2 (by omega))⟩
      case round =>
        obtain ⟨i, rfl, hi1, hi2, Hi⟩ := hrel
        by_cases hlt : i < 32
        · have Bw := hid (fun w => HB.out x.w hx1 i (by omega) w)
          cases hb : x.w.testBit i with
          | true =>
            have Hf := hid (show Whn.right g x = false by
              rw [Hr.out, decide_eq_false_iff_not]
              exact fun h => not_lt_of_bit hi1 hb h.1)
            rw [hb] at Bw
            clear hb HB Hi
            go_wp2_with fail
            refine (Bw.out _).mono ?_
            rintro e w' ⟨rfl, rfl⟩
            go_wp2_with fail
            go_ret
            exact Did.mk (by rw [Hf.out]; rfl) K2.2
          | false =>
            have Hn := hid (show ∀ j, gw ≤ j → j < i + 1 → x.w.testBit j = false from fun j h1 h2 => by
              rcases Nat.lt_or_ge j i with h | h
              · exact Hi.out j h1 h
              · obtain rfl : j = i := by omega
                exact hb)
            rw [hb] at Bw
            clear hb HB Hi
            go_wp2_with fail
            refine (Bw.out _).mono ?_
            rintro e w' ⟨rfl, rfl⟩
            go_wp2_with fail
            go_round
            case rel => exact ⟨i + 1, by go_num, by omega, by omega, Hn⟩
            case measure => simp [intOf]; omega
        · obtain rfl : i = 32 := by omega
          have hxw : x.w < 2 ^ gw := lt_of_bits (m := 32) hx1 (fun j h1 h2 => Hi.out j h1 h2)
          have Hxw := hid hxw
          clear Hi hxw
          go_wp2_with fail
          go_loop [6] (fun iv => ∃ i : Nat, iv = .int .i64 i ∧ gd ≤ i ∧ i ≤ 8 ∧ Hid (∀ j, gd ≤ j → j < i → x.d.testBit j = false)) (fun iv => 8 - (intOf iv).toNat)
          case atStart => exact ⟨gd, by rw [Hd1.out], Nat.le_refl _, by omega, hid (fun j h1 h2 => absurd h2 (by omega))⟩
          case round =>
            obtain ⟨i, rfl, hi1, hi2, Hi⟩ := hrel
            by_cases hlt : i < 8
            · have Bd := hid (fun w => HB.out x.d (by omega) i (by omega) w)
              cases hb : x.d.testBit i with
              | true =>
                have Hf := hid (show Whn.right g x = false by
                  rw [Hr.out, decide_eq_false_iff_not]
                  exact fun h => not_lt_of_bit hi1 hb h.2)
                rw [hb] at Bd
                clear hb HB Hi
                go_wp2_with fail
                refine (Bd.out _).mono ?_
                rintro e w' ⟨rfl, rfl⟩
                go_wp2_with fail
                go_ret
                exact Did.mk (by rw [Hf.out]; rfl) K2.2
              | false =>
                have Hn := hid (show ∀ j, gd ≤ j → j < i + 1 → x.d.testBit j = false from fun j h1 h2 => by
                  rcases Nat.lt_or_ge j i with h | h
                  · exact Hi.out j h1 h
                  · obtain rfl : j = i := by omega
                    exact hb)
                rw [hb] at Bd
                clear hb HB Hi
                go_wp2_with fail
                refine (Bd.out _).mono ?_
                rintro e w' ⟨rfl, rfl⟩
                go_wp2_with fail
                go_round
                case rel => exact ⟨i + 1, by go_num, by omega, by omega, Hn⟩
                case measure => simp [intOf]; omega
            · obtain rfl : i = 8 := by omega
              have Hf := hid (show Whn.right g x = true by
                rw [Hr.out, decide_eq_true_iff]
                exact ⟨Hxw.out, lt_of_bits (m := 8) hx2 (fun j h1 h2 => Hi.out j h1 h2)⟩)
              clear Hi HB
              go_wp2_with fail
              go_ret
              exact Did.mk (by rw [Hf.out]; rfl) K2.2
    · have Hf := hid (right_not g x (by cases h : pre g x with | false => rfl | true => exact absurd h hpre))
      have hno : x.w = 0 ∨ (x.w ≠ 0 ∧ x.d = 0) ∨ (x.w ≠ 0 ∧ x.d ≠ 0 ∧ x.s < 0) ∨ (x.w ≠ 0 ∧ x.d ≠ 0 ∧ 0 ≤ x.s ∧ x.l < 1) ∨ (x.w ≠ 0 ∧ x.d ≠ 0 ∧ 0 ≤ x.s ∧ 1 ≤ x.l ∧ g.s < x.s) ∨ (x.w ≠ 0 ∧ x.d ≠ 0 ∧ 0 ≤ x.s ∧ 1 ≤ x.l ∧ x.s ≤ g.s ∧ g.s - x.s < x.l) := by
        unfold pre at hpre
        rw [hT, Bool.true_and, decide_eq_true_iff] at hpre
        omega
      clear hpre hT HB
      rcases hno with h1 | ⟨h1, h2⟩ | ⟨h1, h2, h3⟩ | ⟨h1, h2, h3, h4⟩ | ⟨h1, h2, h3, h4, h5⟩ | ⟨h1, h2, h3, h4, h5, h6⟩
      all_goals
        first
          | (have p1 : ((x.w : Int) == 0) = true := by rw [beq_iff_eq]; omega
             clear h1)
          | (have p1 : ((x.w : Int) == 0) = false := by rw [beq_eq_false_iff_ne]; omega
             first
               | (have p2 : ((x.d : Int) == 0) = true := by rw [beq_iff_eq]; omega
                  clear h1 h2)
               | (have p2 : ((x.d : Int) == 0) = false := by rw [beq_eq_false_iff_ne]; omega))
        go_enter Try.func33, Try.ntmps33
        go_wp2_with fail
        refine (HT.out _).mono ?_
        rintro e w1 ⟨rfl, b1⟩
        have K2 := K1.out.next b1
        clear g0 g1 g2 c0 c1 c2 c3
        obtain ⟨g0, g1, g2⟩ := K2.gr (B := A) (g := g) (by simp)
        obtain ⟨c0, c1, c2, c3⟩ := K2.wh (B := B) (x := x) (by simp)
        go_wp2_with fail
        go_ret
        exact Did.mk (by rw [Hf.out]; rfl) K2.2
end Go.Proofs.Yteldcaebbmaemaa

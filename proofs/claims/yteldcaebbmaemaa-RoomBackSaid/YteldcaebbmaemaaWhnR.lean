/- Contracts of the document's own answer for layer 9 (when): what computes without loops. -/
import Derived.Test.YteldcaebbmaemaaMem
import Derived.Test.YteldcaebbmaemaaWhnM
namespace Go.Proofs.Yteldcaebbmaemaa
open Go.RowKit
open Whn (Gr Wh)

abbrev gv (g : Gr) : Value := .agg #[.int .i64 g.w, .int .i64 g.d, .int .i64 g.s]
abbrev wv (x : Wh) : Value := .agg #[.int .u32 (x.w : Int), .int .u8 (x.d : Int), .int .i64 x.s, .int .i64 x.l]
def Gok (g : Gr) : Prop := I64 g.w ∧ I64 g.d ∧ I64 g.s
def Wok (x : Wh) : Prop := x.w < 4294967296 ∧ x.d < 256 ∧ I64 x.s ∧ I64 x.l

theorem did_bool {a b : Bool} {w w' : World} (h : (a = true) ↔ (b = true)) (hb : Below w.heap.size w w') : Did (.bool b) w (.returned (.bool a)) w' := Did.mk (congrArg Value.bool (Bool.eq_iff_iff.2 h)) hb

set_option maxHeartbeats 1000000 in
theorem r_Tame (x : Wh) (w : World) : Calls Try.prog 52 #[wv x] w (Did (.bool (Whn.tame x)) w) := by
  go_enter Try.func52, Try.ntmps52
  go_wp2_with fail
  all_goals
    go_ret
    refine did_bool ?_ (below_alloc w _)
    rw [Whn.tame_iff]
    simp only [Bool.false_eq_true, false_iff, decide_eq_true_eq]
    omega
set_option maxHeartbeats 1000000 in
theorem r_RightGrid (g : Gr) (w : World) : Calls Try.prog 35 #[gv g] w (Did (.bool (Whn.rgrid g)) w) := by
  go_enter Try.func35, Try.ntmps35
  go_wp2_with fail
  all_goals
    go_ret
    refine did_bool ?_ (below_alloc w _)
    rw [Whn.rgrid_iff]
    simp only [Bool.false_eq_true, false_iff, decide_eq_true_eq]
    omega
theorem bit_eq (n i : Nat) (hn : n < 4294967296) : (((n : Int) / 2 ^ min i 32).tmod 2 == 1) = n.testBit i := by
  have h1 : ((n : Int) / 2 ^ min i 32).tmod 2 = ((n / 2 ^ min i 32 % 2 : Nat) : Int) := by
    rw [Int.tmod_eq_emod_of_nonneg (Int.ediv_nonneg (by omega) (Int.pow_nonneg (by decide)))]
    rw [Int.natCast_emod, Int.natCast_ediv, Int.natCast_pow]
    rfl
  rw [h1, Nat.testBit_eq_decide_div_mod_eq, Bool.eq_iff_iff, beq_iff_eq, decide_eq_true_iff]
  rcases Nat.lt_or_ge i 32 with h | h
  · rw [Nat.min_eq_left (by omega)]
    omega
  · rw [Nat.min_eq_right h]
    have e1 : n / 2 ^ 32 = 0 := Nat.div_eq_of_lt (by omega)
    have e2 : n / 2 ^ i = 0 := Nat.div_eq_of_lt (Nat.lt_of_lt_of_le (show n < 2 ^ 32 by omega) (Nat.pow_le_pow_right (by decide) h))
    rw [e1, e2]
    omega
theorem r_bit (n : Nat) (hn : n < 4294967296) (i : Nat) (hi : i < 64) (w : World) : Calls Try.prog 51 #[.int .u32 (n : Int), .int .i64 (i : Int)] w (fun e w' => e = .returned (.bool (n.testBit i)) ∧ w = w') := by
  have Hb := hid (bit_eq n i hn)
  go_enter Try.func51, Try.ntmps51
  go_wp2_with fail
  go_ret
  exact ⟨congrArg (fun b => Ending.returned (Value.bool b)) Hb.out, rfl⟩
theorem rq_bit {n : Nat} (hn : n < 4294967296) {i : Nat} (hi : i < 64) {x y : Int} (hx : x = n) (hy : y = i) (w : World) : Calls Try.prog 51 #[.int .u32 x, .int .i64 y] w (fun e w' => e = .returned (.bool (n.testBit i)) ∧ w = w') := by
  subst hx; subst hy; exact r_bit n hn i hi w
set_option maxHeartbeats 2000000 in
theorem r_On (x : Wh) (hx : Wok x) (a b c : Int) (w : World) : Calls Try.prog 39 #[wv x, .int .i64 a, .int .i64 b, .int .i64 c] w (Did (.bool (Whn.on x a b c)) w) := by
  obtain ⟨hx1, hx2, hx3, hx4⟩ := hx
  have HT := hid (fun w => r_Tame x w)
  have Ho := hid (Whn.on_iff x a b c)
  generalize Whn.on x a b c = o at *
  have hb0 := below_alloc w (.cells [.int .u32 (x.w : Int), .int .u8 (x.d : Int), .int .i64 x.s, .int .i64 x.l].toArray 30)
  have hO := Ob.new w [.int .u32 (x.w : Int), .int .u8 (x.d : Int), .int .i64 x.s, .int .i64 x.l] 30
  obtain ⟨W, hW⟩ : ∃ W, w.alloc (.cells [.int .u32 (x.w : Int), .int .u8 (x.d : Int), .int .i64 x.s, .int .i64 x.l].toArray 30) = W := ⟨_, rfl⟩
  rw [hW] at hb0 hO
  have c0 := hO.cell (k := 0) rfl
  have c1 := hO.cell (k := 1) rfl
  have c2 := hO.cell (k := 2) rfl
  have c3 := hO.cell (k := 3) rfl
  cases hT : Whn.tame x with
  | false =>
    rw [hT] at HT Ho
    clear hT hO
    go_enter Try.func39, Try.ntmps39
    go_wp2_with fail
    refine (HT.out _).mono ?_
    rintro e w1 ⟨rfl, b1⟩
    go_wp2_with fail
    go_ret
    refine did_bool ?_ (hb0.trans (b1.mono hb0.size))
    rw [Ho.out]
    simp
  | true =>
    rw [hT] at HT Ho
    have hts := (Whn.tame_iff x).1 hT
    clear hT
    by_cases hR : 0 ≤ a ∧ a ≤ 31 ∧ 0 ≤ b ∧ b ≤ 7
    · obtain ⟨r1, r2, r3, r4⟩ := hR
      obtain ⟨i, rfl⟩ := Int.eq_ofNat_of_zero_le r1
      obtain ⟨j, rfl⟩ := Int.eq_ofNat_of_zero_le r3
      have HB1 := hid (fun w => r_bit x.w hx1 i (by omega) w)
      have HB2 := hid (fun w => r_bit x.d (by omega) j (by omega) w)
      rw [Int.toNat_natCast, Int.toNat_natCast] at Ho
      go_enter Try.func39, Try.ntmps39
      go_wp2_with fail
      refine (HT.out _).mono ?_
      rintro e w1 ⟨rfl, b1⟩
      have hO1 := hO.next b1
      have hb1 := hb0.trans (b1.mono hb0.size)
      clear c0 c1 c2 c3
      have c0 := hO1.cell (k := 0) rfl
      have c1 := hO1.cell (k := 1) rfl
      have c2 := hO1.cell (k := 2) rfl
      have c3 := hO1.cell (k := 3) rfl
      clear hO b1
      cases hB1 : x.w.testBit i with
      | false =>
        rw [hB1] at HB1 Ho
        clear hB1
        go_wp2_with fail
        refine (HB1.out _).mono ?_
        rintro e w2 ⟨rfl, rfl⟩
        go_wp2_with fail
        go_ret
        refine did_bool ?_ hb1
        rw [Ho.out]
        simp
      | true =>
        rw [hB1] at HB1 Ho
        clear hB1
        cases hB2 : x.d.testBit j with
        | false =>
          rw [hB2] at HB2 Ho
          clear hB2
          go_wp2_with fail
          refine (HB1.out _).mono ?_
          rintro e w2 ⟨rfl, rfl⟩
          go_wp2_with fail
          refine (HB2.out _).mono ?_
          rintro e w2 ⟨rfl, rfl⟩
          go_wp2_with fail
          go_ret
          refine did_bool ?_ hb1
          rw [Ho.out]
          simp
        | true =>
          rw [hB2] at HB2 Ho
          clear hB2
          go_wp2_with fail
          refine (HB1.out _).mono ?_
          rintro e w2 ⟨rfl, rfl⟩
          go_wp2_with fail
          refine (HB2.out _).mono ?_
          rintro e w2 ⟨rfl, rfl⟩
          go_wp2_with fail
          all_goals
            go_ret
            refine did_bool ?_ hb1
            rw [Ho.out]
            simp only [Bool.false_eq_true, false_iff, decide_eq_true_eq, true_and]
            omega
    · have hno : a < 0 ∨ (0 ≤ a ∧ 31 < a) ∨ (0 ≤ a ∧ a ≤ 31 ∧ b < 0) ∨ (0 ≤ a ∧ a ≤ 31 ∧ 0 ≤ b ∧ 7 < b) := by omega
      have hof := hid (show ¬ o = true by rw [Ho.out]; exact fun h => hR h.2.1)
      clear hR Ho
      rcases hno with h1 | ⟨h1, h2⟩ | ⟨h1, h2, h3⟩ | ⟨h1, h2, h3, h4⟩
      all_goals
        go_enter Try.func39, Try.ntmps39
        go_wp2_with fail
        refine (HT.out _).mono ?_
        rintro e w1 ⟨rfl, b1⟩
        go_wp2_with fail
        go_ret
        exact did_bool (by simpa using hof.out) (hb0.trans (b1.mono hb0.size))
set_option maxHeartbeats 1000000 in
theorem r_All (g : Gr) (w : World) : Calls Try.prog 37 #[gv g] w (Did (.int .i64 (Whn.all g)) w) := by
  have HT := hid (fun w => r_RightGrid g w)
  have ha := Whn.all_le g
  have hb0 := below_alloc w (.cells #[.int .i64 g.w, .int .i64 g.d, .int .i64 g.s] 23)
  have hO := Ob.new w [.int .i64 g.w, .int .i64 g.d, .int .i64 g.s] 23
  cases hT : Whn.rgrid g with
  | false =>
    have Hr := hid (show (0 : Int) = Whn.all g by unfold Whn.all; rw [hT]; rfl)
    rw [hT] at HT
    clear hT hO
    go_enter Try.func37, Try.ntmps37
    go_wp2_with fail
    refine (HT.out _).mono ?_
    rintro e w1 ⟨rfl, b1⟩
    go_wp2_with fail
    go_ret
    exact Did.mk (by rw [← Hr.out]; rfl) (hb0.trans (b1.mono hb0.size))
  | true =>
    have Hr := hid (show g.w * g.d * g.s = Whn.all g by unfold Whn.all; rw [if_pos hT])
    obtain ⟨g1, g2, g3, g4, g5, g6⟩ := (Whn.rgrid_iff g).1 hT
    have a1 : 1 * 1 ≤ g.w * g.d := Int.mul_le_mul g1 g3 (by omega) (by omega)
    have a2 : g.w * g.d ≤ 20 * 7 := Int.mul_le_mul g2 g4 (by omega) (by omega)
    have m1 : IntKind.i64.wrap (g.w * g.d) = g.w * g.d := by rw [IntKind.wrap_i64]; omega
    have m2 : IntKind.i64.wrap (g.w * g.d * g.s) = g.w * g.d * g.s := by rw [Hr.out, IntKind.wrap_i64]; omega
    rw [hT] at HT
    clear hT a1 a2
    go_enter Try.func37, Try.ntmps37
    go_wp2_with fail
    refine (HT.out _).mono ?_
    rintro e w1 ⟨rfl, b1⟩
    have hO1 := hO.next b1
    have c0 := hO1.cell (k := 0) rfl
    have c1 := hO1.cell (k := 1) rfl
    have c2 := hO1.cell (k := 2) rfl
    go_wp2_with fail
    go_ret
    exact Did.mk (congrArg (Value.int .i64) (by first | exact Hr.out | (rw [m2, Hr.out]))) (hb0.trans (b1.mono hb0.size))
end Go.Proofs.Yteldcaebbmaemaa

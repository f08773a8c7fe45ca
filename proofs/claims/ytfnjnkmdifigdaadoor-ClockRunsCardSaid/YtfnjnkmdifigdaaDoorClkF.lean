/- Contracts of layer 10 (clock): span, printRun, parseRun, parseSlots; what is held of the library's variables. -/
import Derived.Test.YtfnjnkmdifigdaaDoorClkX
import Derived.Test.YtfnjnkmdifigdaaDoorClkE
import Derived.Test.YtfnjnkmdifigdaaDoorClkV
import Derived.Test.YtfnjnkmdifigdaaDoorDigP
import Derived.Test.YtfnjnkmdifigdaaDoorWhnY
import Derived.Lib.TrailingZeros
namespace Go.Proofs.YtfnjnkmdifigdaaDoor
open Go.RowKit

/-- the library's two variables: one of any value, one of its table's -/
def Env (w : World) : Prop := (∃ m : Int, w.cell? ⟨1, 0, none⟩ = some (.int .i64 m)) ∧ ∀ i, i < 32 → w.cell? ⟨0, i, none⟩ = some (.int .u8 ((Lib.deBruijn32tab.getD i 0 : Nat) : Int))
theorem Env.next {w w' : World} (h : Env w) (hb : Below w.heap.size w w') : Env w' := by
  obtain ⟨⟨m, hm⟩, ht⟩ := h
  exact ⟨⟨m, (hb.cell (p := ⟨1, 0, none⟩) (World.block_lt_of_cell? _ _ hm)).trans hm⟩, fun i hi => (hb.cell (p := ⟨0, i, none⟩) (World.block_lt_of_cell? _ _ (ht i hi))).trans (ht i hi)⟩
/-- strings.Cut at one byte -/
theorem p_cut (c : UInt8) (l : List UInt8) (hl : l.length ≤ 300000) (w : World) (hE : Env w) : Calls Tryd.prog 36 #[txt l, .string ⟨#[c]⟩] w (fun e w' => e = .returned (.tuple #[txt (Lib.cut l [c]).1, txt (Lib.cut l [c]).2.1, .bool (Lib.cut l [c]).2.2]) ∧ Below w.heap.size w w') := by
  obtain ⟨⟨m, hm⟩, _⟩ := hE
  refine (Tryd.strings_Cut (bs l) ⟨#[c]⟩ m w (by rw [bs_size]; omega) hm).mono ?_
  rintro e w' ⟨rfl, n, rfl⟩
  exact ⟨rfl, below_drewN (Below.refl _ _) n⟩
theorem span_val (a b : Nat) (hab : a ≤ b) (hb : b ≤ 20) : (((2 : Int) ^ b % 4294967296 - 2 ^ a % 4294967296) % 4294967296) = ((2 ^ b - 2 ^ a : Nat) : Int) := by
  have h1 : 2 ^ a ≤ 2 ^ b := Nat.pow_le_pow_right (by decide) hab
  have h2 : 2 ^ b ≤ 2 ^ 20 := Nat.pow_le_pow_right (by decide) hb
  rw [show (2 : Int) ^ b = ((2 ^ b : Nat) : Int) by rw [Int.natCast_pow]; rfl, show (2 : Int) ^ a = ((2 ^ a : Nat) : Int) by rw [Int.natCast_pow]; rfl]
  generalize 2 ^ a = x at *
  generalize 2 ^ b = y at *
  omega
set_option maxHeartbeats 1000000 in
theorem p_span (a b : Nat) (hab : a ≤ b) (hb : b ≤ 20) (w : World) : Calls Tryd.prog 38 #[.int .i64 (a : Int), .int .i64 (b : Int)] w (Did (.int .u32 ((2 ^ b - 2 ^ a : Nat) : Int)) w) := by
  have Hv := hid (span_val a b hab hb)
  go_enter Tryd.func38, Tryd.ntmps38
  go_wp2_with fail
  go_quiet (fail)
  go_wp2_with fail
  go_ret
  exact Did.mk (congrArg (Value.int .u32) Hv.out) (below_drewN (Below.refl _ _) _)
set_option maxHeartbeats 1000000 in
theorem p_printRun (a b : Nat) (hab : a ≤ b) (hb : b < 1000) (w : World) : Calls Tryd.prog 41 #[.int .i64 (a : Int), .int .i64 (b : Int)] w (Did (txt (Clk.rt (a, b))) w) := by
  have HP := hid (fun (n : Nat) (hn : n < 1000) w => d_Print (n : Int) (by omega) (by omega) w)
  have HA := hid (fun w => HP.out a (by omega) w)
  have HB := hid (fun w => HP.out b (by omega) w)
  rw [wi_nat] at HA HB
  by_cases h : a = b
  · subst h
    have Hr := hid (show Clk.rt (a, a) = Dig.wd a by unfold Clk.rt; rw [if_neg (by simp)])
    generalize Dig.wd a = ta at *
    clear HP HB
    go_enter Tryd.func41, Tryd.ntmps41
    go_wp2_with fail
    refine (HA.out _).mono ?_
    rintro e w' ⟨rfl, b1⟩
    go_wp2_with fail
    go_ret
    exact Did.mk (by rw [Hr.out]; rfl) b1
  · have Hr := hid (show Clk.rt (a, b) = Dig.wd a ++ 45 :: Dig.wd b by unfold Clk.rt; rw [if_pos (by show a < b; omega)])
    have t1 : ((a : Int) == (b : Int)) = false := by rw [beq_eq_false_iff_ne]; omega
    have za : (bs (Dig.wd a)).size ≤ 20 := by rw [bs_size]; exact Dig.wd_length_le _
    have zb : (bs (Dig.wd b)).size ≤ 20 := by rw [bs_size]; exact Dig.wd_length_le _
    generalize Dig.wd a = ta at *
    generalize Dig.wd b = tb at *
    clear HP h
    go_enter Tryd.func41, Tryd.ntmps41
    go_wp2_with fail
    refine (HA.out _).mono ?_
    rintro e w1 ⟨rfl, b1⟩
    go_wp2_with fail
    refine (HB.out _).mono ?_
    rintro e w2 ⟨rfl, b2⟩
    go_wp2_with fail
    go_ret
    exact Did.mk (by rw [Hr.out]; show Value.string (bs ta ++ bs [45] ++ bs tb) = _; rw [bs_append, bs_append]; simp) (below2 b1 b2)
/-- what parseRun hands out -/
def rpV (s : List UInt8) : Value := match Clk.rp s with
  | some p => .tuple #[.int .i64 (p.1 : Int), .int .i64 (p.2 : Int), .bool true]
  | none => .tuple #[.int .i64 0, .int .i64 0, .bool false]
theorem data_bs (l : List UInt8) : (bs l).data.toList = l := rfl
/-- Within of a number of two digits: the number, or an error -/
theorem p_within (s : List UInt8) (hs : s.length ≤ 300000) : (∃ n : Nat, n < 100 ∧ Clk.num s = some n ∧ ∀ w, Calls Tryd.prog 60 #[txt s, .int .i64 0, .int .i64 99] w (fun e w' => e = .returned (.tuple #[.int .i64 (n : Int), .int .i64 0]) ∧ w = w')) ∨ (Clk.num s = none ∧ ∃ (x y : Int), (y != 0) = true ∧ ∀ w, Calls Tryd.prog 60 #[txt s, .int .i64 0, .int .i64 99] w (fun e w' => e = .returned (.tuple #[.int .i64 x, .int .i64 y]) ∧ w = w')) := by
  have HW := fun w => d_Within (bs s) (by rw [bs_size]; unfold maxLen; omega) 0 99 w
  rw [data_bs] at HW
  cases hn : Clk.num s with
  | some n =>
    left
    rw [Clk.within_num hn] at HW
    exact ⟨n, (Clk.num_back hn).2, rfl, HW⟩
  | none =>
    right
    exact ⟨rfl, _, _, by rw [bne_iff_ne]; have := Clk.within_none hn; omega, HW⟩
set_option maxHeartbeats 1000000 in
theorem p_parseRun (s : List UInt8) (hs : s.length ≤ 300000) (w : World) (hE : Env w) : Calls Tryd.prog 37 #[txt s] w (Did (rpV s) w) := by
  have HC := hid (p_cut 45 s hs w hE)
  clear hE
  rcases Clk.lib_cut 45 s with ⟨h1, h2⟩ | ⟨a, b, h1, h2, h3⟩
  · rw [h2] at HC
    rcases p_within s hs with ⟨n, hn, hnum, HW⟩ | ⟨hnum, x, y, hy, HW⟩
    · have Hr := hid (show rpV s = .tuple #[.int .i64 (n : Int), .int .i64 (n : Int), .bool true] by unfold rpV; rw [Clk.rp_one h1, hnum])
      have HW1 := hid HW
      clear HW hnum h1 h2
      go_enter Tryd.func37, Tryd.ntmps37
      go_wp2_with fail
      refine (HC.out).mono ?_
      rintro e w1 ⟨rfl, b1⟩
      go_wp2_with fail
      refine (HW1.out _).mono ?_
      rintro e w2 ⟨rfl, rfl⟩
      go_wp2_with fail
      go_ret3
      exact Did.mk Hr.out.symm b1
    · have Hr := hid (show rpV s = .tuple #[.int .i64 0, .int .i64 0, .bool false] by unfold rpV; rw [Clk.rp_one h1, hnum])
      have HW1 := hid HW
      clear HW hnum h1 h2
      go_enter Tryd.func37, Tryd.ntmps37
      go_wp2_with fail
      refine (HC.out).mono ?_
      rintro e w1 ⟨rfl, b1⟩
      go_wp2_with fail
      refine (HW1.out _).mono ?_
      rintro e w2 ⟨rfl, rfl⟩
      go_wp2_with fail
      go_ret3
      exact Did.mk Hr.out.symm b1
  · rw [h3] at HC
    have hl := congrArg List.length h1
    rw [List.length_append, List.length_cons] at hl
    have hrp := Clk.rp_two (b := b) h2
    rw [← h1] at hrp
    rcases p_within a (by omega) with ⟨n, hn, hnum, HW⟩ | ⟨hnum, x, y, hy, HW⟩
    · rcases p_within b (by omega) with ⟨m, hm, hnum2, HW2⟩ | ⟨hnum2, x, y, hy, HW2⟩
      · rw [hnum, hnum2] at hrp
        simp only at hrp
        have HW1 := hid HW
        have HW3 := hid HW2
        by_cases hlt : n < m
        · rw [if_pos hlt] at hrp
          have Hr := hid (show rpV s = .tuple #[.int .i64 (n : Int), .int .i64 (m : Int), .bool true] by unfold rpV; rw [hrp])
          clear HW HW2 hnum hnum2 h1 h2 h3 hrp hl
          go_enter Tryd.func37, Tryd.ntmps37
          go_wp2_with fail
          refine (HC.out).mono ?_
          rintro e w1 ⟨rfl, b1⟩
          go_wp2_with fail
          refine (HW1.out _).mono ?_
          rintro e w2 ⟨rfl, rfl⟩
          go_wp2_with fail
          refine (HW3.out _).mono ?_
          rintro e w2 ⟨rfl, rfl⟩
          go_wp2_with fail
          go_ret3
          exact Did.mk Hr.out.symm b1
        · rw [if_neg hlt] at hrp
          have Hr := hid (show rpV s = .tuple #[.int .i64 0, .int .i64 0, .bool false] by unfold rpV; rw [hrp])
          have t1 : decide ((m : Int) ≤ (n : Int)) = true := decide_eq_true (by omega)
          clear HW HW2 hnum hnum2 h1 h2 h3 hrp hl
          go_enter Tryd.func37, Tryd.ntmps37
          go_wp2_with fail
          refine (HC.out).mono ?_
          rintro e w1 ⟨rfl, b1⟩
          go_wp2_with fail
          refine (HW1.out _).mono ?_
          rintro e w2 ⟨rfl, rfl⟩
          go_wp2_with fail
          refine (HW3.out _).mono ?_
          rintro e w2 ⟨rfl, rfl⟩
          go_wp2_with fail
          go_ret3
          exact Did.mk Hr.out.symm b1
      · rw [hnum, hnum2] at hrp
        simp only at hrp
        have HW1 := hid HW
        have HW3 := hid HW2
        have Hr := hid (show rpV s = .tuple #[.int .i64 0, .int .i64 0, .bool false] by unfold rpV; rw [hrp])
        clear HW HW2 hnum hnum2 h1 h2 h3 hrp hl
        go_enter Tryd.func37, Tryd.ntmps37
        go_wp2_with fail
        refine (HC.out).mono ?_
        rintro e w1 ⟨rfl, b1⟩
        go_wp2_with fail
        refine (HW1.out _).mono ?_
        rintro e w2 ⟨rfl, rfl⟩
        go_wp2_with fail
        refine (HW3.out _).mono ?_
        rintro e w2 ⟨rfl, rfl⟩
        go_wp2_with fail
        go_ret3
        exact Did.mk Hr.out.symm b1
    · rw [hnum] at hrp
      simp only at hrp
      have HW1 := hid HW
      have Hr := hid (show rpV s = .tuple #[.int .i64 0, .int .i64 0, .bool false] by unfold rpV; rw [hrp])
      clear HW hnum h1 h2 h3 hrp hl
      go_enter Tryd.func37, Tryd.ntmps37
      go_wp2_with fail
      refine (HC.out).mono ?_
      rintro e w1 ⟨rfl, b1⟩
      go_wp2_with fail
      refine (HW1.out _).mono ?_
      rintro e w2 ⟨rfl, rfl⟩
      go_wp2_with fail
      go_ret3
      exact Did.mk Hr.out.symm b1
/-- what parseSlots hands out -/
def psV (s : List UInt8) : Int × Int := if (Dig.pw s).2 ≠ 0 then (0, ((Dig.pw s).2 : Int)) else if 96 < (Dig.pw s).1 then (0, 6) else (((Dig.pw s).1 : Int), 0)
set_option maxHeartbeats 1000000 in
theorem p_parseSlots (s : List UInt8) (hs : s.length ≤ 300000) (w : World) : Calls Tryd.prog 52 #[txt s] w (fun e w' => e = .returned (.tuple #[.int .i64 (psV s).1, .int .i64 (psV s).2]) ∧ w = w') := by
  have HW := fun w => d_ParseWord (bs s) (by rw [bs_size]; unfold maxLen; omega) w
  rw [data_bs] at HW
  unfold psV
  generalize Dig.pw s = p at *
  obtain ⟨n, e⟩ := p
  have HW1 := hid HW
  clear HW
  by_cases he : e = 0
  · subst he
    rw [if_neg (by simp)]
    by_cases hn : 96 < n
    · rw [if_pos hn]
      have t1 : decide (96 < (n : Int)) = true := decide_eq_true (by omega)
      clear hn
      go_enter Tryd.func52, Tryd.ntmps52
      go_wp2_with fail
      refine (HW1.out _).mono ?_
      rintro e w1 ⟨rfl, rfl⟩
      go_wp2_with fail
      go_ret2
      exact ⟨rfl, rfl⟩
    · rw [if_neg hn]
      have t1 : decide (96 < (n : Int)) = false := decide_eq_false (by omega)
      have h63 : (n : Int) < 9223372036854775808 := by omega
      go_enter Tryd.func52, Tryd.ntmps52
      go_wp2_with fail
      refine (HW1.out _).mono ?_
      rintro e w1 ⟨rfl, rfl⟩
      go_wp2_with fail
      go_ret2
      exact ⟨by rfl, rfl⟩
  · rw [if_pos he]
    have t1 : ((e : Int) != 0) = true := by rw [bne_iff_ne]; omega
    clear he
    go_enter Tryd.func52, Tryd.ntmps52
    go_wp2_with fail
    refine (HW1.out _).mono ?_
    rintro e w1 ⟨rfl, rfl⟩
    go_wp2_with fail
    go_ret2
    exact ⟨rfl, rfl⟩
end Go.Proofs.YtfnjnkmdifigdaaDoor

/- Contracts of the document's own answer for layer 10 (clock): run. -/
import Derived.Test.YtfnjnkmdifigdaaDoorClkR
namespace Go.Proofs.YtfnjnkmdifigdaaDoor
open Go.RowKit

theorem num_pw (s : List UInt8) : Clk.num s = if (Dig.pw s).2 = 0 ∧ s.length ≤ 2 then some (Dig.pw s).1 else none := by
  unfold Clk.num Dig.pw
  by_cases hf : Dig.formed s = true
  · by_cases hl : s.length ≤ 2
    · have hv := Dig.val_lt_pow s ((Dig.formed_iff s).1 hf).1
      have : 10 ^ s.length ≤ 10 ^ 2 := Nat.pow_le_pow_right (by decide) hl
      rw [if_pos ⟨hf, hl⟩, if_pos hf, if_pos (show Dig.val s < 18446744073709551616 by omega), if_pos ⟨rfl, hl⟩]
    · rw [if_neg (fun h => hl h.2), if_neg (fun h => hl h.2)]
  · rw [if_neg (fun h => hf h.1), if_neg hf, if_neg (fun h => by cases h.1)]
/-- hands out the number and true, or something and false -/
def NmRet (s : List UInt8) (w : World) (e : Ending) (w' : World) : Prop :=
  (∃ n : Nat, Clk.num s = some n ∧ n < 100 ∧ e = .returned (.tuple #[.int .i64 (n : Int), .bool true]) ∧ w = w') ∨ (∃ x : Int, Clk.num s = none ∧ e = .returned (.tuple #[.int .i64 x, .bool false]) ∧ w = w')
theorem r_num (s : List UInt8) (hs : s.length ≤ 300000) (w : World) : Calls Tryd.prog 61 #[txt s] w (NmRet s w) := by
  refine (r_number s hs w).mono ?_
  rintro e w' ⟨rfl, rfl⟩
  unfold nmV
  cases hn : Clk.num s with
  | some n =>
    have hlt := (Clk.num_back hn).2
    have hn0 := hn
    rw [num_pw] at hn
    split at hn
    · rename_i h
      injection hn with hn
      left
      refine ⟨n, hn0, hlt, ?_, rfl⟩
      rw [decide_eq_true h.1, decide_eq_true h.2, hn, show wrap64 (n : Int) = n by unfold wrap64; omega]
      rfl
    · cases hn
  | none =>
    have hn0 := hn
    rw [num_pw] at hn
    split at hn
    · cases hn
    · rename_i h
      right
      refine ⟨wrap64 ((Dig.pw s).1 : Int), hn0, ?_, rfl⟩
      rw [← Bool.decide_and, decide_eq_false h]
/-- hands out the run and true, or something and false -/
def RpRet (s : List UInt8) (w : World) (e : Ending) (w' : World) : Prop :=
  ((∃ p : Nat × Nat, Clk.rp s = some p ∧ p.1 < 100 ∧ p.2 < 100 ∧ e = .returned (.tuple #[.int .i64 (p.1 : Int), .int .i64 (p.2 : Int), .bool true])) ∨ (∃ x y : Int, Clk.rp s = none ∧ e = .returned (.tuple #[.int .i64 x, .int .i64 y, .bool false]))) ∧ Below w.heap.size w w'
theorem RpRet.yes {s : List UInt8} {w w' : World} {n m : Nat} {x y : Int} (h : Clk.rp s = some (n, m)) (hn : n < 100) (hm : m < 100) (hx : x = n) (hy : y = m) (hb : Below w.heap.size w w') : RpRet s w (.returned (.tuple #[.int .i64 x, .int .i64 y, .bool true])) w' := by
  subst hx; subst hy
  exact ⟨.inl ⟨(n, m), h, hn, hm, rfl⟩, hb⟩
theorem RpRet.no {s : List UInt8} {w w' : World} {x y : Int} (h : Clk.rp s = none) (hb : Below w.heap.size w w') : RpRet s w (.returned (.tuple #[.int .i64 x, .int .i64 y, .bool false])) w' := ⟨.inr ⟨x, y, h, rfl⟩, hb⟩
set_option maxHeartbeats 2000000 in
theorem r_run (s : List UInt8) (hs : s.length ≤ 300000) (w : World) : Calls Tryd.prog 39 #[txt s] w (RpRet s w) := by
  have HC := hid (fun w => r_Cut (bs s) 45 (by rw [bs_size]; exact hs) w)
  unfold RowRet at HC
  rw [bs_data] at HC
  have hne := Wrd.cut_ne 45 s
  have hpl := fun p h => Wrd.cut_part_len 45 s p h
  have Hrp := hid (show Clk.rp s = match Wrd.cut 45 s with
    | [a] => match Clk.num a with
      | some n => some (n, n)
      | none => none
    | [a, b] => match Clk.num a, Clk.num b with
      | some n, some m => if n < m then some (n, m) else none
      | _, _ => none
    | _ => none from rfl)
  generalize Wrd.cut 45 s = L at *
  cases L with
  | nil => exact absurd rfl hne
  | cons a L =>
    have ha := hpl a (List.mem_cons_self ..)
    have HA := hid (fun w => r_num a (by omega) w)
    cases L with
    | nil =>
      have HC1 := hid (fun w => show Calls Tryd.prog 30 #[txt s, .int .u8 45] w (fun e w' => ∃ A c, e = .returned (.slice A 1 c) ∧ Strs w' w'.heap.size A [a] ∧ Below w.heap.size w w') from HC.out w)
      clear hpl hne HC
      go_enter Tryd.func39, Tryd.ntmps39
      go_wp2_with fail
      refine (HC1.out _).mono ?_
      rintro e w1 ⟨A, c, rfl, hst, b1⟩
      obtain ⟨ad, rfl, _, hc0⟩ := Strs.at_ hst (k := 0) (by simp)
      rw [List.getElem_cons_zero] at hc0
      have hc0' : w1.cell? ad = some (txt a) := hc0
      clear hst
      go_wp2_with fail
      refine (HA.out _).mono ?_
      rintro e w2 (⟨n, hn, hlt, rfl, rfl⟩ | ⟨x, hn, rfl, rfl⟩)
      · have Hn := hid hn
        clear hn
        go_wp2_with fail
        go_ret3
        exact RpRet.yes (by rw [Hrp.out]; simp only [Hn.out]) hlt hlt rfl rfl b1
      · have Hn := hid hn
        clear hn
        go_wp2_with fail
        go_ret3
        exact RpRet.no (by rw [Hrp.out]; simp only [Hn.out]) b1
    | cons b L =>
      have hb := hpl b (List.mem_cons_of_mem _ (List.mem_cons_self ..))
      have HB := hid (fun w => r_num b (by omega) w)
      have hlen := Wrd.cut_len 45 s
      obtain ⟨N, hN⟩ : ∃ N, L.length + 2 = N := ⟨_, rfl⟩
      have HC1 := hid (fun w => show Calls Tryd.prog 30 #[txt s, .int .u8 45] w (fun e w' => ∃ A c, e = .returned (.slice A N c) ∧ Strs w' w'.heap.size A (a :: b :: L) ∧ Below w.heap.size w w') from hN ▸ HC.out w)
      have hN2 : (2 : Int) ≤ (N : Int) := by omega
      have t1 : ((N : Int) == 1) = false := by rw [beq_eq_false_iff_ne]; omega
      have HN := hid hN
      clear hpl hne HC hN hlen
      go_enter Tryd.func39, Tryd.ntmps39
      go_wp2_with fail
      refine (HC1.out _).mono ?_
      rintro e w1 ⟨A, c, rfl, hst, b1⟩
      obtain ⟨ad, rfl, _, hc0⟩ := Strs.at_ hst (k := 0) (by simp)
      obtain ⟨ad', e', _, hc1⟩ := Strs.at_ hst (k := 1) (by simp)
      injection e' with e'
      subst e'
      rw [List.getElem_cons_zero] at hc0
      have hc0' : w1.cell? ad = some (txt a) := hc0
      rw [List.getElem_cons_succ, List.getElem_cons_zero] at hc1
      have hc1' : w1.cell? ⟨ad.block, ad.off + 1, none⟩ = some (txt b) := hc1
      clear hst
      go_wp2_with fail
      refine (HA.out _).mono ?_
      rintro e w2 (⟨n, hn, hlt, rfl, rfl⟩ | ⟨x, hn, rfl, rfl⟩)
      · have Hn := hid hn
        clear hn
        go_wp2_with fail
        refine (HB.out _).mono ?_
        rintro e w2 (⟨m, hm, hlm, rfl, rfl⟩ | ⟨x, hm, rfl, rfl⟩)
        · have Hm := hid hm
          clear hm
          by_cases hL : L = []
          · have tN : ((N : Int) == 2) = true := by rw [beq_iff_eq, ← HN.out, hL]; rfl
            have HL := hid hL
            clear hL
            by_cases hnm : n < m
            · have tm : decide ((n : Int) < (m : Int)) = true := decide_eq_true (by omega)
              go_wp2_with fail
              go_ret3
              exact RpRet.yes (by rw [Hrp.out, HL.out]; simp only [Hn.out, Hm.out, if_pos hnm]) hlt hlm rfl rfl b1
            · have tm : decide ((n : Int) < (m : Int)) = false := decide_eq_false (by omega)
              go_wp2_with fail
              go_ret3
              exact RpRet.no (by rw [Hrp.out, HL.out]; simp only [Hn.out, Hm.out, if_neg hnm]) b1
          · have hL0 : 0 < L.length := List.length_pos_iff.2 hL
            have tN : ((N : Int) == 2) = false := by rw [beq_eq_false_iff_ne, ← HN.out]; omega
            obtain ⟨d, M, HLM⟩ : ∃ d M, Hid (L = d :: M) := by
              cases L with
              | nil => exact absurd rfl hL
              | cons d M => exact ⟨d, M, rfl⟩
            clear hL hL0
            go_wp2_with fail
            go_ret3
            exact RpRet.no (by rw [Hrp.out, HLM.out]) b1
        · have Hm := hid hm
          clear hm
          have Hno := hid (show Clk.rp s = none by
            rw [Hrp.out]
            cases L with
            | nil => simp only [Hn.out, Hm.out]
            | cons d M => rfl)
          go_wp2_with fail
          all_goals
            go_ret3
            exact RpRet.no Hno.out b1
      · have Hn := hid hn
        clear hn
        have Hno := hid (show Clk.rp s = none by
          rw [Hrp.out]
          cases L with
          | nil => simp only [Hn.out]
          | cons d M => rfl)
        go_wp2_with fail
        refine (HB.out _).mono ?_
        rintro e w2 (⟨m, hm, hlm, rfl, rfl⟩ | ⟨y, hm, rfl, rfl⟩)
        all_goals
          clear hm
          go_wp2_with fail
          all_goals
            go_ret3
            exact RpRet.no Hno.out b1
end Go.Proofs.YtfnjnkmdifigdaaDoor

/- Contracts of the document's own answer for layer 3: Take, TakeInt, TakeText, TakeList. -/
import Derived.Test.YtfnllijimmgaoaaOctR
namespace Go.Proofs.Ytfnllijimmgaoaa
open Go.RowKit

theorem getD_drop (b : List UInt8) (k j : Nat) : (b.drop k).getD j 0 = b.getD (k + j) 0 := by
  rw [List.getD_eq_getElem?_getD, List.getD_eq_getElem?_getD, List.getElem?_drop]

set_option maxRecDepth 20000 in
set_option maxHeartbeats 2000000 in
theorem r_Take (A : Option Addr) (n c : Nat) (b : List UInt8) (hn : b.length = n) (hm : n ≤ 1000000000) (B : Nat) (at_ : Int) (hat : Oct.I64 at_) (w : World) (h : Byt w B A b) :
    Calls Try.prog 26 #[.slice A n c, .int .i64 at_] w (TkRet b at_ w) := by
  subst hn
  unfold Oct.I64 at hat
  by_cases h1 : at_ < 0
  · have Hres := hid (show Oct.tA b at_ = (0, 0, 2) by unfold Oct.tA; rw [if_pos (.inl h1)])
    go_enter Try.func26, Try.ntmps26
    go_wp2_with fail
    go_ret3
    exact TkRet.mk _ Hres.out rfl rfl rfl
  by_cases h2 : (b.length : Int) < at_
  · have Hres := hid (show Oct.tA b at_ = (0, 0, 2) by unfold Oct.tA; rw [if_pos (.inr h2)])
    go_enter Try.func26, Try.ntmps26
    go_wp2_with fail
    go_ret3
    exact TkRet.mk _ Hres.out rfl rfl rfl
  obtain ⟨k, rfl⟩ : ∃ k : Nat, at_ = k := ⟨at_.toNat, by omega⟩
  have hk : k ≤ b.length := by omega
  have hta := tA_of b k hk
  have hle := Oct.hc_le 10 (b.drop k)
  have Hhi := hid (Oct.hc_high 10 (b.drop k))
  have Hlo := hid (Oct.hc_low 10 (b.drop k))
  have htk : Oct.tk (b.drop k) = if Oct.hc 10 (b.drop k) = 10 ∨ (Oct.hc 10 (b.drop k) = 9 ∧ 9 < (b.drop k).length ∧ 1 < ((b.drop k).getD 9 0).toNat) then (0, 0, 3)
    else if Oct.hc 10 (b.drop k) = (b.drop k).length then (0, 0, 4)
    else if 0 < Oct.hc 10 (b.drop k) ∧ ((b.drop k).getD (Oct.hc 10 (b.drop k)) 0).toNat = 0 then (0, 0, 3)
    else (Oct.val ((b.drop k).take (Oct.hc 10 (b.drop k) + 1)), Oct.hc 10 (b.drop k) + 1, 0) := rfl
  have hinv := Oct.tk_inv (b.drop k)
  have hdl : (b.drop k).length = b.length - k := List.length_drop ..
  generalize Oct.hc 10 (b.drop k) = m at *
  rw [hdl] at hle htk Hlo
  have H := hid h
  have hg := fun j => getD_drop b k j
  generalize b.drop k = l at *
  have Hg := hid hg
  have H3 : Hid (Oct.tk l = (0, 0, 3) → Oct.tA b k = (0, 0, 3)) := fun h => by rw [hta, h]; rfl
  have H4 : Hid (Oct.tk l = (0, 0, 4) → Oct.tA b k = (0, 0, 4)) := fun h => by rw [hta, h]; rfl
  have H0 : Hid (∀ v n : Nat, Oct.tk l = (v, n, 0) → Oct.tA b k = (v, (k : Int) + n, 0)) := fun v n h => by rw [hta, h]; rfl
  clear hg
  have Hdl := hid hdl
  have Hinv := hid hinv
  have Htk := hid htk
  have Hta := hid hta
  clear h htk hta hinv hdl
  have h1' : 0 ≤ (k : Int) := by omega
  have h2' : (k : Int) ≤ b.length := by omega
  go_enter Try.func26, Try.ntmps26
  go_wp2_with fail
  go_loop [7] (fun iv => ∃ j : Nat, iv = .int .i64 j ∧ j ≤ m) (fun iv => 10 - (intOf iv).toNat)
  case atStart => exact ⟨0, rfl, Nat.zero_le _⟩
  case round =>
    obtain ⟨j, rfl, hj⟩ := hrel
    by_cases hjm : j < m
    · have hlt : k + j < b.length := by omega
      have hlt' : (k : Int) + j < b.length := by omega
      have hj10 : (j : Int) < 10 := by omega
      have hkj0 : (0 : Int) ≤ (k : Int) + j := by omega
      obtain ⟨ad, x, rfl, _, Hx, hc⟩ := Byt.get H.out hlt
      have hx : 128 ≤ (x.toNat : Int) := by
        have := Hhi.out j hjm
        rw [Hg.out, Hx.out] at this
        omega
      go_wp2_with fail
      go_round
      case rel => exact ⟨j + 1, by go_num, by omega⟩
      case measure => simp [intOf]; omega
    · obtain rfl : j = m := by omega
      clear hjm hj
      by_cases h10 : j = 10
      · have Hres := hid (show Oct.tA b k = (0, 0, 3) by exact H3.out (by rw [Htk.out, if_pos (.inl h10)]))
        subst h10
        by_cases hlt : k + 10 < b.length
        · have hlt' : (k : Int) + 10 < b.length := by omega
          go_wp2_with fail
          go_ret3
          exact TkRet.mk _ Hres.out rfl rfl rfl
        · have hlt' : ¬ (k : Int) + 10 < b.length := by omega
          go_wp2_with fail
          go_ret3
          exact TkRet.mk _ Hres.out rfl rfl rfl
      have hj10 : (j : Int) < 10 := by omega
      have hj10' : ((j : Int) == 10) = false := by rw [beq_eq_false_iff_ne]; omega
      by_cases hlt : k + j < b.length
      · have hlt' : (k : Int) + j < b.length := by omega
        have hkj0 : (0 : Int) ≤ (k : Int) + j := by omega
        obtain ⟨ad, x, rfl, _, Hx, hc⟩ := Byt.get H.out hlt
        have hx128 : (x.toNat : Int) < 128 := by
          have := Hlo.out (by omega) (by omega)
          rw [Hg.out, Hx.out] at this
          omega
        have Hgx := hid (show l.getD j 0 = x by rw [Hg.out, Hx.out])
        by_cases h9 : j = 9
        · have h9' : ((j : Int) == 9) = true := by rw [beq_iff_eq]; omega
          by_cases hx1 : 1 < x.toNat
          · have hx1' : 1 < (x.toNat : Int) := by omega
            have Hres := hid (show Oct.tA b k = (0, 0, 3) by exact H3.out (by rw [Htk.out, if_pos (.inr ⟨h9, by omega, by rw [← h9, Hgx.out]; exact hx1⟩)]))
            clear h9 h10
            go_wp2_with fail
            go_ret3
            exact TkRet.mk _ Hres.out rfl rfl rfl
          · have hx1' : ¬ 1 < (x.toNat : Int) := by omega
            have hn1 : ¬ (j = 10 ∨ (j = 9 ∧ 9 < b.length - k ∧ 1 < (l.getD 9 0).toNat)) := by
              rintro (h | ⟨_, _, h⟩)
              · exact h10 h
              · rw [← h9, Hgx.out] at h; exact hx1 h
            have hj0 : 0 < (j : Int) := by omega
            by_cases hx0 : x.toNat = 0
            · have hx0' : ((x.toNat : Int) == 0) = true := by rw [beq_iff_eq]; omega
              have Hres := hid (show Oct.tA b k = (0, 0, 3) by exact H3.out (by rw [Htk.out, if_neg hn1, if_neg (by omega), if_pos ⟨by omega, by rw [Hgx.out]; exact hx0⟩]))
              clear h9 h10 hn1 hx0 hx1
              go_wp2_with fail
              go_ret3
              exact TkRet.mk _ Hres.out rfl rfl rfl
            · have hx0' : ((x.toNat : Int) == 0) = false := by rw [beq_eq_false_iff_ne]; omega
              have hn3 : ¬ (0 < j ∧ (l.getD j 0).toNat = 0) := by rw [Hgx.out]; exact fun h => hx0 h.2
              have Hlen := hid (show (l.take (j + 1)).length = j + 1 by rw [List.length_take, Hdl.out]; omega)
              have Hres := hid (show Oct.tA b k = (Oct.val (l.take (j + 1)), (k : Int) + ((j + 1 : Nat) : Int), 0) by exact H0.out _ _ (by rw [Htk.out, if_neg hn1, if_neg (by omega), if_neg hn3]))
              have HV := hid (show Oct.val (l.take (j + 1)) < 18446744073709551616 by
                have := (Hinv.out (by rw [Htk.out, if_neg hn1, if_neg (by omega), if_neg hn3])).2.2.2.1
                rwa [Htk.out, if_neg hn1, if_neg (by omega), if_neg hn3] at this)
              clear hn1 hn3
              clear h9 h10 hx0 hx1
              go_wp2_with fail
              go_loop [8, 9] (fun xv iv => ∃ q : Nat, xv = .int .u64 (Oct.val ((l.take (j + 1)).drop q) : Nat) ∧ iv = .int .i64 ((q : Int) - 1) ∧ q ≤ j + 1) (fun _ iv => (intOf iv + 1).toNat)
              case atStart => exact ⟨j + 1, by rw [List.drop_of_length_le (by rw [Hlen.out]; exact Nat.le_refl _)]; rfl, by rw [Int.natCast_add]; show Value.int .i64 _ = Value.int .i64 _; congr 1; omega, Nat.le_refl _⟩
              case round =>
                obtain ⟨q, rfl, rfl, hq⟩ := hrel
                rcases q with _ | q
                · rw [List.drop_zero]
                  have hneg : ((0 : Nat) : Int) - 1 = -1 := by omega
                  rw [hneg]
                  generalize Oct.val (l.take (j + 1)) = v at *
                  go_wp2_with fail
                  go_ret3
                  exact TkRet.mk _ Hres.out rfl (by omega) rfl
                · have hqe : ((q + 1 : Nat) : Int) - 1 = (q : Int) := by omega
                  rw [hqe]
                  have hkq : k + q < b.length := by omega
                  have hkq' : (k : Int) + q < b.length := by omega
                  have hkq0 : (0 : Int) ≤ (k : Int) + q := by omega
                  have hq0 : (0 : Int) ≤ q := by omega
                  obtain ⟨ad', y, hA, _, Hy, hcy⟩ := Byt.get H.out hkq
                  obtain rfl : ad = ad' := by injection hA
                  clear hA
                  have hv1 := Oct.val_cons_drop (l.take (j + 1)) q (by rw [Hlen.out]; omega)
                  rw [Oct.getD_take _ _ _ (show q < j + 1 by omega), Hg.out, Hy.out] at hv1
                  have hv2 := Oct.val_drop_le (l.take (j + 1)) q
                  have hv3 := HV.out
                  obtain ⟨X, hX⟩ : ∃ X, Oct.val ((l.take (j + 1)).drop (q + 1)) = X := ⟨_, rfl⟩
                  obtain ⟨Y, hY⟩ : ∃ Y, Oct.val ((l.take (j + 1)).drop q) = Y := ⟨_, rfl⟩
                  rw [hX, hY] at hv1
                  rw [hY] at hv2
                  rw [hX]
                  have hw1 : 128 * (X : Int) ≤ 18446744073709551615 := by omega
                  have hw2 : 128 * (X : Int) + (y.toNat : Int) % 128 ≤ 18446744073709551615 := by omega
                  have Hv1 := hid hv1
                  clear hv1 hv2 hv3
                  go_wp2_with fail
                  go_round
                  case rel => exact ⟨q, by rw [hY]; show Value.int .u64 _ = Value.int .u64 _; congr 1; rw [Hv1.out]; first | omega | (simp only [IntKind.wrap_u64]; omega), rfl, by omega⟩
                  case measure => simp [intOf]
        · have h9' : ((j : Int) == 9) = false := by rw [beq_eq_false_iff_ne]; omega
          have hn1 : ¬ (j = 10 ∨ (j = 9 ∧ 9 < b.length - k ∧ 1 < (l.getD 9 0).toNat)) := by omega
          by_cases hj0 : 0 < j
          · have hj0' : 0 < (j : Int) := by omega
            by_cases hx0 : x.toNat = 0
            · have hx0' : ((x.toNat : Int) == 0) = true := by rw [beq_iff_eq]; omega
              have Hres := hid (show Oct.tA b k = (0, 0, 3) by exact H3.out (by rw [Htk.out, if_neg hn1, if_neg (by omega), if_pos ⟨by omega, by rw [Hgx.out]; exact hx0⟩]))
              clear h9 h10 hn1 hx0
              go_wp2_with fail
              go_ret3
              exact TkRet.mk _ Hres.out rfl rfl rfl
            · have hx0' : ((x.toNat : Int) == 0) = false := by rw [beq_eq_false_iff_ne]; omega
              have hn3 : ¬ (0 < j ∧ (l.getD j 0).toNat = 0) := by rw [Hgx.out]; exact fun h => hx0 h.2
              have Hlen := hid (show (l.take (j + 1)).length = j + 1 by rw [List.length_take, Hdl.out]; omega)
              have Hres := hid (show Oct.tA b k = (Oct.val (l.take (j + 1)), (k : Int) + ((j + 1 : Nat) : Int), 0) by exact H0.out _ _ (by rw [Htk.out, if_neg hn1, if_neg (by omega), if_neg hn3]))
              have HV := hid (show Oct.val (l.take (j + 1)) < 18446744073709551616 by
                have := (Hinv.out (by rw [Htk.out, if_neg hn1, if_neg (by omega), if_neg hn3])).2.2.2.1
                rwa [Htk.out, if_neg hn1, if_neg (by omega), if_neg hn3] at this)
              clear hn1 hn3
              clear h9 h10 hx0
              go_wp2_with fail
              go_loop [8, 9] (fun xv iv => ∃ q : Nat, xv = .int .u64 (Oct.val ((l.take (j + 1)).drop q) : Nat) ∧ iv = .int .i64 ((q : Int) - 1) ∧ q ≤ j + 1) (fun _ iv => (intOf iv + 1).toNat)
              case atStart => exact ⟨j + 1, by rw [List.drop_of_length_le (by rw [Hlen.out]; exact Nat.le_refl _)]; rfl, by rw [Int.natCast_add]; show Value.int .i64 _ = Value.int .i64 _; congr 1; omega, Nat.le_refl _⟩
              case round =>
                obtain ⟨q, rfl, rfl, hq⟩ := hrel
                rcases q with _ | q
                · rw [List.drop_zero]
                  have hneg : ((0 : Nat) : Int) - 1 = -1 := by omega
                  rw [hneg]
                  generalize Oct.val (l.take (j + 1)) = v at *
                  go_wp2_with fail
                  go_ret3
                  exact TkRet.mk _ Hres.out rfl (by omega) rfl
                · have hqe : ((q + 1 : Nat) : Int) - 1 = (q : Int) := by omega
                  rw [hqe]
                  have hkq : k + q < b.length := by omega
                  have hkq' : (k : Int) + q < b.length := by omega
                  have hkq0 : (0 : Int) ≤ (k : Int) + q := by omega
                  have hq0 : (0 : Int) ≤ q := by omega
                  obtain ⟨ad', y, hA, _, Hy, hcy⟩ := Byt.get H.out hkq
                  obtain rfl : ad = ad' := by injection hA
                  clear hA
                  have hv1 := Oct.val_cons_drop (l.take (j + 1)) q (by rw [Hlen.out]; omega)
                  rw [Oct.getD_take _ _ _ (show q < j + 1 by omega), Hg.out, Hy.out] at hv1
                  have hv2 := Oct.val_drop_le (l.take (j + 1)) q
                  have hv3 := HV.out
                  obtain ⟨X, hX⟩ : ∃ X, Oct.val ((l.take (j + 1)).drop (q + 1)) = X := ⟨_, rfl⟩
                  obtain ⟨Y, hY⟩ : ∃ Y, Oct.val ((l.take (j + 1)).drop q) = Y := ⟨_, rfl⟩
                  rw [hX, hY] at hv1
                  rw [hY] at hv2
                  rw [hX]
                  have hw1 : 128 * (X : Int) ≤ 18446744073709551615 := by omega
                  have hw2 : 128 * (X : Int) + (y.toNat : Int) % 128 ≤ 18446744073709551615 := by omega
                  have Hv1 := hid hv1
                  clear hv1 hv2 hv3
                  go_wp2_with fail
                  go_round
                  case rel => exact ⟨q, by rw [hY]; show Value.int .u64 _ = Value.int .u64 _; congr 1; rw [Hv1.out]; first | omega | (simp only [IntKind.wrap_u64]; omega), rfl, by omega⟩
                  case measure => simp [intOf]
          · have hj0' : ¬ 0 < (j : Int) := by omega
            have hn3 : ¬ (0 < j ∧ (l.getD j 0).toNat = 0) := by omega
            have Hlen := hid (show (l.take (j + 1)).length = j + 1 by rw [List.length_take, Hdl.out]; omega)
            have Hres := hid (show Oct.tA b k = (Oct.val (l.take (j + 1)), (k : Int) + ((j + 1 : Nat) : Int), 0) by exact H0.out _ _ (by rw [Htk.out, if_neg hn1, if_neg (by omega), if_neg hn3]))
            have HV := hid (show Oct.val (l.take (j + 1)) < 18446744073709551616 by
              have := (Hinv.out (by rw [Htk.out, if_neg hn1, if_neg (by omega), if_neg hn3])).2.2.2.1
              rwa [Htk.out, if_neg hn1, if_neg (by omega), if_neg hn3] at this)
            clear hn1 hn3
            clear h9 h10
            go_wp2_with fail
            go_loop [8, 9] (fun xv iv => ∃ q : Nat, xv = .int .u64 (Oct.val ((l.take (j + 1)).drop q) : Nat) ∧ iv = .int .i64 ((q : Int) - 1) ∧ q ≤ j + 1) (fun _ iv => (intOf iv + 1).toNat)
            case atStart => exact ⟨j + 1, by rw [List.drop_of_length_le (by rw [Hlen.out]; exact Nat.le_refl _)]; rfl, by rw [Int.natCast_add]; show Value.int .i64 _ = Value.int .i64 _; congr 1; omega, Nat.le_refl _⟩
            case round =>
              obtain ⟨q, rfl, rfl, hq⟩ := hrel
              rcases q with _ | q
              · rw [List.drop_zero]
                have hneg : ((0 : Nat) : Int) - 1 = -1 := by omega
                rw [hneg]
                generalize Oct.val (l.take (j + 1)) = v at *
                go_wp2_with fail
                go_ret3
                exact TkRet.mk _ Hres.out rfl (by omega) rfl
              · have hqe : ((q + 1 : Nat) : Int) - 1 = (q : Int) := by omega
                rw [hqe]
                have hkq : k + q < b.length := by omega
                have hkq' : (k : Int) + q < b.length := by omega
                have hkq0 : (0 : Int) ≤ (k : Int) + q := by omega
                have hq0 : (0 : Int) ≤ q := by omega
                obtain ⟨ad', y, hA, _, Hy, hcy⟩ := Byt.get H.out hkq
                obtain rfl : ad = ad' := by injection hA
                clear hA
                have hv1 := Oct.val_cons_drop (l.take (j + 1)) q (by rw [Hlen.out]; omega)
                rw [Oct.getD_take _ _ _ (show q < j + 1 by omega), Hg.out, Hy.out] at hv1
                have hv2 := Oct.val_drop_le (l.take (j + 1)) q
                have hv3 := HV.out
                obtain ⟨X, hX⟩ : ∃ X, Oct.val ((l.take (j + 1)).drop (q + 1)) = X := ⟨_, rfl⟩
                obtain ⟨Y, hY⟩ : ∃ Y, Oct.val ((l.take (j + 1)).drop q) = Y := ⟨_, rfl⟩
                rw [hX, hY] at hv1
                rw [hY] at hv2
                rw [hX]
                have hw1 : 128 * (X : Int) ≤ 18446744073709551615 := by omega
                have hw2 : 128 * (X : Int) + (y.toNat : Int) % 128 ≤ 18446744073709551615 := by omega
                have Hv1 := hid hv1
                clear hv1 hv2 hv3
                go_wp2_with fail
                go_round
                case rel => exact ⟨q, by rw [hY]; show Value.int .u64 _ = Value.int .u64 _; congr 1; rw [Hv1.out]; first | omega | (simp only [IntKind.wrap_u64]; omega), rfl, by omega⟩
                case measure => simp [intOf]
      · have hlt' : ¬ (k : Int) + j < b.length := by omega
        have heq' : ((k : Int) + j == (b.length : Int)) = true := by rw [beq_iff_eq]; omega
        have Hres := hid (show Oct.tA b k = (0, 0, 4) by exact H4.out (by rw [Htk.out, if_neg (by omega), if_pos (by omega)]))
        by_cases h9 : j = 9
        · have h9' : ((j : Int) == 9) = true := by rw [beq_iff_eq]; omega
          clear h9 h10
          go_wp2_with fail
          go_ret3
          exact TkRet.mk _ Hres.out rfl rfl rfl
        · have h9' : ((j : Int) == 9) = false := by rw [beq_eq_false_iff_ne]; omega
          clear h9 h10
          go_wp2_with fail
          go_ret3
          exact TkRet.mk _ Hres.out rfl rfl rfl
end Go.Proofs.Ytfnllijimmgaoaa

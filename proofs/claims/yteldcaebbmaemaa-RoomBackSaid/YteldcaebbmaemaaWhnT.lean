/- Contracts of the document's own answer for layer 9 (when): Count, SameDay, slots, Meet, Gap. -/
import Derived.Test.YteldcaebbmaemaaWhnS
namespace Go.Proofs.Yteldcaebbmaemaa
open Go.RowKit
open Whn (Gr Wh)

set_option maxHeartbeats 4000000 in
theorem r_SameDay (a b : Wh) (ha : Wok a) (hb : Wok b) (w : World) : Calls Try.prog 57 #[wv a, wv b] w (Did (.bool (Whn.sameDay a b)) w) := by
  obtain ⟨ha1, ha2, ha3, ha4⟩ := ha
  obtain ⟨hb1, hb2, hb3, hb4⟩ := hb
  have HTa := hid (fun w => r_Tame a w)
  have HTb := hid (fun w => r_Tame b w)
  have HB := hid (fun (n : Nat) (hn : n < 4294967296) (i : Nat) (hi : i < 64) w => r_bit n hn i hi w)
  obtain ⟨A, W, hA, hW, K, hb0⟩ := (Mem.nil w).one (wc a) 30
  obtain ⟨B, V, hB, hV, K1, hb1⟩ := K.out.one (wc b) 30
  have c0 := K1.out.cell (b := A) (cs := wc a) (t := 30) (by simp) (k := 0) rfl
  have c1 := K1.out.cell (b := A) (cs := wc a) (t := 30) (by simp) (k := 1) rfl
  have c2 := K1.out.cell (b := A) (cs := wc a) (t := 30) (by simp) (k := 2) rfl
  have c3 := K1.out.cell (b := A) (cs := wc a) (t := 30) (by simp) (k := 3) rfl
  have d0 := K1.out.cell (b := B) (cs := wc b) (t := 30) (by simp) (k := 0) rfl
  have d1 := K1.out.cell (b := B) (cs := wc b) (t := 30) (by simp) (k := 1) rfl
  have d2 := K1.out.cell (b := B) (cs := wc b) (t := 30) (by simp) (k := 2) rfl
  have d3 := K1.out.cell (b := B) (cs := wc b) (t := 30) (by simp) (k := 3) rfl
  clear K hb0 hb1
  go_enter Try.func57, Try.ntmps57
  go_wp2_with fail
  go_loop [5, 6, 7] (fun wv_ dv_ iv => ∃ i : Nat, wv_ = .bool (Whn.anyb (Whn.wkB a b) i) ∧ dv_ = .bool (Whn.anyb (Whn.dyB a b) i) ∧ iv = .int .i64 i ∧ i ≤ 32) (fun _ _ iv => 32 - (intOf iv).toNat)
  case atStart => exact ⟨0, rfl, rfl, rfl, Nat.zero_le _⟩
  case round =>
    obtain ⟨i, rfl, rfl, rfl, hi⟩ := hrel
    by_cases hlt : i < 32
    · have Baw := hid (fun w => HB.out a.w ha1 i (by omega) w)
      have Bbw := hid (fun w => HB.out b.w hb1 i (by omega) w)
      have Bad := hid (fun w => HB.out a.d (by omega) i (by omega) w)
      have Bbd := hid (fun w => HB.out b.d (by omega) i (by omega) w)
      have Hw := hid (show Whn.anyb (Whn.wkB a b) (i + 1) = (Whn.anyb (Whn.wkB a b) i || (a.w.testBit i && b.w.testBit i)) from rfl)
      have Hd := hid (show Whn.anyb (Whn.dyB a b) (i + 1) = (Whn.anyb (Whn.dyB a b) i || (decide (i < 8) && (a.d.testBit i && b.d.testBit i))) from rfl)
      have u1 : IntKind.u32.wrap (a.d : Int) = (a.d : Int) := by rw [IntKind.wrap_u32]; omega
      have u2 : IntKind.u32.wrap (b.d : Int) = (b.d : Int) := by rw [IntKind.wrap_u32]; omega
      clear HB HTa HTb K1
      generalize Whn.anyb (Whn.wkB a b) i = p at *
      generalize Whn.anyb (Whn.dyB a b) i = q at *
      generalize b.w.testBit i = bw at *
      generalize b.d.testBit i = bd at *
      cases p with
      | true =>
        rw [Bool.true_or] at Hw
        cases q with
        | true =>
          rw [Bool.true_or] at Hd
          go_wp2_with fail
          go_round
          case rel => exact ⟨i + 1, by rw [Hw.out], by rw [Hd.out], by go_num, by omega⟩
          case measure => simp [intOf]; omega
        | false =>
          rw [Bool.false_or] at Hd
          by_cases h8 : i < 8
          · rw [decide_eq_true h8, Bool.true_and] at Hd
            cases hq : a.d.testBit i with
            | true =>
              rw [hq] at Bad
              rw [hq, Bool.true_and] at Hd
              clear hq
              go_wp2_with fail
              refine (Bad.out _).mono ?_
              rintro e w' ⟨rfl, rfl⟩
              go_wp2_with fail
              refine (Bbd.out _).mono ?_
              rintro e w' ⟨rfl, rfl⟩
              go_wp2_with fail
              go_round
              case rel => exact ⟨i + 1, by rw [Hw.out], by rw [Hd.out], by go_num, by omega⟩
              case measure => simp [intOf]; omega
            | false =>
              rw [hq] at Bad
              rw [hq, Bool.false_and] at Hd
              clear hq
              go_wp2_with fail
              refine (Bad.out _).mono ?_
              rintro e w' ⟨rfl, rfl⟩
              go_wp2_with fail
              go_round
              case rel => exact ⟨i + 1, by rw [Hw.out], by rw [Hd.out], by go_num, by omega⟩
              case measure => simp [intOf]; omega
          · rw [decide_eq_false h8, Bool.false_and] at Hd
            go_wp2_with fail
            go_round
            case rel => exact ⟨i + 1, by rw [Hw.out], by rw [Hd.out], by go_num, by omega⟩
            case measure => simp [intOf]; omega
      | false =>
        rw [Bool.false_or] at Hw
        cases hp : a.w.testBit i with
        | true =>
          rw [hp] at Baw
          rw [hp, Bool.true_and] at Hw
          clear hp
          cases q with
          | true =>
            rw [Bool.true_or] at Hd
            go_wp2_with fail
            refine (Baw.out _).mono ?_
            rintro e w' ⟨rfl, rfl⟩
            go_wp2_with fail
            refine (Bbw.out _).mono ?_
            rintro e w' ⟨rfl, rfl⟩
            go_wp2_with fail
            go_round
            case rel => exact ⟨i + 1, by rw [Hw.out], by rw [Hd.out], by go_num, by omega⟩
            case measure => simp [intOf]; omega
          | false =>
            rw [Bool.false_or] at Hd
            by_cases h8 : i < 8
            · rw [decide_eq_true h8, Bool.true_and] at Hd
              cases hq : a.d.testBit i with
              | true =>
                rw [hq] at Bad
                rw [hq, Bool.true_and] at Hd
                clear hq
                go_wp2_with fail
                refine (Baw.out _).mono ?_
                rintro e w' ⟨rfl, rfl⟩
                go_wp2_with fail
                refine (Bbw.out _).mono ?_
                rintro e w' ⟨rfl, rfl⟩
                go_wp2_with fail
                refine (Bad.out _).mono ?_
                rintro e w' ⟨rfl, rfl⟩
                go_wp2_with fail
                refine (Bbd.out _).mono ?_
                rintro e w' ⟨rfl, rfl⟩
                go_wp2_with fail
                go_round
                case rel => exact ⟨i + 1, by rw [Hw.out], by rw [Hd.out], by go_num, by omega⟩
                case measure => simp [intOf]; omega
              | false =>
                rw [hq] at Bad
                rw [hq, Bool.false_and] at Hd
                clear hq
                go_wp2_with fail
                refine (Baw.out _).mono ?_
                rintro e w' ⟨rfl, rfl⟩
                go_wp2_with fail
                refine (Bbw.out _).mono ?_
                rintro e w' ⟨rfl, rfl⟩
                go_wp2_with fail
                refine (Bad.out _).mono ?_
                rintro e w' ⟨rfl, rfl⟩
                go_wp2_with fail
                go_round
                case rel => exact ⟨i + 1, by rw [Hw.out], by rw [Hd.out], by go_num, by omega⟩
                case measure => simp [intOf]; omega
            · rw [decide_eq_false h8, Bool.false_and] at Hd
              go_wp2_with fail
              refine (Baw.out _).mono ?_
              rintro e w' ⟨rfl, rfl⟩
              go_wp2_with fail
              refine (Bbw.out _).mono ?_
              rintro e w' ⟨rfl, rfl⟩
              go_wp2_with fail
              go_round
              case rel => exact ⟨i + 1, by rw [Hw.out], by rw [Hd.out], by go_num, by omega⟩
              case measure => simp [intOf]; omega
        | false =>
          rw [hp] at Baw
          rw [hp, Bool.false_and] at Hw
          clear hp
          cases q with
          | true =>
            rw [Bool.true_or] at Hd
            go_wp2_with fail
            refine (Baw.out _).mono ?_
            rintro e w' ⟨rfl, rfl⟩
            go_wp2_with fail
            go_round
            case rel => exact ⟨i + 1, by rw [Hw.out], by rw [Hd.out], by go_num, by omega⟩
            case measure => simp [intOf]; omega
          | false =>
            rw [Bool.false_or] at Hd
            by_cases h8 : i < 8
            · rw [decide_eq_true h8, Bool.true_and] at Hd
              cases hq : a.d.testBit i with
              | true =>
                rw [hq] at Bad
                rw [hq, Bool.true_and] at Hd
                clear hq
                go_wp2_with fail
                refine (Baw.out _).mono ?_
                rintro e w' ⟨rfl, rfl⟩
                go_wp2_with fail
                refine (Bad.out _).mono ?_
                rintro e w' ⟨rfl, rfl⟩
                go_wp2_with fail
                refine (Bbd.out _).mono ?_
                rintro e w' ⟨rfl, rfl⟩
                go_wp2_with fail
                go_round
                case rel => exact ⟨i + 1, by rw [Hw.out], by rw [Hd.out], by go_num, by omega⟩
                case measure => simp [intOf]; omega
              | false =>
                rw [hq] at Bad
                rw [hq, Bool.false_and] at Hd
                clear hq
                go_wp2_with fail
                refine (Baw.out _).mono ?_
                rintro e w' ⟨rfl, rfl⟩
                go_wp2_with fail
                refine (Bad.out _).mono ?_
                rintro e w' ⟨rfl, rfl⟩
                go_wp2_with fail
                go_round
                case rel => exact ⟨i + 1, by rw [Hw.out], by rw [Hd.out], by go_num, by omega⟩
                case measure => simp [intOf]; omega
            · rw [decide_eq_false h8, Bool.false_and] at Hd
              go_wp2_with fail
              refine (Baw.out _).mono ?_
              rintro e w' ⟨rfl, rfl⟩
              go_wp2_with fail
              go_round
              case rel => exact ⟨i + 1, by rw [Hw.out], by rw [Hd.out], by go_num, by omega⟩
              case measure => simp [intOf]; omega
    · obtain rfl : i = 32 := by omega
      rw [Whn.wk_all a b ha1, Whn.dy_all a b ha2]
      clear HB
      have Hr := hid (show Whn.sameDay a b = (Whn.tame a && (Whn.tame b && (decide (a.w &&& b.w ≠ 0) && decide (a.d &&& b.d ≠ 0)))) by unfold Whn.sameDay; rw [Bool.decide_and])
      generalize decide (a.w &&& b.w ≠ 0) = p at *
      generalize decide (a.d &&& b.d ≠ 0) = q at *
      generalize Whn.sameDay a b = r at *
      cases hTa : Whn.tame a with
      | false =>
        rw [hTa] at HTa
        rw [hTa, Bool.false_and] at Hr
        clear hTa
        go_wp2_with fail
        refine (HTa.out _).mono ?_
        rintro e w1 ⟨rfl, b1⟩
        go_wp2_with fail
        go_ret
        exact Did.mk (by rw [Hr.out]; rfl) (K1.out.next b1).2
      | true =>
        rw [hTa] at HTa
        rw [hTa, Bool.true_and] at Hr
        clear hTa
        go_wp2_with fail
        refine (HTa.out _).mono ?_
        rintro e w1 ⟨rfl, b1⟩
        have K2 := K1.out.next b1
        clear c0 c1 c2 c3 d0 d1 d2 d3
        have d0 := K2.cell (b := B) (cs := wc b) (t := 30) (by simp) (k := 0) rfl
        have d1 := K2.cell (b := B) (cs := wc b) (t := 30) (by simp) (k := 1) rfl
        have d2 := K2.cell (b := B) (cs := wc b) (t := 30) (by simp) (k := 2) rfl
        have d3 := K2.cell (b := B) (cs := wc b) (t := 30) (by simp) (k := 3) rfl
        cases hTb : Whn.tame b with
        | false =>
          rw [hTb] at HTb
          rw [hTb, Bool.false_and] at Hr
          clear hTb
          go_wp2_with fail
          refine (HTb.out _).mono ?_
          rintro e w2 ⟨rfl, b2⟩
          go_wp2_with fail
          go_ret
          exact Did.mk (by rw [Hr.out]; rfl) (K2.next b2).2
        | true =>
          rw [hTb] at HTb
          rw [hTb, Bool.true_and] at Hr
          clear hTb
          cases p with
          | false =>
            rw [Bool.false_and] at Hr
            go_wp2_with fail
            refine (HTb.out _).mono ?_
            rintro e w2 ⟨rfl, b2⟩
            go_wp2_with fail
            go_ret
            exact Did.mk (by rw [Hr.out]; rfl) (K2.next b2).2
          | true =>
            rw [Bool.true_and] at Hr
            go_wp2_with fail
            refine (HTb.out _).mono ?_
            rintro e w2 ⟨rfl, b2⟩
            go_wp2_with fail
            go_ret
            exact Did.mk (by rw [Hr.out]; rfl) (K2.next b2).2
set_option maxRecDepth 20000 in
set_option maxHeartbeats 2000000 in
theorem r_slots (a b : Wh) (ha : Whn.tame a = true) (hb : Whn.tame b = true) (w : World) : Calls Try.prog 58 #[wv a, wv b] w (Did (.bool (Whn.slots a b)) w) := by
  obtain ⟨a1, a2, a3, a4⟩ := (Whn.tame_iff a).1 ha
  obtain ⟨b1, b2, b3, b4⟩ := (Whn.tame_iff b).1 hb
  have Hs := hid (Whn.slots_iff a b)
  generalize Whn.slots a b = r at *
  obtain ⟨A, W, hA, hW, K, hb0⟩ := (Mem.nil w).one (wc a) 30
  obtain ⟨B, V, hB, hV, K1, hb1⟩ := K.out.one (wc b) 30
  have c2 := K1.out.cell (b := A) (cs := wc a) (t := 30) (by simp) (k := 2) rfl
  have c3 := K1.out.cell (b := A) (cs := wc a) (t := 30) (by simp) (k := 3) rfl
  have d2 := K1.out.cell (b := B) (cs := wc b) (t := 30) (by simp) (k := 2) rfl
  have d3 := K1.out.cell (b := B) (cs := wc b) (t := 30) (by simp) (k := 3) rfl
  clear K hb0 hb1 ha hb
  go_enter Try.func58, Try.ntmps58
  go_wp2_with fail
  go_loop [5] (fun iv => ∃ i : Nat, iv = .int .i64 i ∧ i ≤ 192 ∧ Hid (r = true → (i : Int) ≤ max a.s b.s)) (fun iv => 192 - (intOf iv).toNat)
  case atStart => exact ⟨0, rfl, Nat.zero_le _, hid (fun _ => by omega)⟩
  case round =>
    obtain ⟨i, rfl, hi, Hi⟩ := hrel
    by_cases hlt : i < 192
    · by_cases hin : a.s ≤ i ∧ (i : Int) < a.s + a.l ∧ b.s ≤ i ∧ (i : Int) < b.s + b.l
      · obtain ⟨h1, h2, h3, h4⟩ := hin
        have Hr := hid (show r = true from Hs.out.2 (by omega))
        clear Hs Hi
        go_wp2_with fail
        go_ret
        exact Did.mk (by rw [Hr.out]; rfl) K1.out.2
      · have hno : (i : Int) < a.s ∨ (a.s ≤ i ∧ a.s + a.l ≤ i) ∨ (a.s ≤ i ∧ (i : Int) < a.s + a.l ∧ (i : Int) < b.s) ∨ (a.s ≤ i ∧ (i : Int) < a.s + a.l ∧ b.s ≤ i ∧ b.s + b.l ≤ i) := by omega
        have Hn : Hid (r = true → ((i + 1 : Nat) : Int) ≤ max a.s b.s) := hid (fun h => by
          have q1 := Hs.out.1 h
          have q2 := Hi.out h
          omega)
        clear Hs Hi hin
        rcases hno with h1 | ⟨h1, h2⟩ | ⟨h1, h2, h3⟩ | ⟨h1, h2, h3, h4⟩
        all_goals
          go_wp2_with fail
          go_round
          case rel => exact ⟨i + 1, by go_num, by omega, Hn⟩
          case measure => simp [intOf]; omega
    · obtain rfl : i = 192 := by omega
      have Hr := hid (show r = false by
        cases hr : r with
        | false => rfl
        | true =>
          have := Hi.out hr
          omega)
      clear Hs Hi
      go_wp2_with fail
      go_ret
      exact Did.mk (by rw [Hr.out]; rfl) K1.out.2
end Go.Proofs.Yteldcaebbmaemaa

/- Contracts of the document's own answer for layer 9 (when): Both, Covers. -/
import Derived.Test.YtcdldgmgmbopdaaDoorWhnZ
namespace Go.Proofs.YtcdldgmgmbopdaaDoor
open Go.RowKit
open Whn (Gr Wh)

set_option maxRecDepth 20000 in
set_option maxHeartbeats 16000000 in
theorem r_Both (a b : Wh) (ha : Wok a) (hb : Wok b) (w : World) : Calls Tryd.prog 28 #[wv a, wv b] w (Did (bothV a b) w) := by
  have HM := hid (fun w => r_Meet a b ha hb w)
  obtain ⟨A, W, hA, hW, K, hb0⟩ := (Mem.nil w).one (wc a) 26
  obtain ⟨B, V, hB, hV, K1, hb1⟩ := K.out.one (wc b) 26
  obtain ⟨C, U, hC, hU, K2, hb2⟩ := K1.out.one [.int .u32 0, .int .u8 0, .int .i64 0, .int .i64 0] 26
  have hCA : A < C ∧ B < C := by
    have q1 := (K2.out.at_ (b := A) (cs := wc a) (t := 26) (by simp)).lt
    have q2 := (K1.out.at_ (b := A) (cs := wc a) (t := 26) (by simp)).lt
    have q3 := (K1.out.at_ (b := B) (cs := wc b) (t := 26) (by simp)).lt
    omega
  have hAw : w.heap.size ≤ A ∧ w.heap.size ≤ B ∧ w.heap.size ≤ C := by
    have q1 := K.out.2.size
    have q2 := K1.out.2.size
    omega
  obtain ⟨c0, c1, c2, c3⟩ := K2.out.wh (B := A) (x := a) (by simp)
  obtain ⟨d0, d1, d2, d3⟩ := K2.out.wh (B := B) (x := b) (by simp)
  clear K K1 hb0 hb1 hb2
  cases hM : Whn.meet a b with
  | false =>
    have Hr := hid (show bothV a b = .tuple #[wv Whn.zero, .bool false] by unfold bothV Whn.both; rw [hM]; rfl)
    rw [hM] at HM
    clear hM
    go_enter Tryd.func28, Tryd.ntmps28
    go_wp2_with fail
    refine (HM.out _).mono ?_
    rintro e w1 ⟨rfl, b1⟩
    have K3 := K2.out.next b1
    have hO := K3.at_ (b := C) (cs := [.int .u32 0, .int .u8 0, .int .i64 0, .int .i64 0]) (t := 26) (by simp)
    have e0 := hO.cell (k := 0) rfl
    have e1 := hO.cell (k := 1) rfl
    have e2 := hO.cell (k := 2) rfl
    have e3 := hO.cell (k := 3) rfl
    have f0 := hO.free 0
    have f1 := hO.free 1
    have f2 := hO.free 2
    have f3 := hO.free 3
    have hne : ∀ p ∈ [(B, wc b, 26), (A, wc a, 26)], p.1 ≠ C := by
      intro p hp
      simp only [List.mem_cons, List.not_mem_nil, or_false] at hp
      rcases hp with rfl | rfl
      · show B ≠ C; omega
      · show A ≠ C; omega
    have K4 := (((K3.set hAw.2.2 hne 0 (.int .u32 0)).set hAw.2.2 hne 1 (.int .u8 0)).set hAw.2.2 hne 2 (.int .i64 0)).set hAw.2.2 hne 3 (.int .i64 0)
    have hO4 := K4.at_ (b := C) (cs := [.int .u32 0, .int .u8 0, .int .i64 0, .int .i64 0]) (t := 26) (by simp)
    go_wp2_with fail
    have r0 := hO4.cell (k := 0) rfl
    have r1 := hO4.cell (k := 1) rfl
    have r2 := hO4.cell (k := 2) rfl
    have r3 := hO4.cell (k := 3) rfl
    exact bodyPost_ret (v := .tuple #[wv Whn.zero, .bool false]) (by simp [results, Tryd.results28, go_sem, r0, r1, r2, r3, Whn.zero]) rfl (Did.mk Hr.out.symm K4.2)
  | true =>
    have Hr := hid (show bothV a b = .tuple #[wv (Whn.share a b), .bool true] by unfold bothV Whn.both; rw [hM]; rfl)
    obtain ⟨hta, htb, _, _, hmm⟩ := ((Whn.meet_iff a b).1 hM)
    obtain ⟨ta1, ta2, ta3, ta4⟩ := (Whn.tame_iff a).1 hta
    obtain ⟨tb1, tb2, tb3, tb4⟩ := (Whn.tame_iff b).1 htb
    have HB := hid (fun (n : Nat) (hn : n < 4294967296) (i : Nat) (hi : i < 64) w => r_bit n hn i hi w)
    have ha1 := ha.1
    have ha2 := ha.2.1
    have hb1 := hb.1
    have hb2 := hb.2.1
    have hPl : a.w &&& b.w < 4294967296 := Nat.lt_of_le_of_lt Nat.and_le_left ha1
    have hQl : a.d &&& b.d < 256 := Nat.lt_of_le_of_lt Nat.and_le_left ha2
    have HPb := hid (fun i => Nat.testBit_and a.w b.w i)
    have HQb := hid (fun i => Nat.testBit_and a.d b.d i)
    have HP := hid (show (Whn.share a b).w = a.w &&& b.w from rfl)
    have HQ := hid (show (Whn.share a b).d = a.d &&& b.d from rfl)
    generalize a.w &&& b.w = P at *
    generalize a.d &&& b.d = Q at *
    rw [hM] at HM
    clear hta htb hM ha hb
    obtain ⟨mx, hmx⟩ : ∃ mx, (if a.s < b.s then b.s else a.s) = mx := ⟨_, rfl⟩
    obtain ⟨ea, hea⟩ : ∃ ea, a.s + a.l = ea := ⟨_, rfl⟩
    obtain ⟨eb, heb⟩ : ∃ eb, b.s + b.l = eb := ⟨_, rfl⟩
    have u1 : IntKind.i64.wrap (a.s + a.l) = ea := by rw [IntKind.wrap_i64]; omega
    have u2 : IntKind.i64.wrap (b.s + b.l) = eb := by rw [IntKind.wrap_i64]; omega
    have u3 : wrap64 (a.s + a.l) = ea := by unfold wrap64; omega
    have u4 : wrap64 (b.s + b.l) = eb := by unfold wrap64; omega
    obtain ⟨mn, hmn⟩ : ∃ mn, (if eb < ea then eb else ea) = mn := ⟨_, rfl⟩
    have hx0 : max a.s b.s = mx ∧ 0 ≤ mx ∧ mx ≤ 96 := by rw [← hmx]; split <;> omega
    have hn0 : min (a.s + a.l) (b.s + b.l) = mn ∧ 0 ≤ mn ∧ mn ≤ 192 := by rw [hea, heb, ← hmn]; split <;> omega
    obtain ⟨ln, hln⟩ : ∃ ln, mn - mx = ln := ⟨_, rfl⟩
    have v1 : IntKind.i64.wrap (mn - mx) = ln := by rw [IntKind.wrap_i64]; omega
    have v2 : wrap64 (mn - mx) = ln := by unfold wrap64; omega
    have Hmx := hid (show (Whn.share a b).s = mx from hx0.1)
    have Hln := hid (show (Whn.share a b).l = ln by show min _ _ - max _ _ = ln; rw [hx0.1, hn0.1, hln])
    clear hx0 hn0 hln hea heb hmm ta1 ta2 ta3 ta4 tb1 tb2 tb3 tb4
    have hne : ∀ D : Nat, C < D → ∀ p ∈ [(C, [Value.int .u32 0, .int .u8 0, .int .i64 0, .int .i64 0], 26), (B, wc b, 26), (A, wc a, 26)], p.1 ≠ D := by
      intro D hD p hp
      simp only [List.mem_cons, List.not_mem_nil, or_false] at hp
      rcases hp with rfl | rfl | rfl
      · show C ≠ D; omega
      · show B ≠ D; omega
      · show A ≠ D; omega
    go_enter Tryd.func28, Tryd.ntmps28
    go_wp2_with fail
    refine (HM.out _).mono ?_
    rintro e w1 ⟨rfl, b1⟩
    have K3 := K2.out.next b1
    clear c0 c1 c2 c3 d0 d1 d2 d3
    obtain ⟨c0, c1, c2, c3⟩ := K3.wh (B := A) (x := a) (by simp)
    obtain ⟨d0, d1, d2, d3⟩ := K3.wh (B := B) (x := b) (by simp)
    go_wp2_with fail
    obtain ⟨D, W4, hD, hW4, K4, _⟩ := K3.one [.int .u32 0, .int .u8 0, .int .i64 mx, .int .i64 0] 26
    have hCD : C < D := by
      have := (K3.at_ (b := C) (cs := [.int .u32 0, .int .u8 0, .int .i64 0, .int .i64 0]) (t := 26) (by simp)).lt
      omega
    rw [hD, hW4]
    clear c0 c1 c2 c3 d0 d1 d2 d3
    go_loopw [7] (fun iv wr => ∃ i : Nat, iv = .int .i64 i ∧ i ≤ 32 ∧ Hid (Mem w wr [(D, [.int .u32 (P % 2 ^ i : Nat), .int .u8 (Q % 2 ^ i : Nat), .int .i64 mx, .int .i64 0], 26), (C, [.int .u32 0, .int .u8 0, .int .i64 0, .int .i64 0], 26), (B, wc b, 26), (A, wc a, 26)])) (fun iv _ => 32 - (intOf iv).toNat)
    case atStart => exact ⟨0, rfl, Nat.zero_le _, by rw [Nat.pow_zero, Nat.mod_one, Nat.mod_one]; exact K4⟩
    case round =>
      clear K3 K4
      obtain ⟨i, rfl, hi, KM⟩ := hrel
      have hDw : w.heap.size ≤ D := by omega
      obtain ⟨p0, Hp0⟩ : ∃ p0, Hid (P % 2 ^ i = p0) := ⟨_, hid rfl⟩
      obtain ⟨q0, Hq0⟩ : ∃ q0, Hid (Q % 2 ^ i = q0) := ⟨_, hid rfl⟩
      rw [Hp0.out, Hq0.out] at KM
      obtain ⟨c0, c1, c2, c3⟩ := KM.out.wh (B := A) (x := a) (by simp)
      obtain ⟨d0, d1, d2, d3⟩ := KM.out.wh (B := B) (x := b) (by simp)
      have hO := KM.out.at_ (b := D) (cs := [.int .u32 (p0 : Int), .int .u8 (q0 : Int), .int .i64 mx, .int .i64 0]) (t := 26) (by simp)
      have e0 := hO.cell (k := 0) rfl
      have e1 := hO.cell (k := 1) rfl
      have e2 := hO.cell (k := 2) rfl
      have e3 := hO.cell (k := 3) rfl
      have f0 := hO.free 0
      have f1 := hO.free 1
      have f3 := hO.free 3
      by_cases hlt : i < 32
      · have Baw := hid (fun w => HB.out a.w ha1 i (by omega) w)
        have Bbw := hid (fun w => HB.out b.w hb1 i (by omega) w)
        have Bad := hid (fun w => HB.out a.d (by omega) i (by omega) w)
        have Bbd := hid (fun w => HB.out b.d (by omega) i (by omega) w)
        have Hw := hid (Whn.low_succ P i)
        have Hd := hid (Whn.low_succ Q i)
        have hp1 : P % 2 ^ (i + 1) < 4294967296 := Nat.lt_of_le_of_lt (Nat.mod_le _ _) hPl
        have hq1 : Q % 2 ^ (i + 1) < 256 := Nat.lt_of_le_of_lt (Nat.mod_le _ _) hQl
        have hbig : ∀ j, 8 ≤ j → ¬ (a.d.testBit j && b.d.testBit j) = true := fun j hj h => by
          rw [← HQb.out] at h
          have := Whn.bit_lt (show Q < 2 ^ 8 from hQl) h
          omega
        rw [HPb.out, Hp0.out] at Hw
        rw [HQb.out, Hq0.out] at Hd
        have cast2 : (((2 ^ i : Nat)) : Int) = 2 ^ i := Int.natCast_pow 2 i
        have u1 : IntKind.u32.wrap (a.d : Int) = (a.d : Int) := by rw [IntKind.wrap_u32]; omega
        have u2 : IntKind.u32.wrap (b.d : Int) = (b.d : Int) := by rw [IntKind.wrap_u32]; omega
        obtain ⟨p1, Hp1⟩ : ∃ p1, Hid (P % 2 ^ (i + 1) = p1) := ⟨_, hid rfl⟩
        obtain ⟨q1, Hq1⟩ : ∃ q1, Hid (Q % 2 ^ (i + 1) = q1) := ⟨_, hid rfl⟩
        rw [Hp1.out] at Hw hp1
        rw [Hq1.out] at Hd hq1
        clear HB
        cases hp : a.w.testBit i with
        | true =>
          cases hq : b.w.testBit i with
          | true =>
            rw [hp, hq, if_pos (by decide)] at Hw
            rw [hp] at Baw
            rw [hq] at Bbw
            have KW := hid (KM.out.set hDw (hne D hCD) 0 (.int .u32 (p1 : Int)))
            have hpw : ((p0 : Int) + 2 ^ i) % 4294967296 = (p1 : Int) := by have hwo := Hw.out; rw [← cast2]; omega
            obtain ⟨W5, hW5⟩ : ∃ W5, wr.setCell ⟨D, 0, none⟩ (.int .u32 (p1 : Int)) = W5 := ⟨_, rfl⟩
            rw [hW5] at KW
            have hS := KW.out.at_ (b := D) (cs := [.int .u32 (p1 : Int), .int .u8 (q0 : Int), .int .i64 mx, .int .i64 0]) (t := 26) (by simp)
            obtain ⟨cc0, cc1, cc2, cc3⟩ := KW.out.wh (B := A) (x := a) (by simp)
            obtain ⟨dd0, dd1, dd2, dd3⟩ := KW.out.wh (B := B) (x := b) (by simp)
            have ee0 := hS.cell (k := 0) rfl
            have ee1 := hS.cell (k := 1) rfl
            have ee2 := hS.cell (k := 2) rfl
            have ee3 := hS.cell (k := 3) rfl
            have ff1 := hS.free 1
            clear hS
            by_cases h8 : i < 8
            · cases hr : a.d.testBit i with
              | true =>
                cases hs : b.d.testBit i with
                | true =>
                  rw [hr, hs, if_pos (by decide)] at Hd
                  rw [hr] at Bad
                  rw [hs] at Bbd
                  have hqw : ((q0 : Int) + 2 ^ i) % 256 = (q1 : Int) := by have hdo := Hd.out; rw [← cast2]; omega
                  have KD := hid (KW.out.set hDw (hne D hCD) 1 (.int .u8 (q1 : Int)))
                  go_wp2_with fail
                  refine (Baw.out _).mono ?_
                  rintro e w' ⟨rfl, rfl⟩
                  go_wp2_with fail
                  refine (Bbw.out _).mono ?_
                  rintro e w' ⟨rfl, rfl⟩
                  go_wp2_with fail
                  refine (Bad.out _).mono ?_
                  rintro e w' ⟨rfl, rfl⟩
                  go_wp2_with fail
                  refine (Bbd.out _).mono ?_
                  rintro e w' ⟨rfl, rfl⟩
                  go_wp2_with fail
                  exact ⟨⟨i + 1, by go_num, by omega, by rw [Hp1.out, Hq1.out]; exact KD⟩, by simp [intOf]; omega⟩
                | false =>
                  rw [hr, hs, if_neg (by decide), Nat.add_zero] at Hd
                  rw [hr] at Bad
                  rw [hs] at Bbd
                  rw [← Hd.out] at KW
                  go_wp2_with fail
                  refine (Baw.out _).mono ?_
                  rintro e w' ⟨rfl, rfl⟩
                  go_wp2_with fail
                  refine (Bbw.out _).mono ?_
                  rintro e w' ⟨rfl, rfl⟩
                  go_wp2_with fail
                  refine (Bad.out _).mono ?_
                  rintro e w' ⟨rfl, rfl⟩
                  go_wp2_with fail
                  refine (Bbd.out _).mono ?_
                  rintro e w' ⟨rfl, rfl⟩
                  go_wp2_with fail
                  exact ⟨⟨i + 1, by go_num, by omega, by rw [Hp1.out, Hq1.out]; exact KW⟩, by simp [intOf]; omega⟩
              | false =>
                rw [hr, Bool.false_and, if_neg (by decide), Nat.add_zero] at Hd
                rw [hr] at Bad
                rw [← Hd.out] at KW
                go_wp2_with fail
                refine (Baw.out _).mono ?_
                rintro e w' ⟨rfl, rfl⟩
                go_wp2_with fail
                refine (Bbw.out _).mono ?_
                rintro e w' ⟨rfl, rfl⟩
                go_wp2_with fail
                refine (Bad.out _).mono ?_
                rintro e w' ⟨rfl, rfl⟩
                go_wp2_with fail
                exact ⟨⟨i + 1, by go_num, by omega, by rw [Hp1.out, Hq1.out]; exact KW⟩, by simp [intOf]; omega⟩
            · have h9 : (8 : Int) ≤ (i : Int) := by omega
              rw [if_neg (hbig i (by omega)), Nat.add_zero] at Hd
              rw [← Hd.out] at KW
              go_wp2_with fail
              refine (Baw.out _).mono ?_
              rintro e w' ⟨rfl, rfl⟩
              go_wp2_with fail
              refine (Bbw.out _).mono ?_
              rintro e w' ⟨rfl, rfl⟩
              go_wp2_with fail
              exact ⟨⟨i + 1, by go_num, by omega, by rw [Hp1.out, Hq1.out]; exact KW⟩, by simp [intOf]; omega⟩
          | false =>
            rw [hp, hq, if_neg (by decide), Nat.add_zero] at Hw
            rw [hp] at Baw
            rw [hq] at Bbw
            have KW := KM
            rw [← Hw.out] at KW
            by_cases h8 : i < 8
            · cases hr : a.d.testBit i with
              | true =>
                cases hs : b.d.testBit i with
                | true =>
                  rw [hr, hs, if_pos (by decide)] at Hd
                  rw [hr] at Bad
                  rw [hs] at Bbd
                  have hqw : ((q0 : Int) + 2 ^ i) % 256 = (q1 : Int) := by have hdo := Hd.out; rw [← cast2]; omega
                  have KD := hid (KW.out.set hDw (hne D hCD) 1 (.int .u8 (q1 : Int)))
                  go_wp2_with fail
                  refine (Baw.out _).mono ?_
                  rintro e w' ⟨rfl, rfl⟩
                  go_wp2_with fail
                  refine (Bbw.out _).mono ?_
                  rintro e w' ⟨rfl, rfl⟩
                  go_wp2_with fail
                  refine (Bad.out _).mono ?_
                  rintro e w' ⟨rfl, rfl⟩
                  go_wp2_with fail
                  refine (Bbd.out _).mono ?_
                  rintro e w' ⟨rfl, rfl⟩
                  go_wp2_with fail
                  exact ⟨⟨i + 1, by go_num, by omega, by rw [Hp1.out, Hq1.out]; exact KD⟩, by simp [intOf]; omega⟩
                | false =>
                  rw [hr, hs, if_neg (by decide), Nat.add_zero] at Hd
                  rw [hr] at Bad
                  rw [hs] at Bbd
                  rw [← Hd.out] at KW
                  go_wp2_with fail
                  refine (Baw.out _).mono ?_
                  rintro e w' ⟨rfl, rfl⟩
                  go_wp2_with fail
                  refine (Bbw.out _).mono ?_
                  rintro e w' ⟨rfl, rfl⟩
                  go_wp2_with fail
                  refine (Bad.out _).mono ?_
                  rintro e w' ⟨rfl, rfl⟩
                  go_wp2_with fail
                  refine (Bbd.out _).mono ?_
                  rintro e w' ⟨rfl, rfl⟩
                  go_wp2_with fail
                  exact ⟨⟨i + 1, by go_num, by omega, by rw [Hp1.out, Hq1.out]; exact KW⟩, by simp [intOf]; omega⟩
              | false =>
                rw [hr, Bool.false_and, if_neg (by decide), Nat.add_zero] at Hd
                rw [hr] at Bad
                rw [← Hd.out] at KW
                go_wp2_with fail
                refine (Baw.out _).mono ?_
                rintro e w' ⟨rfl, rfl⟩
                go_wp2_with fail
                refine (Bbw.out _).mono ?_
                rintro e w' ⟨rfl, rfl⟩
                go_wp2_with fail
                refine (Bad.out _).mono ?_
                rintro e w' ⟨rfl, rfl⟩
                go_wp2_with fail
                exact ⟨⟨i + 1, by go_num, by omega, by rw [Hp1.out, Hq1.out]; exact KW⟩, by simp [intOf]; omega⟩
            · have h9 : (8 : Int) ≤ (i : Int) := by omega
              rw [if_neg (hbig i (by omega)), Nat.add_zero] at Hd
              rw [← Hd.out] at KW
              go_wp2_with fail
              refine (Baw.out _).mono ?_
              rintro e w' ⟨rfl, rfl⟩
              go_wp2_with fail
              refine (Bbw.out _).mono ?_
              rintro e w' ⟨rfl, rfl⟩
              go_wp2_with fail
              exact ⟨⟨i + 1, by go_num, by omega, by rw [Hp1.out, Hq1.out]; exact KW⟩, by simp [intOf]; omega⟩
        | false =>
          rw [hp, Bool.false_and, if_neg (by decide), Nat.add_zero] at Hw
          rw [hp] at Baw
          have KW := KM
          rw [← Hw.out] at KW
          by_cases h8 : i < 8
          · cases hr : a.d.testBit i with
            | true =>
              cases hs : b.d.testBit i with
              | true =>
                rw [hr, hs, if_pos (by decide)] at Hd
                rw [hr] at Bad
                rw [hs] at Bbd
                have hqw : ((q0 : Int) + 2 ^ i) % 256 = (q1 : Int) := by have hdo := Hd.out; rw [← cast2]; omega
                have KD := hid (KW.out.set hDw (hne D hCD) 1 (.int .u8 (q1 : Int)))
                go_wp2_with fail
                refine (Baw.out _).mono ?_
                rintro e w' ⟨rfl, rfl⟩
                go_wp2_with fail
                refine (Bad.out _).mono ?_
                rintro e w' ⟨rfl, rfl⟩
                go_wp2_with fail
                refine (Bbd.out _).mono ?_
                rintro e w' ⟨rfl, rfl⟩
                go_wp2_with fail
                exact ⟨⟨i + 1, by go_num, by omega, by rw [Hp1.out, Hq1.out]; exact KD⟩, by simp [intOf]; omega⟩
              | false =>
                rw [hr, hs, if_neg (by decide), Nat.add_zero] at Hd
                rw [hr] at Bad
                rw [hs] at Bbd
                rw [← Hd.out] at KW
                go_wp2_with fail
                refine (Baw.out _).mono ?_
                rintro e w' ⟨rfl, rfl⟩
                go_wp2_with fail
                refine (Bad.out _).mono ?_
                rintro e w' ⟨rfl, rfl⟩
                go_wp2_with fail
                refine (Bbd.out _).mono ?_
                rintro e w' ⟨rfl, rfl⟩
                go_wp2_with fail
                exact ⟨⟨i + 1, by go_num, by omega, by rw [Hp1.out, Hq1.out]; exact KW⟩, by simp [intOf]; omega⟩
            | false =>
              rw [hr, Bool.false_and, if_neg (by decide), Nat.add_zero] at Hd
              rw [hr] at Bad
              rw [← Hd.out] at KW
              go_wp2_with fail
              refine (Baw.out _).mono ?_
              rintro e w' ⟨rfl, rfl⟩
              go_wp2_with fail
              refine (Bad.out _).mono ?_
              rintro e w' ⟨rfl, rfl⟩
              go_wp2_with fail
              exact ⟨⟨i + 1, by go_num, by omega, by rw [Hp1.out, Hq1.out]; exact KW⟩, by simp [intOf]; omega⟩
          · have h9 : (8 : Int) ≤ (i : Int) := by omega
            rw [if_neg (hbig i (by omega)), Nat.add_zero] at Hd
            rw [← Hd.out] at KW
            go_wp2_with fail
            refine (Baw.out _).mono ?_
            rintro e w' ⟨rfl, rfl⟩
            go_wp2_with fail
            exact ⟨⟨i + 1, by go_num, by omega, by rw [Hp1.out, Hq1.out]; exact KW⟩, by simp [intOf]; omega⟩
      · obtain rfl : i = 32 := by omega
        obtain rfl : P = p0 := by rw [← Hp0.out]; exact (Nat.mod_eq_of_lt (show P < 2 ^ 32 from hPl)).symm
        obtain rfl : Q = q0 := by rw [← Hq0.out]; exact (Nat.mod_eq_of_lt (show Q < 2 ^ 32 from by omega)).symm
        clear HB HPb HQb Hp0 Hq0
        have K5 := KM.out.set hDw (hne D hCD) 3 (.int .i64 ln)
        obtain ⟨W5, hW5⟩ : ∃ W5, wr.setCell ⟨D, 3, none⟩ (.int .i64 ln) = W5 := ⟨_, rfl⟩
        rw [hW5] at K5
        have K6 := Mem.sub K5 (l' := [(C, [.int .u32 0, .int .u8 0, .int .i64 0, .int .i64 0], 26), (D, [.int .u32 (P : Int), .int .u8 (Q : Int), .int .i64 mx, .int .i64 ln], 26)]) (by
          intro p hp
          simp only [List.mem_cons, List.not_mem_nil, or_false] at hp
          rcases hp with rfl | rfl <;> simp)
        have hneC : ∀ p ∈ [(D, [Value.int .u32 (P : Int), .int .u8 (Q : Int), .int .i64 mx, .int .i64 ln], 26)], p.1 ≠ C := by
          intro p hp
          simp only [List.mem_cons, List.not_mem_nil, or_false] at hp
          subst hp
          show D ≠ C
          omega
        have K8 := hid (K6.four hAw.2.2 hneC (.int .u32 (P : Int)) (.int .u8 (Q : Int)) (.int .i64 mx) (.int .i64 ln))
        have R := hid (K8.out.at_ (b := C) (cs := [.int .u32 (P : Int), .int .u8 (Q : Int), .int .i64 mx, .int .i64 ln]) (t := 26) (by simp))
        have hD5 := K6.at_ (b := D) (cs := [.int .u32 (P : Int), .int .u8 (Q : Int), .int .i64 mx, .int .i64 ln]) (t := 26) (by simp)
        have hC5 := K6.at_ (b := C) (cs := [.int .u32 0, .int .u8 0, .int .i64 0, .int .i64 0]) (t := 26) (by simp)
        have g0 := hD5.cell (k := 0) rfl
        have g1 := hD5.cell (k := 1) rfl
        have g2 := hD5.cell (k := 2) rfl
        have g3 := hD5.cell (k := 3) rfl
        have z0 := hC5.cell (k := 0) rfl
        have z1 := hC5.cell (k := 1) rfl
        have z2 := hC5.cell (k := 2) rfl
        have z3 := hC5.cell (k := 3) rfl
        have y0 := hC5.free 0
        have y1 := hC5.free 1
        have y2 := hC5.free 2
        have y3 := hC5.free 3
        have Hv := hid (show Value.tuple #[wv (Whn.share a b), .bool true] = .tuple #[.agg #[.int .u32 (P : Int), .int .u8 (Q : Int), .int .i64 mx, .int .i64 ln], .bool true] by unfold wv; rw [HP.out, HQ.out, Hmx.out, Hln.out])
        clear K5 K6 hD5 hC5 KM hO HM hneC hne c0 c1 d0 d1 f0 f1
        go_wp2_with fail
        have r0 := R.out.cell (k := 0) rfl
        have r1 := R.out.cell (k := 1) rfl
        have r2 := R.out.cell (k := 2) rfl
        have r3 := R.out.cell (k := 3) rfl
        exact bodyPost_ret (v := .tuple #[.agg #[.int .u32 (P : Int), .int .u8 (Q : Int), .int .i64 mx, .int .i64 ln], .bool true]) (by simp [results, Tryd.results28, go_sem, r0, r1, r2, r3]) rfl (Did.mk (by rw [Hr.out, Hv.out]) K8.out.2)
end Go.Proofs.YtcdldgmgmbopdaaDoor

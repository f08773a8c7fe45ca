/- Contracts of the document's own answer for layer 10 (clock): Weeks. -/
import Derived.Test.YtfnjnkmdifigdaaDoorClkV
import Derived.Test.YtfnjnkmdifigdaaDoorClkX
import Derived.Test.YtfnjnkmdifigdaaDoorBop
namespace Go.Proofs.YtfnjnkmdifigdaaDoor
open Go.RowKit

theorem bs_lit (a : Array UInt8) : (⟨a⟩ : ByteArray) = bs a.toList := rfl
theorem bit_u32 (n i : Nat) : ((n : Int) / 2 ^ i).tmod 2 = if n.testBit i = true then 1 else 0 := by
  have h1 : ((n : Int) / 2 ^ i).tmod 2 = ((n / 2 ^ i % 2 : Nat) : Int) := by
    rw [Int.tmod_eq_emod_of_nonneg (Int.ediv_nonneg (by omega) (Int.pow_nonneg (by decide)))]
    rw [Int.natCast_emod, Int.natCast_ediv, Int.natCast_pow]
    rfl
  rw [h1, Nat.testBit_eq_decide_div_mod_eq]
  split
  · rename_i h
    have := of_decide_eq_true h
    omega
  · rename_i h
    have : ¬ n / 2 ^ i % 2 = 1 := fun h2 => h (decide_eq_true h2)
    omega
set_option maxRecDepth 10000 in
set_option maxHeartbeats 1000000 in
theorem r10_Weeks (v : Nat) (w : World) : Calls Tryd.prog 19 #[.int .u32 (v : Int)] w (Did (txt (Clk.wk v)) w) := by
  have HP := hid (fun (n : Nat) (hn : n < 1000) w => r_Print (n : Int) (by omega) (by omega) w)
  go_enter Tryd.func19, Tryd.ntmps19
  go_wp2_with fail
  go_loopw [3, 4] (fun sv iv wr => ∃ i : Nat, sv = txt (Clk.wt (Clk.runs v i)) ∧ iv = .int .i64 i ∧ i ≤ 20 ∧ Below w.heap.size w wr) (fun _ iv _ => 20 - (intOf iv).toNat)
  case atStart => exact ⟨0, by rfl, rfl, Nat.zero_le _, Below.refl _ _⟩
  case round =>
    obtain ⟨i, rfl, rfl, hi, hb⟩ := hrel
    by_cases hlt : i < 20
    · cases hbeg : Clk.beg v i with
      | false =>
        have Hs := hid (show Clk.runs v (i + 1) = Clk.runs v i by rw [Clk.runs, hbeg, if_neg (by decide), List.append_nil])
        have hbi := bit_u32 v i
        unfold Clk.beg at hbeg
        cases hb0 : v.testBit i with
        | false =>
          rw [hb0, if_neg (by decide)] at hbi
          clear hb0 hbeg
          go_wp2_with fail
          exact ⟨⟨i + 1, by rw [Hs.out], by go_num, by omega, hb⟩, by simp [intOf]; omega⟩
        | true =>
          rw [hb0, if_pos rfl] at hbi
          rw [hb0, Bool.true_and, Bool.not_eq_false', Bool.and_eq_true, decide_eq_true_iff] at hbeg
          obtain ⟨j, rfl⟩ : ∃ j, i = j + 1 := ⟨i - 1, by omega⟩
          have hbj := bit_u32 v j
          rw [show j = j + 1 - 1 by omega, hbeg.2, if_pos rfl] at hbj
          rw [show j + 1 - 1 = j by omega] at hbj
          clear hb0 hbeg
          go_wp2_with fail
          exact ⟨⟨j + 1 + 1, by rw [Hs.out], by go_num, by omega, hb⟩, by simp [intOf]; omega⟩
      | true =>
        obtain ⟨F, e, HF, He, Hs⟩ : ∃ F e, Hid (F = 20) ∧ Hid (Clk.enF v F i = e) ∧ Hid (Clk.runs v (i + 1) = Clk.runs v i ++ [(i + 1, e + 1)]) := ⟨20, Clk.enF v 20 i, hid rfl, hid rfl, hid (by rw [Clk.runs, hbeg, if_pos rfl]; rfl)⟩
        have hbi := bit_u32 v i
        unfold Clk.beg at hbeg
        rw [Bool.and_eq_true, Bool.not_eq_true'] at hbeg
        obtain ⟨hb0, hb1⟩ := hbeg
        rw [hb0, if_pos rfl] at hbi
        have key : i = 0 ∨ ∃ j, i = j + 1 ∧ ((v : Int) / 2 ^ j).tmod 2 = 0 := by
          rcases Nat.eq_zero_or_pos i with h | h
          · exact .inl h
          · refine .inr ⟨i - 1, by omega, ?_⟩
            have := bit_u32 v (i - 1)
            rw [decide_eq_true h, Bool.true_and] at hb1
            rw [hb1, if_neg (by decide)] at this
            exact this
        clear hb0 hb1
        rcases key with h0 | ⟨j, rfl, hbj⟩
        · have hi0 : ¬ (0 : Int) < (i : Int) := by omega
          clear h0
          go_wp2_with fail
          clear hi0
          go_loop [5] (fun kv => ∃ k f : Nat, kv = .int .i64 k ∧ i ≤ k ∧ k < 20 ∧ Hid (f + k = F + (i)) ∧ Hid (e = Clk.enF v f k)) (fun kv => 20 - (intOf kv).toNat)
          case atStart => exact ⟨i, F, by go_num, Nat.le_refl _, by omega, hid rfl, hid He.out.symm⟩
          case round =>
            obtain ⟨k, f, rfl, hik, hk20, hfk, Hen⟩ := hrel
            have stp : Clk.enF v f k = if k + 1 < 20 ∧ v.testBit (k + 1) = true then Clk.enF v (f - 1) (k + 1) else k := by
              obtain ⟨f', rfl⟩ : ∃ f', f = f' + 1 := ⟨f - 1, by have := hfk.out; have := HF.out; omega⟩
              rfl
            have Stp := hid stp
            clear stp
            by_cases hc : k + 1 < 20 ∧ v.testBit (k + 1) = true
            · have hbk := bit_u32 v (k + 1)
              rw [hc.2, if_pos rfl] at hbk
              have Hen2 := hid (show e = Clk.enF v (f - 1) (k + 1) by rw [Hen.out, Stp.out, if_pos hc])
              have hc1 : decide ((k : Int) + 1 < 20) = true := decide_eq_true (by omega)
              have hc2 := hc.1
              clear hc
              go_wp2_with fail
              clear hbi
              exact ⟨⟨k + 1, f - 1, by go_num, by omega, by omega, hid (by have := hfk.out; have := HF.out; omega), Hen2⟩, by simp [intOf]; omega⟩
            · have Hk := hid (show e = k by rw [Hen.out, Stp.out, if_neg hc])
              have Hs2 := hid (show Clk.wt (Clk.runs v (i + 1)) = if Clk.runs v (i) = [] then Clk.rt (i + 1, k + 1) else Clk.wt (Clk.runs v (i)) ++ 44 :: Clk.rt (i + 1, k + 1) by rw [Hs.out, Hk.out, Clk.wt_snoc])
              have hw0 := Clk.wt_nil (Clk.runs v (i))
              have hl1 := Clk.wt_len (Clk.runs v (i))
              have hl2 := Clk.runs_len v (i)
              have HPa := hid (fun w => HP.out (i + 1) (by omega) w)
              have HPb := hid (fun w => HP.out (k + 1) (by omega) w)
              rw [wi_nat] at HPa HPb
              have z1 : (bs (Dig.wd (i + 1))).size ≤ 20 := by rw [bs_size]; exact Dig.wd_length_le _
              have z2 : (bs (Dig.wd (k + 1))).size ≤ 20 := by rw [bs_size]; exact Dig.wd_length_le _
              have zl : (bs (Clk.wt (Clk.runs v (i)))).size ≤ 840 := by rw [bs_size]; omega
              have hrt : Clk.rt (i + 1, k + 1) = if i < k then Dig.wd (i + 1) ++ 45 :: Dig.wd (k + 1) else Dig.wd (i + 1) := by
                unfold Clk.rt
                by_cases h : i < k
                · rw [if_pos h, if_pos (show i + 1 < k + 1 by omega)]
                · rw [if_neg h, if_neg (show ¬ i + 1 < k + 1 by omega)]
              have Hrt := hid hrt
              have hex : ¬ (k + 1 < 20) ∨ (k + 1 < 20 ∧ v.testBit (k + 1) = false) := by
                by_cases h : k + 1 < 20
                · exact .inr ⟨h, Bool.eq_false_iff.2 fun h2 => hc ⟨h, h2⟩⟩
                · exact .inl h
              have Hex := hid hex
              have hbk := bit_u32 v (k + 1)
              have Hbk := hid hbk
              have Hw0 := hid hw0
              generalize Clk.wt (Clk.runs v (i)) = L at *
              generalize Dig.wd (i + 1) = ta at *
              generalize Dig.wd (k + 1) = tb at *
              clear hrt hw0 hl1 hl2 hc hex hbk hbi
              have hsz : (bs L).size = L.length := bs_size L
              have key2 : (L = [] ∧ Hid (Clk.runs v (i) = [])) ∨ (L ≠ [] ∧ Hid (Clk.runs v (i) ≠ [])) := by
                by_cases h : L = []
                · exact .inl ⟨h, hid (Hw0.out.1 h)⟩
                · exact .inr ⟨h, hid (fun h2 => h (Hw0.out.2 h2))⟩
              rcases key2 with ⟨hL, HL⟩ | ⟨hL, HL⟩
              · subst hL
                have e1 : (bs ([] : List UInt8)).toList = [] := by rw [list_of]; rfl
                have e2 : (bs ([] : List UInt8)).toList.isEmpty = true := by rw [e1]; rfl
                clear hsz
                have Hs3 := hid (show Clk.wt (Clk.runs v (i + 1)) = Clk.rt (i + 1, k + 1) by rw [Hs2.out, if_pos HL.out])
                rcases Hex.out with h20 | ⟨h20, hbf⟩
                · have hc1 : decide ((k : Int) + 1 < 20) = false := decide_eq_false (by omega)
                  go_wp2_with fail
                  refine (HPa.out _).mono ?_
                  rintro e w1 ⟨rfl, b1⟩
                  have hb1 := hb.trans (b1.mono hb.size)
                  by_cases hik2 : i < k
                  · have t1 : decide (((i : Int)) < (k : Int)) = true := decide_eq_true (by omega)
                    have t2 : decide (i < k) = true := decide_eq_true hik2
                    have Hf := hid (show Clk.wt (Clk.runs v (i + 1)) = ta ++ 45 :: tb by rw [Hs3.out, Hrt.out, if_pos hik2])
                    clear hik2
                    go_wp2_with fail
                    refine (HPb.out _).mono ?_
                    rintro e w2 ⟨rfl, b2⟩
                    have hb2 := hb1.trans (b2.mono hb1.size)
                    go_wp2_with fail
                    exact ⟨⟨i + 1, by rw [Hf.out]; simp only [txt, bs_lit, bs_append]; simp, by go_num, by omega, hb2⟩, by simp [intOf]; omega⟩
                  · have t1 : decide (((i : Int)) < (k : Int)) = false := decide_eq_false (by omega)
                    have t2 : decide (i < k) = false := decide_eq_false hik2
                    have Hf := hid (show Clk.wt (Clk.runs v (i + 1)) = ta by rw [Hs3.out, Hrt.out, if_neg hik2])
                    clear hik2
                    go_wp2_with fail
                    exact ⟨⟨i + 1, by rw [Hf.out]; simp only [txt, bs_append]; simp, by go_num, by omega, hb1⟩, by simp [intOf]; omega⟩
                · have hbk := Hbk.out
                  rw [hbf, if_neg (by decide)] at hbk
                  have hc1 : decide ((k : Int) + 1 < 20) = true := decide_eq_true (by omega)
                  clear hbf
                  go_wp2_with fail
                  refine (HPa.out _).mono ?_
                  rintro e w1 ⟨rfl, b1⟩
                  have hb1 := hb.trans (b1.mono hb.size)
                  by_cases hik2 : i < k
                  · have t1 : decide (((i : Int)) < (k : Int)) = true := decide_eq_true (by omega)
                    have t2 : decide (i < k) = true := decide_eq_true hik2
                    have Hf := hid (show Clk.wt (Clk.runs v (i + 1)) = ta ++ 45 :: tb by rw [Hs3.out, Hrt.out, if_pos hik2])
                    clear hik2
                    go_wp2_with fail
                    refine (HPb.out _).mono ?_
                    rintro e w2 ⟨rfl, b2⟩
                    have hb2 := hb1.trans (b2.mono hb1.size)
                    go_wp2_with fail
                    exact ⟨⟨i + 1, by rw [Hf.out]; simp only [txt, bs_lit, bs_append]; simp, by go_num, by omega, hb2⟩, by simp [intOf]; omega⟩
                  · have t1 : decide (((i : Int)) < (k : Int)) = false := decide_eq_false (by omega)
                    have t2 : decide (i < k) = false := decide_eq_false hik2
                    have Hf := hid (show Clk.wt (Clk.runs v (i + 1)) = ta by rw [Hs3.out, Hrt.out, if_neg hik2])
                    clear hik2
                    go_wp2_with fail
                    exact ⟨⟨i + 1, by rw [Hf.out]; simp only [txt, bs_append]; simp, by go_num, by omega, hb1⟩, by simp [intOf]; omega⟩
              · have e1 : ¬ (bs L).toList = [] := fun e => hL (by rw [list_of] at e; exact e)
                have e2 : (bs L).toList.isEmpty = false := by rw [Bool.eq_false_iff]; intro h; exact e1 (List.isEmpty_iff.1 h)
                have Hs3 := hid (show Clk.wt (Clk.runs v (i + 1)) = L ++ 44 :: Clk.rt (i + 1, k + 1) by rw [Hs2.out, if_neg HL.out])
                have hszp : 0 < L.length := List.length_pos_iff.2 hL
                clear hsz hL
                rcases Hex.out with h20 | ⟨h20, hbf⟩
                · have hc1 : decide ((k : Int) + 1 < 20) = false := decide_eq_false (by omega)
                  go_wp2_with fail
                  refine (HPa.out _).mono ?_
                  rintro e w1 ⟨rfl, b1⟩
                  have hb1 := hb.trans (b1.mono hb.size)
                  by_cases hik2 : i < k
                  · have t1 : decide (((i : Int)) < (k : Int)) = true := decide_eq_true (by omega)
                    have t2 : decide (i < k) = true := decide_eq_true hik2
                    have Hf := hid (show Clk.wt (Clk.runs v (i + 1)) = L ++ 44 :: ta ++ 45 :: tb by rw [Hs3.out, Hrt.out, if_pos hik2]; simp)
                    clear hik2
                    go_wp2_with fail
                    refine (HPb.out _).mono ?_
                    rintro e w2 ⟨rfl, b2⟩
                    have hb2 := hb1.trans (b2.mono hb1.size)
                    go_wp2_with fail
                    exact ⟨⟨i + 1, by rw [Hf.out]; simp only [txt, bs_lit, bs_append]; simp, by go_num, by omega, hb2⟩, by simp [intOf]; omega⟩
                  · have t1 : decide (((i : Int)) < (k : Int)) = false := decide_eq_false (by omega)
                    have t2 : decide (i < k) = false := decide_eq_false hik2
                    have Hf := hid (show Clk.wt (Clk.runs v (i + 1)) = L ++ 44 :: ta by rw [Hs3.out, Hrt.out, if_neg hik2])
                    clear hik2
                    go_wp2_with fail
                    exact ⟨⟨i + 1, by rw [Hf.out]; simp only [txt, bs_lit, bs_append]; simp, by go_num, by omega, hb1⟩, by simp [intOf]; omega⟩
                · have hbk := Hbk.out
                  rw [hbf, if_neg (by decide)] at hbk
                  have hc1 : decide ((k : Int) + 1 < 20) = true := decide_eq_true (by omega)
                  clear hbf
                  go_wp2_with fail
                  refine (HPa.out _).mono ?_
                  rintro e w1 ⟨rfl, b1⟩
                  have hb1 := hb.trans (b1.mono hb.size)
                  by_cases hik2 : i < k
                  · have t1 : decide (((i : Int)) < (k : Int)) = true := decide_eq_true (by omega)
                    have t2 : decide (i < k) = true := decide_eq_true hik2
                    have Hf := hid (show Clk.wt (Clk.runs v (i + 1)) = L ++ 44 :: ta ++ 45 :: tb by rw [Hs3.out, Hrt.out, if_pos hik2]; simp)
                    clear hik2
                    go_wp2_with fail
                    refine (HPb.out _).mono ?_
                    rintro e w2 ⟨rfl, b2⟩
                    have hb2 := hb1.trans (b2.mono hb1.size)
                    go_wp2_with fail
                    exact ⟨⟨i + 1, by rw [Hf.out]; simp only [txt, bs_lit, bs_append]; simp, by go_num, by omega, hb2⟩, by simp [intOf]; omega⟩
                  · have t1 : decide (((i : Int)) < (k : Int)) = false := decide_eq_false (by omega)
                    have t2 : decide (i < k) = false := decide_eq_false hik2
                    have Hf := hid (show Clk.wt (Clk.runs v (i + 1)) = L ++ 44 :: ta by rw [Hs3.out, Hrt.out, if_neg hik2])
                    clear hik2
                    go_wp2_with fail
                    exact ⟨⟨i + 1, by rw [Hf.out]; simp only [txt, bs_lit, bs_append]; simp, by go_num, by omega, hb1⟩, by simp [intOf]; omega⟩
        · go_wp2_with fail
          go_loop [5] (fun kv => ∃ k f : Nat, kv = .int .i64 k ∧ j + 1 ≤ k ∧ k < 20 ∧ Hid (f + k = F + (j + 1)) ∧ Hid (e = Clk.enF v f k)) (fun kv => 20 - (intOf kv).toNat)
          case atStart => exact ⟨j + 1, F, by go_num, Nat.le_refl _, by omega, hid rfl, hid He.out.symm⟩
          case round =>
            obtain ⟨k, f, rfl, hik, hk20, hfk, Hen⟩ := hrel
            have stp : Clk.enF v f k = if k + 1 < 20 ∧ v.testBit (k + 1) = true then Clk.enF v (f - 1) (k + 1) else k := by
              obtain ⟨f', rfl⟩ : ∃ f', f = f' + 1 := ⟨f - 1, by have := hfk.out; have := HF.out; omega⟩
              rfl
            have Stp := hid stp
            clear stp
            by_cases hc : k + 1 < 20 ∧ v.testBit (k + 1) = true
            · have hbk := bit_u32 v (k + 1)
              rw [hc.2, if_pos rfl] at hbk
              have Hen2 := hid (show e = Clk.enF v (f - 1) (k + 1) by rw [Hen.out, Stp.out, if_pos hc])
              have hc1 : decide ((k : Int) + 1 < 20) = true := decide_eq_true (by omega)
              have hc2 := hc.1
              clear hc
              go_wp2_with fail
              clear hbi
              exact ⟨⟨k + 1, f - 1, by go_num, by omega, by omega, hid (by have := hfk.out; have := HF.out; omega), Hen2⟩, by simp [intOf]; omega⟩
            · have Hk := hid (show e = k by rw [Hen.out, Stp.out, if_neg hc])
              have Hs2 := hid (show Clk.wt (Clk.runs v (j + 1 + 1)) = if Clk.runs v (j + 1) = [] then Clk.rt (j + 1 + 1, k + 1) else Clk.wt (Clk.runs v (j + 1)) ++ 44 :: Clk.rt (j + 1 + 1, k + 1) by rw [Hs.out, Hk.out, Clk.wt_snoc])
              have hw0 := Clk.wt_nil (Clk.runs v (j + 1))
              have hl1 := Clk.wt_len (Clk.runs v (j + 1))
              have hl2 := Clk.runs_len v (j + 1)
              have HPa := hid (fun w => HP.out (j + 1 + 1) (by omega) w)
              have HPb := hid (fun w => HP.out (k + 1) (by omega) w)
              rw [wi_nat] at HPa HPb
              have z1 : (bs (Dig.wd (j + 1 + 1))).size ≤ 20 := by rw [bs_size]; exact Dig.wd_length_le _
              have z2 : (bs (Dig.wd (k + 1))).size ≤ 20 := by rw [bs_size]; exact Dig.wd_length_le _
              have zl : (bs (Clk.wt (Clk.runs v (j + 1)))).size ≤ 840 := by rw [bs_size]; omega
              have hrt : Clk.rt (j + 1 + 1, k + 1) = if j + 1 < k then Dig.wd (j + 1 + 1) ++ 45 :: Dig.wd (k + 1) else Dig.wd (j + 1 + 1) := by
                unfold Clk.rt
                by_cases h : j + 1 < k
                · rw [if_pos h, if_pos (show j + 1 + 1 < k + 1 by omega)]
                · rw [if_neg h, if_neg (show ¬ j + 1 + 1 < k + 1 by omega)]
              have Hrt := hid hrt
              have hex : ¬ (k + 1 < 20) ∨ (k + 1 < 20 ∧ v.testBit (k + 1) = false) := by
                by_cases h : k + 1 < 20
                · exact .inr ⟨h, Bool.eq_false_iff.2 fun h2 => hc ⟨h, h2⟩⟩
                · exact .inl h
              have Hex := hid hex
              have hbk := bit_u32 v (k + 1)
              have Hbk := hid hbk
              have Hw0 := hid hw0
              generalize Clk.wt (Clk.runs v (j + 1)) = L at *
              generalize Dig.wd (j + 1 + 1) = ta at *
              generalize Dig.wd (k + 1) = tb at *
              clear hrt hw0 hl1 hl2 hc hex hbk hbi
              have hsz : (bs L).size = L.length := bs_size L
              have key2 : (L = [] ∧ Hid (Clk.runs v (j + 1) = [])) ∨ (L ≠ [] ∧ Hid (Clk.runs v (j + 1) ≠ [])) := by
                by_cases h : L = []
                · exact .inl ⟨h, hid (Hw0.out.1 h)⟩
                · exact .inr ⟨h, hid (fun h2 => h (Hw0.out.2 h2))⟩
              rcases key2 with ⟨hL, HL⟩ | ⟨hL, HL⟩
              · subst hL
                have e1 : (bs ([] : List UInt8)).toList = [] := by rw [list_of]; rfl
                have e2 : (bs ([] : List UInt8)).toList.isEmpty = true := by rw [e1]; rfl
                clear hsz
                have Hs3 := hid (show Clk.wt (Clk.runs v (j + 1 + 1)) = Clk.rt (j + 1 + 1, k + 1) by rw [Hs2.out, if_pos HL.out])
                rcases Hex.out with h20 | ⟨h20, hbf⟩
                · have hc1 : decide ((k : Int) + 1 < 20) = false := decide_eq_false (by omega)
                  go_wp2_with fail
                  refine (HPa.out _).mono ?_
                  rintro e w1 ⟨rfl, b1⟩
                  have hb1 := hb.trans (b1.mono hb.size)
                  by_cases hik2 : j + 1 < k
                  · have t1 : decide (((j : Int) + 1) < (k : Int)) = true := decide_eq_true (by omega)
                    have t2 : decide (j + 1 < k) = true := decide_eq_true hik2
                    have Hf := hid (show Clk.wt (Clk.runs v (j + 1 + 1)) = ta ++ 45 :: tb by rw [Hs3.out, Hrt.out, if_pos hik2])
                    clear hik2
                    go_wp2_with fail
                    refine (HPb.out _).mono ?_
                    rintro e w2 ⟨rfl, b2⟩
                    have hb2 := hb1.trans (b2.mono hb1.size)
                    go_wp2_with fail
                    exact ⟨⟨j + 1 + 1, by rw [Hf.out]; simp only [txt, bs_lit, bs_append]; simp, by go_num, by omega, hb2⟩, by simp [intOf]; omega⟩
                  · have t1 : decide (((j : Int) + 1) < (k : Int)) = false := decide_eq_false (by omega)
                    have t2 : decide (j + 1 < k) = false := decide_eq_false hik2
                    have Hf := hid (show Clk.wt (Clk.runs v (j + 1 + 1)) = ta by rw [Hs3.out, Hrt.out, if_neg hik2])
                    clear hik2
                    go_wp2_with fail
                    exact ⟨⟨j + 1 + 1, by rw [Hf.out]; simp only [txt, bs_append]; simp, by go_num, by omega, hb1⟩, by simp [intOf]; omega⟩
                · have hbk := Hbk.out
                  rw [hbf, if_neg (by decide)] at hbk
                  have hc1 : decide ((k : Int) + 1 < 20) = true := decide_eq_true (by omega)
                  clear hbf
                  go_wp2_with fail
                  refine (HPa.out _).mono ?_
                  rintro e w1 ⟨rfl, b1⟩
                  have hb1 := hb.trans (b1.mono hb.size)
                  by_cases hik2 : j + 1 < k
                  · have t1 : decide (((j : Int) + 1) < (k : Int)) = true := decide_eq_true (by omega)
                    have t2 : decide (j + 1 < k) = true := decide_eq_true hik2
                    have Hf := hid (show Clk.wt (Clk.runs v (j + 1 + 1)) = ta ++ 45 :: tb by rw [Hs3.out, Hrt.out, if_pos hik2])
                    clear hik2
                    go_wp2_with fail
                    refine (HPb.out _).mono ?_
                    rintro e w2 ⟨rfl, b2⟩
                    have hb2 := hb1.trans (b2.mono hb1.size)
                    go_wp2_with fail
                    exact ⟨⟨j + 1 + 1, by rw [Hf.out]; simp only [txt, bs_lit, bs_append]; simp, by go_num, by omega, hb2⟩, by simp [intOf]; omega⟩
                  · have t1 : decide (((j : Int) + 1) < (k : Int)) = false := decide_eq_false (by omega)
                    have t2 : decide (j + 1 < k) = false := decide_eq_false hik2
                    have Hf := hid (show Clk.wt (Clk.runs v (j + 1 + 1)) = ta by rw [Hs3.out, Hrt.out, if_neg hik2])
                    clear hik2
                    go_wp2_with fail
                    exact ⟨⟨j + 1 + 1, by rw [Hf.out]; simp only [txt, bs_append]; simp, by go_num, by omega, hb1⟩, by simp [intOf]; omega⟩
              · have e1 : ¬ (bs L).toList = [] := fun e => hL (by rw [list_of] at e; exact e)
                have e2 : (bs L).toList.isEmpty = false := by rw [Bool.eq_false_iff]; intro h; exact e1 (List.isEmpty_iff.1 h)
                have Hs3 := hid (show Clk.wt (Clk.runs v (j + 1 + 1)) = L ++ 44 :: Clk.rt (j + 1 + 1, k + 1) by rw [Hs2.out, if_neg HL.out])
                have hszp : 0 < L.length := List.length_pos_iff.2 hL
                clear hsz hL
                rcases Hex.out with h20 | ⟨h20, hbf⟩
                · have hc1 : decide ((k : Int) + 1 < 20) = false := decide_eq_false (by omega)
                  go_wp2_with fail
                  refine (HPa.out _).mono ?_
                  rintro e w1 ⟨rfl, b1⟩
                  have hb1 := hb.trans (b1.mono hb.size)
                  by_cases hik2 : j + 1 < k
                  · have t1 : decide (((j : Int) + 1) < (k : Int)) = true := decide_eq_true (by omega)
                    have t2 : decide (j + 1 < k) = true := decide_eq_true hik2
                    have Hf := hid (show Clk.wt (Clk.runs v (j + 1 + 1)) = L ++ 44 :: ta ++ 45 :: tb by rw [Hs3.out, Hrt.out, if_pos hik2]; simp)
                    clear hik2
                    go_wp2_with fail
                    refine (HPb.out _).mono ?_
                    rintro e w2 ⟨rfl, b2⟩
                    have hb2 := hb1.trans (b2.mono hb1.size)
                    go_wp2_with fail
                    exact ⟨⟨j + 1 + 1, by rw [Hf.out]; simp only [txt, bs_lit, bs_append]; simp, by go_num, by omega, hb2⟩, by simp [intOf]; omega⟩
                  · have t1 : decide (((j : Int) + 1) < (k : Int)) = false := decide_eq_false (by omega)
                    have t2 : decide (j + 1 < k) = false := decide_eq_false hik2
                    have Hf := hid (show Clk.wt (Clk.runs v (j + 1 + 1)) = L ++ 44 :: ta by rw [Hs3.out, Hrt.out, if_neg hik2])
                    clear hik2
                    go_wp2_with fail
                    exact ⟨⟨j + 1 + 1, by rw [Hf.out]; simp only [txt, bs_lit, bs_append]; simp, by go_num, by omega, hb1⟩, by simp [intOf]; omega⟩
                · have hbk := Hbk.out
                  rw [hbf, if_neg (by decide)] at hbk
                  have hc1 : decide ((k : Int) + 1 < 20) = true := decide_eq_true (by omega)
                  clear hbf
                  go_wp2_with fail
                  refine (HPa.out _).mono ?_
                  rintro e w1 ⟨rfl, b1⟩
                  have hb1 := hb.trans (b1.mono hb.size)
                  by_cases hik2 : j + 1 < k
                  · have t1 : decide (((j : Int) + 1) < (k : Int)) = true := decide_eq_true (by omega)
                    have t2 : decide (j + 1 < k) = true := decide_eq_true hik2
                    have Hf := hid (show Clk.wt (Clk.runs v (j + 1 + 1)) = L ++ 44 :: ta ++ 45 :: tb by rw [Hs3.out, Hrt.out, if_pos hik2]; simp)
                    clear hik2
                    go_wp2_with fail
                    refine (HPb.out _).mono ?_
                    rintro e w2 ⟨rfl, b2⟩
                    have hb2 := hb1.trans (b2.mono hb1.size)
                    go_wp2_with fail
                    exact ⟨⟨j + 1 + 1, by rw [Hf.out]; simp only [txt, bs_lit, bs_append]; simp, by go_num, by omega, hb2⟩, by simp [intOf]; omega⟩
                  · have t1 : decide (((j : Int) + 1) < (k : Int)) = false := decide_eq_false (by omega)
                    have t2 : decide (j + 1 < k) = false := decide_eq_false hik2
                    have Hf := hid (show Clk.wt (Clk.runs v (j + 1 + 1)) = L ++ 44 :: ta by rw [Hs3.out, Hrt.out, if_neg hik2])
                    clear hik2
                    go_wp2_with fail
                    exact ⟨⟨j + 1 + 1, by rw [Hf.out]; simp only [txt, bs_lit, bs_append]; simp, by go_num, by omega, hb1⟩, by simp [intOf]; omega⟩
    · obtain rfl : i = 20 := by omega
      have Hk := hid (Clk.wk_runs v)
      generalize Clk.wt (Clk.runs v 20) = L at *
      go_wp2_with fail
      go_ret
      exact Did.mk (by rw [← Hk.out]; rfl) hb
end Go.Proofs.YtfnjnkmdifigdaaDoor

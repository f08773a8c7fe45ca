/- Contracts of layer 10 (clock): ParseWeeks. -/
import Derived.Test.YtfnjnkmdifigdaaDoorClkG
namespace Go.Proofs.YtfnjnkmdifigdaaDoor
open Go.RowKit

/-- what ParseWeeks hands out -/
def pwkV (s : List UInt8) : Value := .tuple #[.int .u32 ((Clk.pwk s).1 : Int), .int .i64 ((Clk.pwk s).2 : Int)]
def msz : Value → Value → Nat
  | .string s, .bool true => s.size + 1
  | _, _ => 0
def inr (l : List (Nat × Nat)) : Bool := l.all fun p => decide (1 ≤ p.1 ∧ p.2 ≤ 20)
theorem inr_snoc (l : List (Nat × Nat)) (p : Nat × Nat) : inr (l ++ [p]) = (inr l && decide (1 ≤ p.1 ∧ p.2 ≤ 20)) := by
  unfold inr
  rw [List.all_append]
  simp
theorem cut_split (c : UInt8) (t : List UInt8) : ∃ h r m, Lib.cut t [c] = (h, r, m) ∧ Wrd.cut c t = h :: (if m = true then Wrd.cut c r else []) ∧ (m = true → r.length < t.length) ∧ r.length ≤ t.length ∧ h.length ≤ t.length := by
  rcases Clk.lib_cut c t with ⟨h1, h2⟩ | ⟨a, b, h1, h2, h3⟩
  · exact ⟨_, _, _, h2, by rw [if_neg (by decide), Wrd.cut_one c t h1], (fun h => by cases h), Nat.zero_le _, Nat.le_refl _⟩
  · have hl := congrArg List.length h1
    rw [List.length_append, List.length_cons] at hl
    exact ⟨_, _, _, h3, by rw [if_pos rfl, h1, Wrd.cut_append c a b h2], fun _ => by omega, by omega, by omega⟩
/-- what a row of runs has come to: its weeks and no error, or an error alone -/
def Wks (l : List (Nat × Nat)) (x n : Nat) : Prop := (inr l = true ∧ n = 0 ∧ x = Clk.wof l) ∨ (inr l = false ∧ n = 6)
set_option maxRecDepth 10000 in
set_option maxHeartbeats 2000000 in
theorem p_ParseWeeks (s : List UInt8) (hs : s.length ≤ 300000) (w : World) (hE : Env w) : Calls Tryd.prog 16 #[txt s] w (Did (pwkV s) w) := by
  have HE := hid hE
  clear hE
  go_enter Tryd.func16, Tryd.ntmps16
  go_wp2_with fail
  go_loopw [0, 4, 5, 6, 7] (fun sv wv ev av mv wr => ∃ (t : List UInt8) (a : List (List UInt8)) (l : List (Nat × Nat)) (m : Bool) (x n : Nat), sv = txt t ∧ mv = .bool m ∧ av = .int .i64 (Clk.ah l) ∧ wv = .int .u32 (x : Int) ∧ ev = .int .i64 (n : Int) ∧ Hid (Wrd.cut 44 s = a ++ if m = true then Wrd.cut 44 t else []) ∧ Hid (Clk.Got s a l) ∧ t.length ≤ s.length ∧ x < 2 ^ 20 ∧ Hid (Wks l x n) ∧ -2 ≤ Clk.ah l ∧ Clk.ah l ≤ 99 ∧ Below w.heap.size w wr) (fun sv _ _ _ mv _ => msz sv mv)
  case atStart => exact ⟨s, [], [], true, 0, 0, rfl, rfl, rfl, rfl, rfl, rfl, Clk.Got.start s, Nat.le_refl _, by decide, .inl ⟨rfl, rfl, Clk.wof_nil.symm⟩, by decide, by decide, Below.refl _ _⟩
  case round =>
    obtain ⟨t, a, l, m, x, n, rfl, rfl, rfl, rfl, rfl, Hcut, Hgot, htl, hx, Hwk, hz1, hz2, hb⟩ := hrel
    have hbs := hb.size
    have HE1 := hid (HE.out.next hb)
    cases m with
    | false =>
      have Hall := hid (Clk.pwk_all (s := s) (a := a) (l := l) (by rw [Hcut.out]; simp) Hgot.out)
      rcases Hwk.out with ⟨k1, rfl, rfl⟩ | ⟨k1, rfl⟩
      · have Hr := hid (show pwkV s = .tuple #[.int .u32 (Clk.wof l : Int), .int .i64 0] by unfold pwkV; rw [Hall.out]; unfold inr at k1; rw [if_pos k1]; rfl)
        clear k1
        generalize Clk.wof l = x at *
        generalize Clk.ah l = z at *
        go_wp2_with fail
        go_ret2
        exact Did.mk Hr.out.symm hb
      · have Hr := hid (show pwkV s = .tuple #[.int .u32 0, .int .i64 6] by unfold pwkV; rw [Hall.out]; unfold inr at k1; rw [if_neg (by rw [k1]; decide)]; rfl)
        clear k1
        generalize Clk.ah l = z at *
        go_wp2_with fail
        go_ret2
        exact Did.mk Hr.out.symm hb
    | true =>
      obtain ⟨h, r, m, e1, e2, e3, e4, e5⟩ := cut_split 44 t
      have HC := hid (fun w hE => p_cut 44 t (by omega) w hE)
      rw [e1] at HC
      have Hcut2 := hid (show Wrd.cut 44 s = a ++ h :: (if m = true then Wrd.cut 44 r else []) by rw [Hcut.out, if_pos rfl, e2])
      have HPR := hid (fun w hE => p_parseRun h (by omega) w hE)
      have zt : (bs t).size = t.length := bs_size t
      have zr : (bs r).size = r.length := bs_size r
      have hms : msz (txt r) (.bool m) < msz (txt t) (.bool true) := by
        cases m with
        | true => show (bs r).size + 1 < (bs t).size + 1; have := e3 rfl; omega
        | false => show 0 < (bs t).size + 1; omega
      have Hms := hid hms
      clear e1 e2 e3 e5 hms Hcut zt zr
      cases hrp : Clk.rp h with
      | none =>
        have Hr := hid (show pwkV s = .tuple #[.int .u32 0, .int .i64 3] by unfold pwkV; rw [Clk.rows_bad1 Hcut2.out hrp]; rfl)
        unfold rpV at HPR
        rw [hrp] at HPR
        clear hrp
        generalize Clk.ah l = z at *
        go_wp2_with fail
        refine (HC.out _ HE1.out).mono ?_
        rintro e w1 ⟨rfl, b1⟩
        have HE2 := hid (HE1.out.next b1)
        go_wp2_with fail
        refine (HPR.out _ HE2.out).mono ?_
        rintro e w2 ⟨rfl, b2⟩
        go_wp2_with fail
        go_ret2
        exact Did.mk Hr.out.symm ((hb.trans (b1.mono hbs)).trans (b2.mono (hb.trans (b1.mono hbs)).size))
      | some p =>
        obtain ⟨q1, q2, q3⟩ := Clk.rp_back hrp
        unfold rpV at HPR
        rw [hrp] at HPR
        simp only at HPR
        by_cases hlow : (p.1 : Int) < Clk.ah l + 2
        · have Hr := hid (show pwkV s = .tuple #[.int .u32 0, .int .i64 3] by unfold pwkV; rw [Clk.rows_bad2 Hcut2.out Hgot.out hrp hlow]; rfl)
          clear hrp q1
          generalize Clk.ah l = z at *
          generalize p.1 = p1 at *
          generalize p.2 = p2 at *
          go_wp2_with fail
          refine (HC.out _ HE1.out).mono ?_
          rintro e w1 ⟨rfl, b1⟩
          have HE2 := hid (HE1.out.next b1)
          go_wp2_with fail
          refine (HPR.out _ HE2.out).mono ?_
          rintro e w2 ⟨rfl, b2⟩
          go_wp2_with fail
          go_ret2
          exact Did.mk Hr.out.symm ((hb.trans (b1.mono hbs)).trans (b2.mono (hb.trans (b1.mono hbs)).size))
        · have Hg2 := hid (Hgot.out.next hrp (by omega))
          have Hah := hid (Clk.ah_snoc l p)
          have Hcut3 := hid (show Wrd.cut 44 s = (a ++ [h]) ++ if m = true then Wrd.cut 44 r else [] by rw [Hcut2.out, List.append_assoc]; rfl)
          have hah1 : -2 ≤ Clk.ah (l ++ [p]) := by rw [Clk.ah_snoc]; omega
          have hah2 : Clk.ah (l ++ [p]) ≤ 99 := by rw [Clk.ah_snoc]; omega
          have Hb1 := hid hah1
          have Hb2 := hid hah2
          by_cases hin : 1 ≤ p.1 ∧ p.2 ≤ 20
          · have hsl : 2 ^ p.2 - 2 ^ (p.1 - 1) < 2 ^ 20 := Nat.lt_of_lt_of_le (Nat.sub_lt (Nat.two_pow_pos _) (Nat.two_pow_pos _)) (Nat.pow_le_pow_right (by decide) hin.2)
            have HSP := hid (show ∀ w, Calls Tryd.prog 38 #[.int .i64 ((p.1 : Int) - 1), .int .i64 (p.2 : Int)] w (Did (.int .u32 ((2 ^ p.2 - 2 ^ (p.1 - 1) : Nat) : Int)) w) from fun w => by
              have := p_span (p.1 - 1) p.2 (by omega) hin.2 w
              rw [show ((p.1 - 1 : Nat) : Int) = (p.1 : Int) - 1 by omega] at this
              exact this)
            have hor := o_or32 x (2 ^ p.2 - 2 ^ (p.1 - 1)) (by omega) (by omega)
            have hx2 : x ||| (2 ^ p.2 - 2 ^ (p.1 - 1)) < 2 ^ 20 := Nat.or_lt_two_pow hx hsl
            have Hwk2 := hid (show Wks (l ++ [p]) (x ||| (2 ^ p.2 - 2 ^ (p.1 - 1))) n by
              rcases Hwk.out with ⟨k1, k2, k3⟩ | ⟨k1, k2⟩
              · exact .inl ⟨by rw [inr_snoc, k1, decide_eq_true hin]; rfl, k2, by rw [Clk.wof_snoc l p hin.1 q2 hin.2, k3]⟩
              · exact .inr ⟨by rw [inr_snoc, k1]; rfl, k2⟩)
            have Hx2 := hid hx2
            generalize x ||| (2 ^ p.2 - 2 ^ (p.1 - 1)) = x2 at *
            generalize 2 ^ p.2 - 2 ^ (p.1 - 1) = sp at *
            obtain ⟨i1, i2⟩ := hin
            clear hrp q1 Hwk Hgot hx2 hah1 hah2
            generalize Clk.ah l = z at *
            generalize hp1 : p.1 = p1 at *
            generalize hp2 : p.2 = p2 at *
            have Hp2 := hid hp2
            clear hp1 hp2
            go_wp2_with fail
            refine (HC.out _ HE1.out).mono ?_
            rintro e w1 ⟨rfl, b1⟩
            have HE2 := hid (HE1.out.next b1)
            go_wp2_with fail
            refine (HPR.out _ HE2.out).mono ?_
            rintro e w2 ⟨rfl, b2⟩
            go_wp2_with fail
            refine (HSP.out _).mono ?_
            rintro e w3 ⟨rfl, b3⟩
            have hb3 := ((hb.trans (b1.mono hbs)).trans (b2.mono (hb.trans (b1.mono hbs)).size)).trans (b3.mono ((hb.trans (b1.mono hbs)).trans (b2.mono (hb.trans (b1.mono hbs)).size)).size)
            go_wp2_with fail
            exact ⟨⟨r, a ++ [h], l ++ [p], m, x2, n, rfl, rfl, by rw [Hah.out], rfl, rfl, Hcut3, Hg2, Nat.le_trans e4 htl, Hx2.out, Hwk2, Hb1.out, Hb2.out, hb3⟩, Hms.out⟩
          · have Hwk2 := hid (show Wks (l ++ [p]) x 6 from .inr ⟨by rw [inr_snoc, decide_eq_false hin, Bool.and_false], rfl⟩)
            have key : (p.1 : Int) < 1 ∨ (1 ≤ (p.1 : Int) ∧ 20 < (p.2 : Int)) := by omega
            clear hrp q1 Hwk Hgot hah1 hah2 hin
            generalize Clk.ah l = z at *
            generalize hp1 : p.1 = p1 at *
            generalize hp2 : p.2 = p2 at *
            have Hp2 := hid hp2
            clear hp1 hp2
            rcases key with i1 | ⟨i1, i2⟩
            all_goals
              go_wp2_with fail
              refine (HC.out _ HE1.out).mono ?_
              rintro e w1 ⟨rfl, b1⟩
              have HE2 := hid (HE1.out.next b1)
              go_wp2_with fail
              refine (HPR.out _ HE2.out).mono ?_
              rintro e w2 ⟨rfl, b2⟩
              have hb2 := (hb.trans (b1.mono hbs)).trans (b2.mono (hb.trans (b1.mono hbs)).size)
              go_wp2_with fail
              exact ⟨⟨r, a ++ [h], l ++ [p], m, x, 6, rfl, rfl, by rw [Hah.out], rfl, rfl, Hcut3, Hg2, Nat.le_trans e4 htl, hx, Hwk2, Hb1.out, Hb2.out, hb2⟩, Hms.out⟩
end Go.Proofs.YtfnjnkmdifigdaaDoor

/- Contracts of the program's own functions of layer 9 (when): Moments. -/
import Derived.Test.YteldcaebbmaemaaWhnY
import Derived.Test.YteldcaebbmaemaaWhnO
import Derived.Test.YteldcaebbmaemaaWhnK
namespace Go.Proofs.Yteldcaebbmaemaa
open Go.RowKit
open Whn (Gr Wh)

theorem and1_u32 (n i : Nat) (hn : n < 4294967296) : (bits .and .u32 ((n : Int) / 2 ^ i) 1 == 0) = !(n.testBit i) := by
  have e1 : (n : Int) / 2 ^ i = ((n / 2 ^ i : Nat) : Int) := by rw [Int.natCast_ediv, Int.natCast_pow]; rfl
  have hl : n / 2 ^ i ≤ n := Nat.div_le_self _ _
  rw [e1, show (1 : Int) = ((1 : Nat) : Int) from rfl, and_u32 _ 1 (by omega) (by decide), Nat.and_one_is_mod, Nat.testBit_eq_decide_div_mod_eq, Bool.eq_iff_iff, beq_iff_eq, Bool.not_eq_true', decide_eq_false_iff_not]
  omega
theorem and1_u8 (n i : Nat) (hn : n < 256) : (bits .and .u8 ((n : Int) / 2 ^ i) 1 == 0) = !(n.testBit i) := by
  have e1 : (n : Int) / 2 ^ i = ((n / 2 ^ i : Nat) : Int) := by rw [Int.natCast_ediv, Int.natCast_pow]; rfl
  have hl : n / 2 ^ i ≤ n := Nat.div_le_self _ _
  rw [e1, show (1 : Int) = ((1 : Nat) : Int) from rfl, and_u8 _ 1 (by omega) (by decide), Nat.and_one_is_mod, Nat.testBit_eq_decide_div_mod_eq, Bool.eq_iff_iff, beq_iff_eq, Bool.not_eq_true', decide_eq_false_iff_not]
  omega
/-- a row of ints of the call's own -/
def MoRet (l : List Int) (w : World) (e : Ending) (w' : World) : Prop := ∃ v, e = .returned v ∧ w'.ownsRow w.heap.size 3 1 v l.length (l.map (Value.int .i64)) ∧ Below w.heap.size w w'
set_option maxRecDepth 20000 in
set_option maxHeartbeats 4000000 in
theorem p_MomentsO (g : Gr) (x : Wh) (hx : Wok x) (w : World) : Calls Try.prog 45 #[gv g, wv x] w (MoRet (Whn.moments g x) w) := by
  have HR := hid (fun w => p_Right g x hx w)
  have HC := hid (fun w => p_Count x hx w)
  have HM := hid (fun (i j : Nat) w => p_Moment g i j x.s w)
  obtain ⟨A, W, hA, hW, K, hb0⟩ := (Mem.nil w).one (gc g) 23
  obtain ⟨B, V, hB, hV, K1, hb1⟩ := K.out.one (wc x) 30
  have hAB : A < B ∧ w.heap.size ≤ B := by
    have q1 := (K.out.at_ (b := A) (cs := gc g) (t := 23) (by simp)).lt
    have q2 := K.out.2.size
    omega
  obtain ⟨g0, g1, g2⟩ := K1.out.gr (B := A) (g := g) (by simp)
  obtain ⟨c0, c1, c2, c3⟩ := K1.out.wh (B := B) (x := x) (by simp)
  clear K hb0 hb1
  cases hT : Whn.right g x with
  | false =>
    have Hr := hid (show [] = Whn.moments g x by unfold Whn.moments; rw [hT]; rfl)
    rw [hT] at HR
    clear hT HC HM
    go_enter Try.func45, Try.ntmps45
    go_wp2_with fail
    refine (HR.out _).mono ?_
    rintro e w1 ⟨rfl, b1⟩
    go_wp2_with fail
    go_ret
    exact ⟨_, rfl, by rw [← Hr.out]; exact World.ownsRow_nil _ _ _ _, (K1.out.next b1).2⟩
  | true =>
    have ha := Whn.all_le g
    have hg := Whn.right_grid hT
    obtain ⟨q1, q2, q3, q4, q5, q6⟩ := (Whn.rgrid_iff g).1 hg
    obtain ⟨_, _, _, r4, r5, r6, _⟩ := (Whn.right_iff g x).1 hT
    have HA : Whn.all g = g.w * g.d * g.s := by unfold Whn.all; rw [if_pos hg]
    obtain ⟨N, hN⟩ := Int.eq_ofNat_of_zero_le (show 0 ≤ g.w by omega)
    obtain ⟨D, hD⟩ := Int.eq_ofNat_of_zero_le (show 0 ≤ g.d by omega)
    obtain ⟨S, hS⟩ := Int.eq_ofNat_of_zero_le (show 0 ≤ g.s by omega)
    obtain ⟨s, hs⟩ := Int.eq_ofNat_of_zero_le r4
    obtain ⟨l, hl⟩ := Int.eq_ofNat_of_zero_le (show 0 ≤ x.l by omega)
    have hcnt : 0 ≤ Whn.count x ∧ Whn.count x ≤ 100000 := by
      have ht := Whn.right_tame hT
      have o1 := Whn.ones_le x.w 32
      have o2 := Whn.ones_le x.d 32
      obtain ⟨t1, t2, t3, t4⟩ := (Whn.tame_iff x).1 ht
      have m1 : ((Whn.ones x.w 32 : Nat) : Int) * ((Whn.ones x.d 32 : Nat) : Int) ≤ 32 * 32 := Int.mul_le_mul (by omega) (by omega) (by omega) (by omega)
      have m2 : 0 ≤ ((Whn.ones x.w 32 : Nat) : Int) * ((Whn.ones x.d 32 : Nat) : Int) := Int.mul_nonneg (by omega) (by omega)
      have m3 := Int.mul_le_mul m1 t4 (by omega) (by omega)
      have m4 := Int.mul_nonneg m2 (show 0 ≤ x.l by omega)
      unfold Whn.count
      rw [if_pos ht]
      omega
    obtain ⟨M, hM⟩ := Int.eq_ofNat_of_zero_le hcnt.1
    rw [hM] at hcnt
    rw [hM] at HC
    rw [hT] at HR
    have Hr := hid (show Whn.upto g x (Whn.base D S N 0) = Whn.moments g x by
      unfold Whn.moments
      rw [if_pos hT, HA, hN, hD, hS]
      congr 1)
    have Hoff := hid (fun (i j : Nat) (hi : (i : Int) < g.w) (hj : j < D) => Whn.day_off hT hD hS hi hj)
    have Hpre := hid (fun (i j : Nat) (hi : (i : Int) < g.w) (hj : j < D) => Whn.day_pre hT hD hS hs hl hi hj)
    have Hin := hid (fun (i j : Nat) (hi : (i : Int) < g.w) (hj : j < D) (hb : (x.w.testBit i && x.d.testBit j) = true) (c : Nat) (hc : c < l) => Whn.day_in hT hD hS hs hl hi hj hb hc)
    have Hpost := hid (fun (i j : Nat) (hi : (i : Int) < g.w) (hj : j < D) => Whn.day_post hT hD hS hs hl hi hj)
    obtain ⟨i0, hi0, hz0, hz1, hz2⟩ := info_parts Try.info_int
    have hb2 : i0.bytes * M ≤ 281474976710656 := by rw [hz2]; omega
    have hb3 : M ≤ maxLen := by unfold maxLen; omega
    have HN := hid hN
    have HD := hid hD
    have HS := hid hS
    have Hs := hid hs
    have Hl := hid hl
    have HR0 := hid hT
    clear hT hcnt hM ha HA hg hN hD hS hs hl
    go_enter Try.func45, Try.ntmps45
    go_wp2_with fail
    refine (HR.out _).mono ?_
    rintro e w1 ⟨rfl, b1⟩
    have K2 := K1.out.next b1
    clear g0 g1 g2 c0 c1 c2 c3 K1
    obtain ⟨g0, g1, g2⟩ := K2.gr (B := A) (g := g) (by simp)
    obtain ⟨c0, c1, c2, c3⟩ := K2.wh (B := B) (x := x) (by simp)
    go_wp2_with fail
    refine (HC.out _).mono ?_
    rintro e w2 ⟨rfl, b2⟩
    have K3 := K2.next b2
    clear g0 g1 g2 c0 c1 c2 c3
    have hB3 : B + 1 ≤ w2.heap.size := (K3.at_ (b := B) (cs := wc x) (t := 30) (by simp)).lt
    go_wp2_with (at_make; refine wpList_make_own _ rfl _ _ 33 rfl (B + 1) 3 i0 (.int .i64 0) 1 Try.underlying33 hi0 hz0 hz1 .i64 .i64 _ M rfl rfl rfl hb2 hb3 hB3 ?_; intro w3 hown hgrow; have bb : Below w2.heap.size w2 w3 := (Below.refl _ _).grown hgrow (Nat.le_refl _) (fun k hk => by cases hk); have K4 := hid (K3.next bb); obtain ⟨g0, g1, g2⟩ := K4.out.gr (B := A) (g := g) (by simp))
    have Hup0 := hid (show Whn.upto g x (Whn.base D S 0 0) = [] by rw [Whn.base_zero]; rfl)
    have HMo := hid (fun (i j : Nat) (hi : (i : Int) < g.w) (hj : j < D) => show Whn.moment g i j x.s = ((Whn.base D S i j + s : Nat) : Int) by
      have h := Whn.slots_le HR0.out HS.out Hs.out Hl.out
      have hin : Whn.inG g i j x.s = true := by
        unfold Whn.inG
        rw [Whn.right_grid HR0.out, Bool.true_and, decide_eq_true_iff, HD.out, HS.out, Hs.out]
        have := Hl.out
        omega
      unfold Whn.moment
      rw [if_pos hin, Hs.out]
      exact Whn.base_num HD.out HS.out i j s)
    have hDl : D ≤ 7 := by have := HD.out; omega
    have hNl : N ≤ 20 := by have := HN.out; omega
    have hSl : S ≤ 96 := by have := HS.out; omega
    have Hlen := hid (fun k => Whn.upto_len g x k)
    have HAB := hid hAB
    have HBw := hid (show ∀ X : World, Mem w X [(B, wc x, 30), (A, gc g, 23)] → B + 1 ≤ X.heap.size from fun X h => (h.at_ (b := B) (cs := wc x) (t := 30) (by simp)).lt)
    clear HR HC hAB hB3 K2 K3 b1 b2 bb hgrow hb2 hb3
    go_loopw [5, 19] (fun lv iv wr => ∃ i : Nat, iv = .int .i64 i ∧ i ≤ N ∧ Hid (wr.ownsRow (B + 1) 3 1 lv (Whn.upto g x (Whn.base D S i 0)).length ((Whn.upto g x (Whn.base D S i 0)).map (Value.int .i64))) ∧ Hid (Mem w wr [(B, wc x, 30), (A, gc g, 23)])) (fun _ iv _ => N - (intOf iv).toNat)
    case atStart => exact ⟨0, rfl, Nat.zero_le _, by rw [Hup0.out]; exact hid hown, K4⟩
    case round =>
      clear hown K4 g0 g1 g2
      obtain ⟨i, rfl, hi, HO1, KM⟩ := hrel
      obtain ⟨g0, g1, g2⟩ := KM.out.gr (B := A) (g := g) (by simp)
      by_cases hlt : i < N
      · have hiN : (i : Int) < g.w := by rw [HN.out]; exact Int.ofNat_lt.2 hlt
        have HiN := hid hiN
        go_wp2_with fail
        go_loopw [5, 24] (fun lv jv wr => ∃ j : Nat, jv = .int .i64 j ∧ j ≤ D ∧ Hid (wr.ownsRow (B + 1) 3 1 lv (Whn.upto g x (Whn.base D S i j)).length ((Whn.upto g x (Whn.base D S i j)).map (Value.int .i64))) ∧ Hid (Mem w wr [(B, wc x, 30), (A, gc g, 23)])) (fun _ jv _ => D - (intOf jv).toNat)
        case atStart => exact ⟨0, rfl, Nat.zero_le _, HO1, KM⟩
        case round =>
          clear HO1 KM g0 g1 g2
          obtain ⟨j, rfl, hj, HO1, KM⟩ := hrel
          obtain ⟨g0, g1, g2⟩ := KM.out.gr (B := A) (g := g) (by simp)
          obtain ⟨c0, c1, c2, c3⟩ := KM.out.wh (B := B) (x := x) (by simp)
          by_cases hjl : j < D
          · have hjD : (j : Int) < g.d := by rw [HD.out]; exact Int.ofNat_lt.2 hjl
            have tw := and1_u32 x.w i hx.1
            have td := and1_u8 x.d j hx.2.1
            cases hb : (x.w.testBit i && x.d.testBit j) with
            | false =>
              have Hst := hid (Hoff.out i j HiN.out hjl hb)
              clear Hoff Hpre Hin Hpost HMo HM
              cases hbw : x.w.testBit i with
              | false =>
                rw [hbw] at tw
                clear hb hbw
                go_wp2_with fail
                exact ⟨⟨j + 1, by go_num, by omega, by rw [Hst.out]; exact HO1, KM⟩, by simp [intOf]; omega⟩
              | true =>
                rw [hbw, Bool.true_and] at hb
                rw [hbw] at tw
                rw [hb] at td
                clear hb hbw
                go_wp2_with fail
                exact ⟨⟨j + 1, by go_num, by omega, by rw [Hst.out]; exact HO1, KM⟩, by simp [intOf]; omega⟩
            | true =>
              have Hst := hid (Hin.out i j HiN.out hjl hb)
              have Hpr := hid (Hpre.out i j HiN.out hjl)
              have Hpo := hid (Hpost.out i j HiN.out hjl)
              have HM1 := hid (fun w => HM.out i j w)
              rw [HMo.out i j HiN.out hjl] at HM1
              rw [Bool.and_eq_true] at hb
              rw [hb.1] at tw
              rw [hb.2] at td
              have hbl : Whn.base D S i j + s + l ≤ 100000 := by
                have := Whn.slots_le HR0.out HS.out Hs.out Hl.out
                have e1 : i * D + j ≤ 20 * 7 + 7 := by
                  have := Nat.mul_le_mul hNl hDl
                  have := Nat.mul_le_mul (Nat.le_of_lt hlt) (Nat.le_refl D)
                  omega
                have e2 := Nat.mul_le_mul e1 hSl
                unfold Whn.base
                omega
              clear Hoff Hpre Hin Hpost HMo HM hb
              obtain ⟨f, hf⟩ : ∃ f, Whn.base D S i j + s = f := ⟨_, rfl⟩
              rw [hf] at Hst Hpr Hpo HM1 hbl
              rw [← Hpr.out] at HO1
              clear hf
              go_wp2_with fail
              refine (HM1.out _).mono ?_
              rintro e w4 ⟨rfl, b4⟩
              have K5 := hid (KM.out.next b4)
              have O5 := hid (own_below HO1.out b4)
              clear g0 g1 g2 c0 c1 c2 c3 HO1 KM
              obtain ⟨c0, c1, c2, c3⟩ := K5.out.wh (B := B) (x := x) (by simp)
              go_wp2_with fail
              go_loopw [5, 49] (fun lv cv wr => ∃ c : Nat, cv = .int .i64 c ∧ c ≤ l ∧ Hid (wr.ownsRow (B + 1) 3 1 lv (Whn.upto g x (f + c)).length ((Whn.upto g x (f + c)).map (Value.int .i64))) ∧ Hid (Mem w wr [(B, wc x, 30), (A, gc g, 23)])) (fun _ cv _ => l - (intOf cv).toNat)
              case atStart => exact ⟨0, rfl, Nat.zero_le _, O5, K5⟩
              case round =>
                clear K5 O5 c0 c1 c2 c3 b4
                obtain ⟨c, rfl, hc, HO1, KM⟩ := hrel
                obtain ⟨c0, c1, c2, c3⟩ := KM.out.wh (B := B) (x := x) (by simp)
                by_cases hcl : c < l
                · have hcx : (c : Int) < x.l := by rw [Hl.out]; exact Int.ofNat_lt.2 hcl
                  have Hs1 := hid (Hst.out c hcl)
                  have hl2 := Hlen.out (f + c)
                  obtain ⟨L, hL⟩ : ∃ L, Whn.upto g x (f + c) = L := ⟨_, rfl⟩
                  rw [hL] at HO1 Hs1 hl2
                  have hn3 : L.length + 1 ≤ maxLen := by unfold maxLen; omega
                  have hn4 : (L.length + 1) * 8 ≤ 140737488355328 := by omega
                  have hB4 := HBw.out _ KM.out
                  clear hL Hst Hpr Hpo HM1
                  go_wp2_with (at_builtin; refine wpList_append_own _ rfl _ _ 33 rfl (B + 1) 3 i0 (.int .i64 0) 1 8 Try.underlying33 hi0 hz0 hz1 hz2 rfl (by decide) _ _ _ rfl (HO1.out.alloc _) ⟨_, 0, none⟩ 1 1 [.int .i64 _] rfl rfl (lit_one _ _ _) (int_one _ _) hn3 hn4 (le_alloc hB4 _) ?_; intro v1 w5 hown2 hgrow _)
                  have bb : Below (B + 1) wr w5 := ((Below.refl (B + 1) wr).alloc hB4 _).grown hgrow (le_alloc hB4 _) (fun k hk => (HO1.out.lt k hk).1)
                  have K6 : Mem w w5 [(B, wc x, 30), (A, gc g, 23)] := ⟨fun p hp => (KM.out.1 p hp).below bb (by
                    have hAB := HAB.out
                    simp only [List.mem_cons, List.not_mem_nil, or_false] at hp
                    rcases hp with rfl | rfl
                    · show B < B + 1; omega
                    · show A < B + 1; omega), KM.out.2.trans (bb.mono (by have hAB := HAB.out; omega))⟩
                  refine ⟨⟨c + 1, by go_num, by omega, ?_, hid K6⟩, by simp [intOf]; omega⟩
                  rw [Hs1.out, List.length_append, List.map_append]
                  exact hid hown2
                · obtain rfl : c = l := by omega
                  have hcx : ¬ (c : Int) < x.l := by rw [Hl.out]; omega
                  rw [← Hpo.out] at HO1
                  clear Hst Hpr Hpo HM1
                  go_wp2_with fail
                  exact ⟨⟨j + 1, by go_num, by omega, HO1, KM⟩, by simp [intOf]; omega⟩
          · obtain rfl : j = D := by omega
            have hjD : ¬ (j : Int) < g.d := by rw [HD.out]; omega
            have Hbw := hid (Whn.base_week j S i)
            clear Hoff Hpre Hin Hpost HMo HM
            go_wp2_with fail
            exact ⟨⟨i + 1, by go_num, by omega, by rw [Hbw.out]; exact HO1, KM⟩, by simp [intOf]; omega⟩
      · obtain rfl : i = N := by omega
        have hiN : ¬ (i : Int) < g.w := by rw [HN.out]; omega
        rw [Hr.out] at HO1
        have HO5 := HO1.out
        clear Hoff Hpre Hin Hpost HMo HM
        go_wp2_with fail
        go_ret
        exact ⟨_, rfl, own_mono HO5 (by have := HAB.out; omega), KM.out.2⟩
theorem p_Moments (g : Gr) (x : Wh) (hx : Wok x) (w : World) : Calls Try.prog 45 #[gv g, wv x] w (ItRet (Whn.moments g x) w) := by
  refine (p_MomentsO g x hx w).mono ?_
  rintro e w1 ⟨v, rfl, ho, hb⟩
  obtain ⟨A1, cc, rfl, hr, hc⟩ := own_rd ho
  exact ⟨A1, cc, rfl, hr, hb⟩
end Go.Proofs.Yteldcaebbmaemaa

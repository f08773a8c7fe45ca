/- Contracts of the program's own functions of layer 12 (person): the numbers of the days of a time. -/
import Derived.Test.YtjjmajhldpoobaaPerM
import Derived.Test.YtjjmajhldpoobaaWh2
namespace Go.Proofs.Ytjjmajhldpoobaa
open Go.RowKit
open Whn (Gr Wh)

theorem and1_u32' (n i : Nat) (hn : n < 4294967296) : (bits .and .u32 ((n : Int) / 2 ^ i) 1 == 1) = n.testBit i := by
  have e1 : (n : Int) / 2 ^ i = ((n / 2 ^ i : Nat) : Int) := by rw [Int.natCast_ediv, Int.natCast_pow]; rfl
  have hl : n / 2 ^ i ≤ n := Nat.div_le_self _ _
  rw [e1, show (1 : Int) = ((1 : Nat) : Int) from rfl, and_u32 _ 1 (by omega) (by decide), Nat.and_one_is_mod, Nat.testBit_eq_decide_div_mod_eq, Bool.eq_iff_iff, beq_iff_eq, decide_eq_true_iff]
  omega
theorem and1_u8' (n i : Nat) (hn : n < 256) : (bits .and .u8 ((n : Int) / 2 ^ i) 1 == 1) = n.testBit i := by
  have e1 : (n : Int) / 2 ^ i = ((n / 2 ^ i : Nat) : Int) := by rw [Int.natCast_ediv, Int.natCast_pow]; rfl
  have hl : n / 2 ^ i ≤ n := Nat.div_le_self _ _
  rw [e1, show (1 : Int) = ((1 : Nat) : Int) from rfl, and_u8 _ 1 (by omega) (by decide), Nat.and_one_is_mod, Nat.testBit_eq_decide_div_mod_eq, Bool.eq_iff_iff, beq_iff_eq, decide_eq_true_iff]
  omega
theorem wrap64_small2 (n : Nat) (h : n ≤ 100000) : wrap64 (n : Int) = (n : Int) := by unfold wrap64; omega
/-- the first days on which a time is -/
def dnN (g : Gr) (x : Wh) (k : Nat) : List Nat := (List.range k).filter (Whn.dayOn g x)
def dn (g : Gr) (x : Wh) (k : Nat) : List Int := (dnN g x k).map fun (D : Nat) => (D : Int)
theorem dn_zero (g : Gr) (x : Wh) : dn g x 0 = [] := rfl
theorem dn_yes {g : Gr} {x : Wh} {k : Nat} (h : Whn.dayOn g x k = true) : dn g x (k + 1) = dn g x k ++ [(k : Int)] := by
  unfold dn dnN
  rw [List.range_succ, List.filter_append, List.filter_cons, if_pos h, List.filter_nil, List.map_append]; rfl
theorem dn_no {g : Gr} {x : Wh} {k : Nat} (h : Whn.dayOn g x k = false) : dn g x (k + 1) = dn g x k := by
  unfold dn dnN
  rw [List.range_succ, List.filter_append, List.filter_cons, if_neg (by rw [h]; decide), List.filter_nil, List.append_nil]
theorem dn_len (g : Gr) (x : Wh) (k : Nat) : (dn g x k).length ≤ k := by
  unfold dn dnN
  rw [List.length_map]
  refine Nat.le_trans (List.length_filter_le _ _) ?_
  rw [List.length_range]; exact Nat.le_refl _
theorem dn_get {g : Gr} {x : Wh} {k i : Nat} {D : Int} (h : (dn g x k)[i]? = some D) : ∃ d : Nat, D = (d : Int) ∧ d < k ∧ Whn.dayOn g x d = true := by
  have hm := List.mem_of_getElem? h
  unfold dn dnN at hm
  obtain ⟨d, hd, rfl⟩ := List.mem_map.1 hm
  obtain ⟨h1, h2⟩ := List.mem_filter.1 hd
  exact ⟨d, rfl, List.mem_range.1 h1, h2⟩
theorem day_at {g : Gr} (x : Wh) {D : Nat} (hD : g.d = (D : Int)) (i j : Nat) (hj : j < D) : Whn.dayOn g x (i * D + j) = (x.w.testBit i && x.d.testBit j) := by
  unfold Whn.dayOn
  rw [hD, Int.toNat_natCast, Nat.mul_comm i D, Nat.mul_add_div (by omega), Nat.mul_add_mod, Nat.div_eq_of_lt hj, Nat.mod_eq_of_lt hj, Nat.add_zero]
set_option maxRecDepth 20000 in
set_option maxHeartbeats 4000000 in
theorem p_days (g : Gr) (x : Wh) (hx : Wok x) (hg : Whn.rgrid g = true) (w : World) : Calls Try.prog 46 #[gv g, wv x] w (MoRet (dn g x (Whn.daysN g)) w) := by
  obtain ⟨A, W, hA, hW, K, hb0⟩ := (Mem.nil w).one (gc g) 23
  obtain ⟨B, V, hB, hV, K1, hb1⟩ := K.out.one (wc x) 48
  have hAB : A < B ∧ w.heap.size ≤ B := by
    have q1 := (K.out.at_ (b := A) (cs := gc g) (t := 23) (by simp)).lt
    have q2 := K.out.2.size
    omega
  obtain ⟨g0, g1, g2⟩ := K1.out.gr (B := A) (g := g) (by simp)
  have hB3 : B + 1 ≤ V.heap.size := (K1.out.at_ (b := B) (cs := wc x) (t := 48) (by simp)).lt
  clear K hb0 hb1
  obtain ⟨q1, q2, q3, q4, q5, q6⟩ := (Whn.rgrid_iff g).1 hg
  obtain ⟨N, hN⟩ := Int.eq_ofNat_of_zero_le (show 0 ≤ g.w by omega)
  obtain ⟨D, hD⟩ := Int.eq_ofNat_of_zero_le (show 0 ≤ g.d by omega)
  have Hr := hid (show dn g x (Whn.daysN g) = dn g x (N * D) by
    unfold Whn.daysN
    rw [if_pos hg, hN, hD, ← Int.natCast_mul, Int.toNat_natCast])
  have Hday := hid (fun i j hj => day_at x hD i j hj)
  have Hlen := hid (fun k => dn_len g x k)
  have Hyes := hid (fun k (h : Whn.dayOn g x k = true) => dn_yes h)
  have Hno := hid (fun k (h : Whn.dayOn g x k = false) => dn_no h)
  have Hz := hid (dn_zero g x)
  generalize dn g x = dd at *
  generalize Whn.dayOn g x = dq at *
  obtain ⟨i0, hi0, hz0, hz1, hz2⟩ := info_parts Try.info_int
  have hDl : D ≤ 7 := by omega
  have hNl : N ≤ 20 := by omega
  have HN := hid hN
  have HD := hid hD
  have HAB := hid hAB
  have HBw := hid (show ∀ X : World, Mem w X [(B, wc x, 48), (A, gc g, 23)] → B + 1 ≤ X.heap.size from fun X h => (h.at_ (b := B) (cs := wc x) (t := 48) (by simp)).lt)
  clear hg hN hD hAB q1 q2 q3 q4 q5 q6
  have own0 := hid (World.ownsRow_nil V (B + 1) 3 1)
  go_enter Try.func46, Try.ntmps46
  go_wp2_with fail
  go_loopw [5, 10] (fun lv iv wr => ∃ i : Nat, iv = .int .i64 i ∧ i ≤ N ∧ Hid (wr.ownsRow (B + 1) 3 1 lv (dd (i * D)).length ((dd (i * D)).map (Value.int .i64))) ∧ Hid (Mem w wr [(B, wc x, 48), (A, gc g, 23)])) (fun _ iv _ => N - (intOf iv).toNat)
  case atStart => exact ⟨0, rfl, Nat.zero_le _, by rw [Nat.zero_mul, Hz.out]; exact own0, K1⟩
  case round =>
    clear own0 K1 g0 g1 g2 hB3
    obtain ⟨i, rfl, hi, HO1, KM⟩ := hrel
    obtain ⟨g0, g1, g2⟩ := KM.out.gr (B := A) (g := g) (by simp)
    by_cases hlt : i < N
    · have hiN : (i : Int) < g.w := by rw [HN.out]; exact Int.ofNat_lt.2 hlt
      go_wp2_with fail
      go_loopw [5, 15] (fun lv jv wr => ∃ j : Nat, jv = .int .i64 j ∧ j ≤ D ∧ Hid (wr.ownsRow (B + 1) 3 1 lv (dd (i * D + j)).length ((dd (i * D + j)).map (Value.int .i64))) ∧ Hid (Mem w wr [(B, wc x, 48), (A, gc g, 23)])) (fun _ jv _ => D - (intOf jv).toNat)
      case atStart => exact ⟨0, rfl, Nat.zero_le _, HO1, KM⟩
      case round =>
        clear HO1 KM g0 g1 g2
        obtain ⟨j, rfl, hj, HO1, KM⟩ := hrel
        obtain ⟨g0, g1, g2⟩ := KM.out.gr (B := A) (g := g) (by simp)
        obtain ⟨c0, c1, c2, c3⟩ := KM.out.wh (B := B) (x := x) (by simp)
        by_cases hjl : j < D
        · have hjD : (j : Int) < g.d := by rw [HD.out]; exact Int.ofNat_lt.2 hjl
          have tw := and1_u32' x.w i hx.1
          have td := and1_u8' x.d j hx.2.1
          have hdy := Hday.out i j hjl
          have hnum : i * D + j ≤ 147 := by
            have := Nat.mul_le_mul (Nat.le_of_lt hlt) (Nat.le_refl D)
            have := Nat.mul_le_mul hNl hDl
            omega
          cases hb : (x.w.testBit i && x.d.testBit j) with
          | false =>
            rw [hb] at hdy
            have Hst := hid (Hno.out _ hdy)
            have Hdy := hid hdy
            clear hdy
            cases hbw : x.w.testBit i with
            | false =>
              rw [hbw] at tw
              clear hb hbw
              go_wp2_with fail
              exact ⟨⟨j + 1, by go_num, by omega, by rw [show i * D + (j + 1) = i * D + j + 1 from rfl, Hst.out]; exact HO1, KM⟩, by simp [intOf]; omega⟩
            | true =>
              rw [hbw, Bool.true_and] at hb
              rw [hbw] at tw
              rw [hb] at td
              clear hb hbw
              go_wp2_with fail
              exact ⟨⟨j + 1, by go_num, by omega, by rw [show i * D + (j + 1) = i * D + j + 1 from rfl, Hst.out]; exact HO1, KM⟩, by simp [intOf]; omega⟩
          | true =>
            rw [hb] at hdy
            have Hst := hid (Hyes.out _ hdy)
            rw [Bool.and_eq_true] at hb
            rw [hb.1] at tw
            rw [hb.2] at td
            clear hb hdy
            have hlen := Hlen.out (i * D + j)
            obtain ⟨k, hk⟩ : ∃ k : Nat, i * D + j = k := ⟨_, rfl⟩
            rw [hk] at Hst HO1 hlen hnum
            obtain ⟨L, hL⟩ : ∃ L, dd k = L := ⟨_, rfl⟩
            rw [hL] at HO1 Hst hlen
            have hadd : wrap64 (wrap64 ((i : Int) * g.d) + (j : Int)) = (k : Int) := by
              have e : ((i : Int) * (D : Int)) = ((i * D : Nat) : Int) := (Int.natCast_mul _ _).symm
              rw [HD.out, e, wrap64_small2 _ (by omega), ← Int.natCast_add, hk, wrap64_small2 _ (by omega)]
            have Hadd := hid hadd
            clear hadd
            have hn3 : L.length + 1 ≤ maxLen := by unfold maxLen; omega
            have hn4 : (L.length + 1) * 8 ≤ 140737488355328 := by omega
            have hB4 := HBw.out _ KM.out
            have Hk := hid hk
            clear hL hk Hday Hlen Hyes Hno Hz
            go_wp2_with (at_builtin; refine wpList_append_own _ rfl _ _ 43 rfl (B + 1) 3 i0 (.int .i64 0) 1 8 Try.underlying43 hi0 hz0 hz1 hz2 rfl (by decide) _ _ _ rfl (HO1.out.alloc _) ⟨_, 0, none⟩ 1 1 [.int .i64 _] rfl rfl (lit_one _ _ _) (int_one _ _) hn3 hn4 (le_alloc hB4 _) ?_; intro v1 w5 hown2 hgrow _)
            have bb : Below (B + 1) wr w5 := ((Below.refl (B + 1) wr).alloc hB4 _).grown hgrow (le_alloc hB4 _) (fun k hk => (HO1.out.lt k hk).1)
            have K6 : Mem w w5 [(B, wc x, 48), (A, gc g, 23)] := ⟨fun p hp => (KM.out.1 p hp).below bb (by
              have hAB := HAB.out
              simp only [List.mem_cons, List.not_mem_nil, or_false] at hp
              rcases hp with rfl | rfl
              · show B < B + 1; omega
              · show A < B + 1; omega), KM.out.2.trans (bb.mono (by have hAB := HAB.out; omega))⟩
            refine ⟨⟨j + 1, by go_num, by omega, ?_, hid K6⟩, by simp [intOf]; omega⟩
            rw [show i * D + (j + 1) = i * D + j + 1 from rfl, Hk.out, Hst.out, List.length_append, List.map_append]
            rw [Hadd.out] at hown2
            exact hid hown2
        · obtain rfl : j = D := by omega
          have hjD : ¬ (j : Int) < g.d := by rw [HD.out]; omega
          clear Hday Hlen Hyes Hno Hz
          go_wp2_with fail
          exact ⟨⟨i + 1, by go_num, by omega, by rw [Nat.succ_mul]; exact HO1, KM⟩, by simp [intOf]; omega⟩
    · obtain rfl : i = N := by omega
      have hiN : ¬ (i : Int) < g.w := by rw [HN.out]; omega
      have HO5 := HO1.out
      clear Hday Hlen Hyes Hno Hz
      go_wp2_with fail
      go_ret
      refine ⟨_, rfl, ?_, KM.out.2⟩
      rw [Hr.out]
      exact own_mono HO5 (by have := HAB.out; omega)
end Go.Proofs.Ytjjmajhldpoobaa

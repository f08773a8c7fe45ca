/- Contracts of layer 8 (dice): Pick. -/
import Derived.Test.YtdhapddconoegaaDicB
namespace Go.Proofs.Ytdhapddconoegaa
open Go.RowKit

set_option maxHeartbeats 1000000 in
theorem p_Pick (s : Nat) (A : Option Addr) (n c : Nat) (l : List Int) (hn : l.length = n) (hm : n ≤ 10000) (B : Nat) (w : World) (hB : B ≤ w.heap.size) (h : Its w B A l) :
    Calls Try.prog 13 #[dv s, .slice A n c] w (Did (.tuple #[.int .i64 (Dic.pick s l), dv (Dic.pickS s l)]) w) := by
  subst hn
  obtain ⟨W, hW, x1, x2, hb, hs⟩ := two_d w (s : Int) 0
  have H := hid (h.below hb hB)
  have c1 := x1.cell
  have c2 := x2.cell
  have f2 := x2.free
  clear h
  have hm' : (l.length : Int) ≤ 10000 := by omega
  go_enter Try.func13, Try.ntmps13
  go_wp2_with fail
  go_loop [6, 18] (fun tv iv => ∃ k : Nat, tv = .int .u64 (Dic.tot (l.take k) : Nat) ∧ iv = .int .i64 k ∧ k ≤ l.length) (fun _ iv => l.length - (intOf iv).toNat)
  case atStart => exact ⟨0, rfl, rfl, Nat.zero_le _⟩
  case round =>
    obtain ⟨k, rfl, rfl, hk⟩ := hrel
    by_cases hlt : k < l.length
    · obtain ⟨ad, x, rfl, _, Hx, hc⟩ := Its.get H.out hlt
      have Hnext := hid (Dic.tot_take l k x Hx.out)
      have hl := Dic.tot_take_le l k
      have hw := Dic.wt_le x
      have Hc := hid (fun w => p_counted x w)
      unfold IntRet at Hc
      generalize Dic.tot (l.take k) = t at *
      generalize Dic.wt x = v at *
      have i1 : (0 : Int) ≤ (k : Int) := by omega
      have i2 : (k : Int) < (l.length : Int) := by omega
      go_wp2_with fail
      refine (Hc.out _).mono ?_
      rintro e w' ⟨rfl, rfl⟩
      go_wp2_with fail
      go_round
      case rel => exact ⟨k + 1, by rw [Hnext.out]; go_num, by go_num, by omega⟩
      case measure => simp [intOf]; omega
    · obtain rfl : k = l.length := by omega
      rw [List.take_length]
      have hl := Dic.tot_le l
      by_cases h0 : Dic.tot l = 0
      · have Hr := hid (show (-1 : Int) = Dic.pick s l by unfold Dic.pick; rw [if_neg (fun h => h.2 h0)])
        have Hs := hid (show s = Dic.pickS s l by unfold Dic.pickS; rw [if_neg (fun h => h.2 h0)])
        rw [h0]
        clear h0
        go_wp2_with fail
        go_region
        go_wp2_with fail
        have u2 := (x2.set (s : Int)).cell
        exact bodyPost_ret (v := .tuple #[.int .i64 (-1), dv s]) (by simp [results, Try.results13, go_sem, u2]) rfl (Did.mk (by rw [← Hr.out, ← Hs.out]) (hb.setCell (p := ⟨w.heap.size + 1, 0, none⟩) (by show w.heap.size ≤ w.heap.size + 1; omega) _).drew)
      · have hok : Dic.ok l := ⟨hm, h0⟩
        have ht : 0 < Dic.tot l := by omega
        have hrl := Nat.mod_lt (Dic.num s) ht
        have Hr := hid (show ((Dic.pk l (Dic.num s % Dic.tot l) : Nat) : Int) = Dic.pick s l by unfold Dic.pick; rw [if_pos hok])
        have Hs := hid (show Dic.nx s = Dic.pickS s l by unfold Dic.pickS; rw [if_pos hok])
        have HT := hid (fun w => p_thrower s w)
        have HC := hid (fun B w hB => p_throw s B (Dic.tot l) ht (by omega) w hB)
        obtain ⟨q1, q2⟩ := Dic.pk_spec l _ hrl
        have q3 := Dic.pk_lt l _ hrl
        clear hok
        generalize Dic.nx s = s' at *
        generalize Dic.num s % Dic.tot l = r at *
        have Q1 := hid q1
        have Q2 := hid q2
        generalize hpe : Dic.pk l r = pl at *
        clear hpe q1 q2
        have htl : Dic.tot l ≤ 10000000000 := by omega
        generalize Dic.tot l = t at *
        have ht' : ((t : Int) == 0) = false := by rw [beq_eq_false_iff_ne]; omega
        clear h0
        go_wp2_with fail
        refine (HT.out _).mono ?_
        rintro e w1 ⟨rfl, rfl⟩
        have hs1 : (W.alloc (.cells #[.int .u64 (s : Int)] 24)).heap.size = W.heap.size + 1 := by simp
        have y2 := x2.below (below_alloc W (.cells #[.int .u64 (s : Int)] 24)) (by omega)
        have y3 : Bx (W.alloc (.cells #[.int .u64 (s : Int)] 24)) (w.heap.size + 2) s := by rw [← hs]; exact Bx.new _ _
        go_wp2_with fail
        with_reducible refine (HC.out _ _ y3).mono ?_
        rintro e w2 ⟨rfl, b2, hs2, _⟩
        have z2 := y2.below b2 (by omega)
        have hb1 : Below w.heap.size W w2 := ((below_alloc W _).mono (by omega)).trans (b2.mono (by omega))
        have hs3 : w2.heap.size ≠ w.heap.size + 1 := by omega
        have v2 := z2.below (below_alloc w2 (.cells #[.int .u64 (s' : Int)] 24)) (by omega)
        have v3 := Bx.new w2 (s' : Int)
        have hb3 := hb1.trans ((below_alloc w2 (.cells #[.int .u64 (s' : Int)] 24)).mono (by omega))
        have H3 := hid (H.out.below hb3 hB)
        have hb4 := hb.trans hb3
        clear x1 x2 y2 y3 c1 c2 f2 b2 z2 hb1 H hb hb3 HT HC
        have c2 := v2.cell
        have f2 := v2.free
        have c3 := v3.cell
        go_wp2_with fail
        go_loop [9, 11] (fun rv pv => ∃ j : Nat, rv = .int .u64 (r - Dic.tot (l.take j) : Nat) ∧ pv = .int .i64 j ∧ j ≤ pl) (fun _ pv => pl - (intOf pv).toNat)
        case atStart => exact ⟨0, by rw [List.take_zero, Dic.tot_nil, Nat.sub_zero], rfl, Nat.zero_le _⟩
        case round =>
          obtain ⟨j, rfl, rfl, hj⟩ := hrel
          have hjl : j < l.length := by omega
          obtain ⟨ad, x, rfl, _, Hx, hc⟩ := Its.get H3.out hjl
          have Hnext := hid (Dic.tot_take l j x Hx.out)
          have hw := Dic.wt_le x
          have Hc := hid (fun w => p_counted x w)
          unfold IntRet at Hc
          have i1 : (0 : Int) ≤ (j : Int) := by omega
          have i2 : (j : Int) < (l.length : Int) := by omega
          by_cases hlt : j < pl
          · have hmo := Dic.tot_take_mono l (show j + 1 ≤ pl from hlt)
            have hq1 := Q1.out
            rw [Hnext.out] at hmo
            have Hsub := hid (show r - Dic.tot (l.take (j + 1)) = r - Dic.tot (l.take j) - Dic.wt x by rw [Hnext.out]; omega)
            have hge : Dic.wt x ≤ r - Dic.tot (l.take j) := by omega
            have hrl2 : r - Dic.tot (l.take j) ≤ 10000000000 := by omega
            clear hmo hq1
            generalize r - Dic.tot (l.take j) = r0 at *
            generalize Dic.wt x = v at *
            go_wp2_with fail
            refine (Hc.out _).mono ?_
            rintro e w' ⟨rfl, rfl⟩
            go_wp2_with fail
            refine (Hc.out _).mono ?_
            rintro e w' ⟨rfl, rfl⟩
            go_wp2_with fail
            go_round
            case rel => exact ⟨j + 1, by rw [Hsub.out]; go_num, by go_num, by omega⟩
            case measure => simp [intOf]; omega
          · obtain rfl : j = pl := by omega
            have hq1 := Q1.out
            have hq2 := Q2.out
            rw [Hnext.out] at hq2
            have hge : r - Dic.tot (l.take j) < Dic.wt x := by omega
            clear hq1 hq2
            generalize r - Dic.tot (l.take j) = r0 at *
            generalize Dic.wt x = v at *
            go_wp2_with fail
            refine (Hc.out _).mono ?_
            rintro e w' ⟨rfl, rfl⟩
            go_wp2_with fail
            go_region
            go_wp2_with fail
            have u2 := (v2.set (s' : Int)).cell
            exact bodyPost_ret (v := .tuple #[.int .i64 (j : Int), dv s']) (by simp [results, Try.results13, go_sem, u2]) rfl (Did.mk (by rw [← Hr.out, ← Hs.out]) (hb4.setCell (p := ⟨w.heap.size + 1, 0, none⟩) (by show w.heap.size ≤ w.heap.size + 1; omega) _).drew)
end Go.Proofs.Ytdhapddconoegaa

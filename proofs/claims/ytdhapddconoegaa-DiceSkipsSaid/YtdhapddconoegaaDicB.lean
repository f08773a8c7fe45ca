/- Contracts of layer 8 (dice): counted, Below, Pick. -/
import Derived.Test.YtdhapddconoegaaDicA
namespace Go.Proofs.Ytdhapddconoegaa
open Go.RowKit

theorem p_counted (x : Int) (w : World) : Calls Try.prog 24 #[.int .i64 x] w (IntRet .u64 (Dic.wt x) w) := by
  have Hr := hid (show (Dic.wt x : Int) = min (max x 0) 1000000 by unfold Dic.wt; omega)
  have hl := Dic.wt_le x
  generalize Dic.wt x = v at *
  go_enter Try.func24, Try.ntmps24
  go_wp2_with fail
  all_goals
    go_ret
    exact IntRet.mk _ (by rw [Hr.out]; omega)

set_option maxHeartbeats 1000000 in
theorem p_Below (s : Nat) (n : Int) (hn : I64 n) (w : World) : Calls Try.prog 11 #[dv s, .int .i64 n] w (Did (.tuple #[.int .i64 (Dic.bel s n : Nat), dv (Dic.belS s n)]) w) := by
  by_cases h : n < 1
  · have Hr := hid (show 0 = Dic.bel s n by unfold Dic.bel; rw [if_pos h])
    have Hs := hid (show s = Dic.belS s n by unfold Dic.belS; rw [if_pos h])
    rw [← Hr.out, ← Hs.out]
    clear Hr Hs
    obtain ⟨W, hW, x1, x2, hb, hs⟩ := two_d w (s : Int) 0
    have c1 := x1.cell
    have c2 := x2.cell
    have f2 := x2.free
    go_enter Try.func11, Try.ntmps11
    go_wp2_with fail
    go_region
    go_wp2_with fail
    have u2 := (x2.set (s : Int)).cell
    exact bodyPost_ret (v := .tuple #[.int .i64 0, dv s]) (by simp [results, Try.results11, go_sem, u2]) rfl (Did.mk rfl (hb.setCell (p := ⟨w.heap.size + 1, 0, none⟩) (by show w.heap.size ≤ w.heap.size + 1; omega) _).drew)
  · obtain ⟨m, rfl⟩ := Int.eq_ofNat_of_zero_le (show 0 ≤ n by omega)
    have hm : 0 < m := by omega
    unfold I64 at hn
    have Hr := hid (show Dic.num s % m = Dic.bel s m by unfold Dic.bel; rw [if_neg h]; rfl)
    have Hs := hid (show Dic.nx s = Dic.belS s m by unfold Dic.belS; rw [if_neg h])
    have hm2 : m < 18446744073709551616 := by omega
    have hrl := Nat.mod_lt (Dic.num s) hm
    have HT := hid (fun w => p_thrower s w)
    have HC := hid (fun B w hB => p_throw s B m hm hm2 w hB)
    rw [← Hr.out, ← Hs.out]
    clear Hr Hs
    generalize Dic.num s % m = r at *
    generalize Dic.nx s = s' at *
    obtain ⟨W, hW, x1, x2, hb, hs⟩ := two_d w (s : Int) 0
    have c1 := x1.cell
    go_enter Try.func11, Try.ntmps11
    go_wp2_with fail
    refine (HT.out _).mono ?_
    rintro e w1 ⟨rfl, rfl⟩
    have hs1 : (W.alloc (.cells #[.int .u64 (s : Int)] 24)).heap.size = W.heap.size + 1 := by simp
    have y2 := x2.below (below_alloc W (.cells #[.int .u64 (s : Int)] 24)) (by omega)
    have y3 : Bx (W.alloc (.cells #[.int .u64 (s : Int)] 24)) (w.heap.size + 2) s := by rw [← hs]; exact Bx.new _ _
    go_wp2_with fail
    with_reducible refine (HC.out _ _ y3).mono ?_
    rintro e w2 ⟨rfl, b2, hs2, _⟩
    have z2 := y2.below b2 (by omega)
    have hb2 : Below w.heap.size w w2 := hb.trans (((below_alloc W _).mono (by omega)).trans (b2.mono (by omega)))
    clear x1 x2 y2 c1 b2
    have hs3 : w2.heap.size ≠ w.heap.size + 1 := by omega
    have v2 := z2.below (below_alloc w2 (.cells #[.int .u64 (s' : Int)] 24)) (by omega)
    have v3 := Bx.new w2 (s' : Int)
    have c2 := v2.cell
    have f2 := v2.free
    have c3 := v3.cell
    have hb3 := hb2.trans ((below_alloc w2 (.cells #[.int .u64 (s' : Int)] 24)).mono (by omega))
    go_wp2_with fail
    go_region
    go_wp2_with fail
    have u2 := (v2.set (s' : Int)).cell
    exact bodyPost_ret (v := .tuple #[.int .i64 (r : Int), dv s']) (by simp [results, Try.results11, go_sem, u2]) rfl (Did.mk rfl (hb3.setCell (p := ⟨w.heap.size + 1, 0, none⟩) (by show w.heap.size ≤ w.heap.size + 1; omega) _).drew)
end Go.Proofs.Ytdhapddconoegaa

/- Contracts of the document's own answer for layer 8: Next, Skip, Below, weight. -/
import Derived.Test.YtdhapddconoegaaDicD
namespace Go.Proofs.Ytdhapddconoegaa
open Go.RowKit

theorem r_Skip (s : Nat) (n : Int) (hn : I64 n) (w : World) : Calls Try.prog 20 #[dv s, .int .i64 n] w (Did (dv (Dic.skip s n)) w) := by
  by_cases h : n < 0
  · have Hr := hid (show s = Dic.skip s n by unfold Dic.skip; rw [if_pos h])
    go_enter Try.func20, Try.ntmps20
    go_wp2_with fail
    exact bodyPost_ret (v := dv s) (by simp [results, Try.results20, go_sem]) rfl (Did.mk (by rw [← Hr.out]) ((below_alloc w _).alloc (le_alloc (Nat.le_refl _) _) _))
  · have Hr := hid (show IntKind.u64.wrap ((s : Int) + IntKind.u64.wrap (IntKind.u64.wrap n * 11400714819323198485)) = (Dic.skip s n : Nat) by
      unfold I64 at hn
      unfold Dic.skip
      rw [if_neg h, Dic.skn_eq]
      unfold Dic.G Sum.M
      simp only [IntKind.wrap_u64]
      omega)
    go_enter Try.func20, Try.ntmps20
    go_wp2_with fail
    exact bodyPost_ret (v := dv (Dic.skip s n)) (by rw [show dv (Dic.skip s n) = .agg #[.int .u64 (Dic.skip s n : Nat)] from rfl, ← Hr.out]; simp [results, Try.results20, go_sem]) rfl (Did.mk rfl ((below_alloc w _).alloc (le_alloc (Nat.le_refl _) _) _))

theorem rq_Mix {n : Nat} (hn : n < 18446744073709551616) {x : Int} (hx : x = n) (w : World) : Calls Try.prog 21 #[.int .u64 x] w (IntRet .u64 (Sum.mix n) w) := by
  subst hx; exact r_Mix n hn w
theorem three_d (w : World) (a b c : Int) : ∃ W, ((w.alloc (.cells #[.int .u64 a] 24)).alloc (.cells #[.int .u64 b] 24)).alloc (.cells #[.int .u64 c] 24) = W ∧ Bx W w.heap.size a ∧ Bx W (w.heap.size + 1) b ∧ Bx W (w.heap.size + 1 + 1) c ∧ Below w.heap.size w W ∧ W.heap.size = w.heap.size + 3 := by
  obtain ⟨W, hW, x1, x2, hb, hs⟩ := two_d w a b
  rw [hW]
  have h3 := Bx.new W c
  have hbW := below_alloc W (.cells #[.int .u64 c] 24)
  exact ⟨_, rfl, x1.below hbW (by omega), x2.below hbW (by omega), by rw [show w.heap.size + 1 + 1 = W.heap.size by omega]; exact h3, hb.alloc (by omega) _, by simp; omega⟩

set_option maxHeartbeats 1000000 in
theorem r_Next (s : Nat) (w : World) : Calls Try.prog 10 #[dv s] w (Did (.tuple #[.int .u64 (Dic.num s : Nat), dv (Dic.nx s)]) w) := by
  have hx : IntKind.u64.wrap ((s : Int) + 11400714819323198485) = (Dic.nx s : Nat) := by
    rw [Dic.nx_eq, IntKind.wrap_u64]
    unfold Dic.G Sum.M
    omega
  have H2 := hid (fun w => r_Mix (Dic.nx s) (Dic.nx_lt s) w)
  have Hr := hid (Dic.num_eq s).symm
  unfold IntRet at H2
  rw [Hr.out] at H2
  generalize Dic.nx s = s' at *
  generalize Dic.num s = v at *
  obtain ⟨W, hW, x1, x2, x3, hb, hs⟩ := three_d w (s : Int) 0 (s' : Int)
  have c2 := x2.cell
  have f2 := x2.free
  have c3 := x3.cell
  have hne : w.heap.size + 1 ≠ w.heap.size + 1 + 1 := by omega
  clear x1
  go_enter Try.func10, Try.ntmps10
  go_wp2_with fail
  go_region_held3 (fun X => X.cell? ⟨w.heap.size + 1 + 1, 0, none⟩ = some (.int .u64 s')) (first | exact c3 | go_keep) (first | (go_at_call 21; refine (H2.out _).mono ?_; rintro e w' ⟨rfl, rfl⟩))
  go_wp2_with fail
  have u2 := (x2.set (s' : Int)).cell
  exact bodyPost_ret (v := .tuple #[.int .u64 v, dv s']) (by simp [results, Try.results10, go_sem, u2]) rfl (Did.mk rfl (hb.setCell (p := ⟨w.heap.size + 1, 0, none⟩) (by show w.heap.size ≤ w.heap.size + 1; omega) _).drew)

theorem r_weight (x : Int) (w : World) : Calls Try.prog 25 #[.int .i64 x] w (IntRet .i64 (Dic.wt x) w) := by
  have Hr := hid (show (Dic.wt x : Int) = min (max x 0) 1000000 by unfold Dic.wt; omega)
  have hl := Dic.wt_le x
  generalize Dic.wt x = v at *
  go_enter Try.func25, Try.ntmps25
  go_wp2_with fail
  all_goals
    go_ret
    exact IntRet.mk _ (by rw [Hr.out]; omega)

set_option maxHeartbeats 1000000 in
theorem r_Below (s : Nat) (n : Int) (hn : I64 n) (w : World) : Calls Try.prog 12 #[dv s, .int .i64 n] w (Did (.tuple #[.int .i64 (Dic.bel s n : Nat), dv (Dic.belS s n)]) w) := by
  obtain ⟨W, hW, x1, x2, hb, hs⟩ := two_d w (s : Int) 0
  have c1 := x1.cell
  have c2 := x2.cell
  have f2 := x2.free
  by_cases h : n < 1
  · have Hr := hid (show 0 = Dic.bel s n by unfold Dic.bel; rw [if_pos h])
    have Hs := hid (show s = Dic.belS s n by unfold Dic.belS; rw [if_pos h])
    rw [← Hr.out, ← Hs.out]
    clear Hr Hs
    go_enter Try.func12, Try.ntmps12
    go_wp2_with fail
    go_region
    go_wp2_with fail
    have u2 := (x2.set (s : Int)).cell
    exact bodyPost_ret (v := .tuple #[.int .i64 0, dv s]) (by simp [results, Try.results12, go_sem, u2]) rfl (Did.mk rfl (hb.setCell (p := ⟨w.heap.size + 1, 0, none⟩) (by show w.heap.size ≤ w.heap.size + 1; omega) _).drew)
  · obtain ⟨m, rfl⟩ := Int.eq_ofNat_of_zero_le (show 0 ≤ n by omega)
    have hm : 0 < m := by omega
    have hm2 : (m : Int) < 9223372036854775808 := hn.2
    have Hr := hid (show Dic.num s % m = Dic.bel s m by unfold Dic.bel; rw [if_neg h]; rfl)
    have Hs := hid (show Dic.nx s = Dic.belS s m by unfold Dic.belS; rw [if_neg h])
    have hrl := Nat.mod_lt (Dic.num s) hm
    have HN := hid (fun w => r_Next s w)
    have hrr : (Dic.num s : Int) % (m : Int) = ((Dic.num s % m : Nat) : Int) := by omega
    have hrt : (Dic.num s : Int).tmod (m : Int) = ((Dic.num s % m : Nat) : Int) := by rw [Int.tmod_eq_emod_of_nonneg (by omega)]; omega
    have hrw : IntKind.u64.wrap ((Dic.num s : Int).tmod (m : Int)) = ((Dic.num s % m : Nat) : Int) := by
      rw [hrt, IntKind.wrap_u64]
      omega
    have hrv : IntKind.i64.wrap ((Dic.num s % m : Nat) : Int) = ((Dic.num s % m : Nat) : Int) := by
      rw [IntKind.wrap_i64]
      omega
    have hmw : IntKind.u64.wrap (m : Int) = (m : Int) := by
      rw [IntKind.wrap_u64]
      omega
    have hm0 : (0 : Int) < (m : Int) := by omega
    have hm1 : (m : Int) ≠ 0 := by omega
    rw [← Hr.out, ← Hs.out]
    clear Hr Hs hn
    generalize Dic.num s % m = r at *
    generalize Dic.nx s = s' at *
    generalize Dic.num s = v at *
    go_enter Try.func12, Try.ntmps12
    go_wp2_with fail
    refine (HN.out _).mono ?_
    rintro e w2 ⟨rfl, b2⟩
    have y2 := x2.below b2 (by omega)
    have hb2 := hb.trans (b2.mono (by omega))
    have hsz := b2.size
    have hbA := below_alloc w2 (.cells #[.int .u64 (s' : Int)] 24)
    have z2 := y2.below hbA (by omega)
    have z3 := Bx.new w2 (s' : Int)
    have hb3 := hb2.trans (hbA.mono (by omega))
    clear x1 x2 y2 c1 c2 f2 b2 hbA
    have c2 := z2.cell
    have f2 := z2.free
    have c3 := z3.cell
    have hne : w2.heap.size ≠ w.heap.size + 1 := by omega
    go_wp2_with fail
    go_region
    go_wp2_with fail
    have u2 := (z2.set (s' : Int)).cell
    exact bodyPost_ret (v := .tuple #[.int .i64 r, dv s']) (by simp [results, Try.results12, go_sem, u2]) rfl (Did.mk rfl (hb3.setCell (p := ⟨w.heap.size + 1, 0, none⟩) (by show w.heap.size ≤ w.heap.size + 1; omega) _).drew)
end Go.Proofs.Ytdhapddconoegaa

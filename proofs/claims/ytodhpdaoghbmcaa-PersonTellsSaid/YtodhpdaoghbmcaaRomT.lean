/- Contracts of the program's own Same, and of the library's Grow of nothing over rows of times (layer 11). -/
import Derived.Test.YtodhpdaoghbmcaaRomS
import Derived.Lib.AppendZeros
namespace Go.Proofs.Ytodhpdaoghbmcaa
open Go.RowKit
open Whn (Gr Wh)

set_option maxRecDepth 4000 in
set_option maxHeartbeats 4000000 in
theorem p_SameRoom (x y : Rm) (A A2 : Option Addr) (c c2 : Nat) (hm : x.l.length ≤ maxLen) (w : World) (h : Whs w w.heap.size A x.l) (h2 : Whs w w.heap.size A2 y.l) :
    Calls Try.prog 58 #[rv x A c, rv y A2 c2] w (Did (.bool (rmEq x y)) w) := by
  have HR := hid (fun w h h2 => p_Equal A A2 c c2 x.l y.l hm w h h2)
  have H := hid h
  have H2 := hid h2
  have Hr := hid (show rmEq x y = (decide (x.n = y.n) && decide (x.s = y.s) && decide (x.g = y.g) && decide (x.l = y.l)) from rfl)
  clear h h2 hm
  obtain ⟨P, W, hP, hW, K, hb0⟩ := (Mem.nil w).one (rc x A c) 63
  obtain ⟨R, V, hR, hV, K1, hb1⟩ := K.out.one (rc y A2 c2) 63
  clear K hb0 hb1
  obtain ⟨r0, r1, r2, r3⟩ := K1.out.rm (B := P) (r := x) (A := A) (c := c) (by simp)
  obtain ⟨s0, s1, s2, s3⟩ := K1.out.rm (B := R) (r := y) (A := A2) (c := c2) (by simp)
  generalize decide (x.l = y.l) = ww at *
  generalize rmEq x y = q at *
  by_cases e1 : x.n = y.n
  · have q1 : ((bs x.n).toList == (bs y.n).toList) = true := by rw [e1]; simp
    by_cases e2 : x.s = y.s
    · by_cases e3 : x.g = y.g
      · have q3 : ((x.g : Int) == (y.g : Int)) = true := by rw [e3]; exact beq_self_eq_true _
        have q2 : (x.s == y.s) = true := by rw [e2]; exact beq_self_eq_true _
        rw [decide_eq_true e1, decide_eq_true e2, decide_eq_true e3] at Hr
        clear e1 e2 e3
        go_enter Try.func58, Try.ntmps58
        go_wp2_with fail
        refine (HR.out _ (H.out.below K1.out.2 (Nat.le_refl _) |>.more K1.out.2.size) (H2.out.below K1.out.2 (Nat.le_refl _) |>.more K1.out.2.size)).mono ?_
        rintro e w1 ⟨rfl, b1⟩
        have K2 := K1.out.next b1
        go_wp2_with fail
        go_ret
        exact Did.mk (by rw [Hr.out]; rfl) K2.2
      · have q3 : ((x.g : Int) == (y.g : Int)) = false := by rw [beq_eq_false_iff_ne]; omega
        have q2 : (x.s == y.s) = true := by rw [e2]; exact beq_self_eq_true _
        rw [decide_eq_true e1, decide_eq_true e2, decide_eq_false e3] at Hr
        clear e1 e2 e3
        go_enter Try.func58, Try.ntmps58
        go_wp2_with fail
        go_ret
        exact Did.mk (by rw [Hr.out]; rfl) K1.out.2
    · have q2 : (x.s == y.s) = false := by rw [beq_eq_false_iff_ne]; exact e2
      rw [decide_eq_true e1, decide_eq_false e2] at Hr
      clear e1 e2
      go_enter Try.func58, Try.ntmps58
      go_wp2_with fail
      go_ret
      exact Did.mk (by rw [Hr.out]; rfl) K1.out.2
  · have q1 : ((bs x.n).toList == (bs y.n).toList) = false := by rw [list_of, list_of, bs_data, bs_data, beq_eq_false_iff_ne]; exact e1
    rw [decide_eq_false e1] at Hr
    clear e1
    go_enter Try.func58, Try.ntmps58
    go_wp2_with fail
    go_ret
    exact Did.mk (by rw [Hr.out]; rfl) K1.out.2
/-- an empty row of the call's own, with room -/
def GwRet (w : World) (e : Ending) (w' : World) : Prop := ∃ v, e = .returned v ∧ w'.ownsRow w.heap.size 29 4 v 0 [] ∧ Below w.heap.size w w'
set_option maxRecDepth 8000 in
theorem grow_nil (n : Nat) (h0 : 0 < n) (hn : n ≤ 1000000) (w : World) : ∃ cap W, (Builtin.append_ #[24, 3] 24 #[.slice none 0 0, .int .i64 n]).run Try.prog w = .ok (.slice (some ⟨w.heap.size, 0, none⟩) n cap) W ∧ n ≤ cap ∧ W.ownsRow w.heap.size 29 4 (.slice (some ⟨w.heap.size, 0, none⟩) 0 cap) 0 [] ∧ Below w.heap.size w W := by
  obtain ⟨i0, hi0, hz0, hz1, hz2⟩ := info_parts Try.info_when
  have hrun := Lib.run_append_nil_zeros (P := Try.prog) w 24 3 24 29 i0 (.agg #[.int .u32 0, .int .u8 0, .int .i64 0, .int .i64 0]) .i64 .i64 Try.underlying24 Try.underlying3 hi0 hz0 n h0 (by rw [hz1]; decide) (by omega) (by rw [hz2]; omega)
  have hge := grownCap_ge w n 0 29
  have hgm : grownCap w n 0 29 ≤ maxLen := grownCap_le_maxLen w n 0 29 (by unfold maxLen; omega)
  refine ⟨_, _, hrun, hge, ⟨rfl, .inr ⟨w.heap.size, _, _, rfl, Nat.le_refl _, heap_alloc_new w.drew _, Nat.zero_le _, hgm, ?_, ?_⟩⟩, ?_⟩
  · simp only [Array.size_append, size_zeroCells]
    rw [show (Value.agg #[.int .u32 0, .int .u8 0, .int .i64 0, .int .i64 0]).cells.size = 4 from rfl, ← Nat.add_mul]
    congr 1
    omega
  · simp
  · exact (Below.refl _ w).drew.alloc (Nat.le_refl _) _
set_option maxRecDepth 4000 in
set_option maxHeartbeats 1000000 in
theorem p_Grow (n : Nat) (hn : n ≤ 1000000) (w : World) :
    Calls Try.prog 85 #[.slice none 0 0, .int .i64 n] w (GwRet w) := by
  have b1 : ¬ (n : Int) < 0 := by omega
  by_cases h0 : n = 0
  · subst h0
    have b3 : ¬ (0 : Int) < 0 := by omega
    go_enter Try.func85, Try.ntmps85
    go_wp2_with fail
    go_ret
    exact ⟨_, rfl, World.ownsRow_nil _ _ _ _, Below.refl _ _⟩
  · have b2 : 0 < (n : Int) := by omega
    obtain ⟨cap, W, hrun, hcap, hown, hbel⟩ := grow_nil n (by omega) hn w
    clear h0
    go_enter Try.func85, Try.ntmps85
    go_wp2_with (at_builtin; refine Lib.wpList_append_run _ rfl _ _ 24 3 rfl _ _ rfl rfl _ _ hrun ?_)
    go_ret
    exact ⟨_, rfl, hown, hbel⟩
end Go.Proofs.Ytodhpdaoghbmcaa

/- What the proof of ProblemCopies stands on, part 3. -/
import Derived.Lib.Tables
import Derived.Lib.TrailingZeros
import Derived.Test.YtgmgccepmalahaaGreatCpAA
namespace Go.Proofs.YtgmgccepmalahaaGreat
open Go.RowKit
open Whn (Gr Wh)
def blen (n : Nat) : Nat := if n = 0 then 0 else Nat.log2 n + 1
theorem blen_iff (n k : Nat) : blen n ≤ k ↔ n < 2 ^ k := by
 unfold blen
 split
 · rename_i h
   subst h
   exact ⟨fun _ => Nat.pow_pos (by decide), fun _ => Nat.zero_le _⟩
 · rename_i h
   rw [← Nat.log2_lt h]
   omega
theorem blen_of {n L : Nat} (h : ∀ k, L ≤ k ↔ n < 2 ^ k) : blen n = L := by
 have h1 := (blen_iff n (blen n)).1 (Nat.le_refl _)
 have h2 := (h (blen n)).2 h1
 have h3 := (h L).1 (Nat.le_refl _)
 have h4 := (blen_iff n L).2 h3
 omega
theorem blen_next (n m d : Nat) (hd : d = 2 ^ m) (h : d ≤ n) : blen n = m + blen (n / d) := by
 subst hd
 refine blen_of fun k => ?_
 rcases Nat.lt_or_ge k m with hk | hk
 · have : 2 ^ k < 2 ^ m := Nat.pow_lt_pow_right (by decide) hk
   omega
 · have e : n < 2 ^ k ↔ n / 2 ^ m < 2 ^ (k - m) := by
    rw [Nat.div_lt_iff_lt_mul (Nat.pow_pos (by decide)), ← Nat.pow_add, show k - m + m = k by omega]
   rw [e, ← blen_iff]
   omega
theorem len8_all : ∀ n : Nat, n < 256 → Lib.len8 (n : Int) = ((blen n : Nat) : Int) := by decide +kernel
theorem blen_le (n k : Nat) (h : n < 2 ^ k) : blen n ≤ k := (blen_iff n k).2 h
set_option maxRecDepth 20000 in
theorem p_Len8 (n : Nat) (hn : n < 256) (w : World) : Calls Tryz.prog 206 #[.int .u8 (n : Int)] w (fun e w' => e = .returned (.int .i64 ((blen n : Nat) : Int)) ∧ w = w') := by
 have h1 := len8_all n hn
 have hb := blen_le n 8 hn
 have h0 : (0 : Int) ≤ (n : Int) := by omega
 have h2 : (n : Int) ≤ 255 := by omega
 generalize blen n = L at *
 clear hn
 go_enter Tryz.func206, Tryz.ntmps206
 go_wp2_with fail
 go_ret
 exact ⟨rfl, rfl⟩
set_option maxRecDepth 20000 in
set_option maxHeartbeats 2000000 in
theorem len32_a (z y L : Int) (hz : z < 256) (hy : z = y) (y0 : 0 ≤ y) (y1 : y ≤ 255) (hL : Lib.len8 y = L) (l0 : 0 ≤ L) (l1 : L ≤ 8) (w : World) : Calls Tryz.prog 204 #[.int .u32 z] w (fun e w' => e = .returned (.int .i64 (L)) ∧ w = w') := by
 subst hy
 have t1 : decide (65536 ≤ z) = false := decide_eq_false (by omega)
 have t2 : decide (256 ≤ z) = false := decide_eq_false (by omega)
 go_enter Tryz.func204, Tryz.ntmps204
 go_wp2_with fail
 go_ret
 exact ⟨rfl, rfl⟩
set_option maxRecDepth 20000 in
set_option maxHeartbeats 2000000 in
theorem len32_b (z y L : Int) (hz : 256 ≤ z ∧ z < 65536) (hy : z / 256 = y) (y0 : 0 ≤ y) (y1 : y ≤ 255) (hL : Lib.len8 y = L) (l0 : 0 ≤ L) (l1 : L ≤ 8) (w : World) : Calls Tryz.prog 204 #[.int .u32 z] w (fun e w' => e = .returned (.int .i64 (8 + L)) ∧ w = w') := by
 obtain ⟨hz1, hz2⟩ := hz
 have t1 : decide (65536 ≤ z) = false := decide_eq_false (by omega)
 have t2 : decide (256 ≤ z) = true := decide_eq_true (by omega)
 go_enter Tryz.func204, Tryz.ntmps204
 go_wp2_with fail
 go_ret
 exact ⟨rfl, rfl⟩
set_option maxRecDepth 20000 in
set_option maxHeartbeats 2000000 in
theorem len32_c (z y L : Int) (hz : 65536 ≤ z ∧ z < 16777216) (hy : z / 65536 = y) (y0 : 0 ≤ y) (y1 : y ≤ 255) (hL : Lib.len8 y = L) (l0 : 0 ≤ L) (l1 : L ≤ 8) (w : World) : Calls Tryz.prog 204 #[.int .u32 z] w (fun e w' => e = .returned (.int .i64 (16 + L)) ∧ w = w') := by
 obtain ⟨hz1, hz2⟩ := hz
 have t1 : decide (65536 ≤ z) = true := decide_eq_true (by omega)
 have t2 : decide (256 ≤ z / 65536) = false := decide_eq_false (by omega)
 go_enter Tryz.func204, Tryz.ntmps204
 go_wp2_with fail
 go_ret
 exact ⟨rfl, rfl⟩
set_option maxRecDepth 20000 in
set_option maxHeartbeats 2000000 in
theorem len32_d (z y L : Int) (hz : 16777216 ≤ z) (hy : z / 65536 / 256 = y) (y0 : 0 ≤ y) (y1 : y ≤ 255) (hL : Lib.len8 y = L) (l0 : 0 ≤ L) (l1 : L ≤ 8) (w : World) : Calls Tryz.prog 204 #[.int .u32 z] w (fun e w' => e = .returned (.int .i64 (24 + L)) ∧ w = w') := by
 have t1 : decide (65536 ≤ z) = true := decide_eq_true (by omega)
 have t2 : decide (256 ≤ z / 65536) = true := decide_eq_true (by omega)
 go_enter Tryz.func204, Tryz.ntmps204
 go_wp2_with fail
 go_ret
 exact ⟨rfl, rfl⟩
theorem p_Len32 (n : Nat) (hn : n < 4294967296) (w : World) : Calls Tryz.prog 204 #[.int .u32 (n : Int)] w (fun e w' => e = .returned (.int .i64 ((blen n : Nat) : Int)) ∧ w = w') := by
 rcases Nat.lt_or_ge n 256 with h1 | h1
 · have hb := blen_le n 8 h1
   exact len32_a n n (blen n : Nat) (by omega) rfl (by omega) (by omega) (len8_all n h1) (by omega) (by omega) w
 rcases Nat.lt_or_ge n 65536 with h2 | h2
 · have hb := blen_le (n / 256) 8 (show n / 256 < 256 by omega)
   rw [blen_next n 8 256 rfl h1]
   exact len32_b n (n / 256 : Nat) (blen (n / 256) : Nat) (by omega) (by omega) (by omega) (by omega) (len8_all _ (by omega)) (by omega) (by omega) w
 rcases Nat.lt_or_ge n 16777216 with h3 | h3
 · have hb := blen_le (n / 65536) 8 (show n / 65536 < 256 by omega)
   rw [blen_next n 16 65536 rfl h2]
   exact len32_c n (n / 65536 : Nat) (blen (n / 65536) : Nat) (by omega) (by omega) (by omega) (by omega) (len8_all _ (by omega)) (by omega) (by omega) w
 · have hb := blen_le (n / 16777216) 8 (show n / 16777216 < 256 by omega)
   rw [blen_next n 24 16777216 rfl h3]
   exact len32_d n (n / 16777216 : Nat) (blen (n / 16777216) : Nat) (by omega) (by omega) (by omega) (by omega) (len8_all _ (by omega)) (by omega) (by omega) w
end Go.Proofs.YtgmgccepmalahaaGreat
namespace Go.Proofs.YtgmgccepmalahaaGreat
open Go.RowKit
open Whn (Gr Wh)
theorem p_in (n a b : Int) (h : a ≤ n ∧ n ≤ b) (w : World) : Calls Tryz.prog 120 #[.int .i64 n, .int .i64 a, .int .i64 b] w (fun e w' => e = .returned (.bool true) ∧ w = w') := by
 obtain ⟨h1, h2⟩ := h
 go_enter Tryz.func120, Tryz.ntmps120
 go_wp2_with fail
 go_ret
 exact ⟨rfl, rfl⟩
theorem p_out (n a b : Int) (h : n < a ∨ b < n) (w : World) : Calls Tryz.prog 120 #[.int .i64 n, .int .i64 a, .int .i64 b] w (fun e w' => e = .returned (.bool false) ∧ w = w') := by
 by_cases h1 : a ≤ n
 · have h2 := hid (show decide (n ≤ b) = false from decide_eq_false (by omega))
   clear h
   go_enter Tryz.func120, Tryz.ntmps120
   go_wp2_with fail
   go_ret
   exact ⟨congrArg (fun z => Ending.returned (Value.bool z)) h2.out, rfl⟩
 · clear h
   go_enter Tryz.func120, Tryz.ntmps120
   go_wp2_with fail
   go_ret
   exact ⟨rfl, rfl⟩
set_option maxRecDepth 4000 in
set_option maxHeartbeats 1000000 in
theorem p_RightGrid (g : Gr) (w : World) : Calls Tryz.prog 39 #[gv g] w (Did (.bool (Whn.rgrid g)) w) := by
 have HI := hid (fun n a b h w => p_in n a b h w)
 have HO := hid (fun n a b h w => p_out n a b h w)
 obtain ⟨B, W, hB, hW, K, hb0⟩ := (Mem.nil w).one (gc g) 23
 obtain ⟨c0, c1, c2⟩ := K.out.gr (B := B) (g := g) (by simp)
 have hno : Whn.rgrid g = true ∨ Whn.rgrid g = false := by cases Whn.rgrid g <;> simp
 have hcs : (Whn.rgrid g = true ∧ (1 ≤ g.w ∧ g.w ≤ 20) ∧ (1 ≤ g.d ∧ g.d ≤ 7) ∧ (1 ≤ g.s ∧ g.s ≤ 96)) ∨ (Whn.rgrid g = false ∧ ((g.w < 1 ∨ 20 < g.w) ∨ ((1 ≤ g.w ∧ g.w ≤ 20) ∧ (g.d < 1 ∨ 7 < g.d)) ∨ ((1 ≤ g.w ∧ g.w ≤ 20) ∧ (1 ≤ g.d ∧ g.d ≤ 7) ∧ (g.s < 1 ∨ 96 < g.s)))) := by
  have h := Whn.rgrid_iff g
  rcases hno with h0 | h0
  · left
    have := h.1 h0
    exact ⟨h0, by omega⟩
  · right
    refine ⟨h0, ?_⟩
    rw [h0] at h
    have : ¬ (1 ≤ g.w ∧ g.w ≤ 20 ∧ 1 ≤ g.d ∧ g.d ≤ 7 ∧ 1 ≤ g.s ∧ g.s ≤ 96) := fun k => by have := h.2 k; cases this
    omega
 clear hno
 rcases hcs with ⟨hr, h1, h2, h3⟩ | ⟨hr, h1 | ⟨h1, h2⟩ | ⟨h1, h2, h3⟩⟩
 · have Hr := hid hr
   clear hr
   go_enter Tryz.func39, Tryz.ntmps39
   go_wp2_with fail
   refine (HI.out _ _ _ h1 _).mono ?_
   rintro e w1 ⟨rfl, rfl⟩
   go_wp2_with fail
   refine (HI.out _ _ _ h2 _).mono ?_
   rintro e w1 ⟨rfl, rfl⟩
   go_wp2_with fail
   refine (HI.out _ _ _ h3 _).mono ?_
   rintro e w1 ⟨rfl, rfl⟩
   go_wp2_with fail
   go_ret
   exact Did.mk (by rw [Hr.out]; rfl) K.out.2
 · have Hr := hid hr
   clear hr
   go_enter Tryz.func39, Tryz.ntmps39
   go_wp2_with fail
   refine (HO.out _ _ _ h1 _).mono ?_
   rintro e w1 ⟨rfl, rfl⟩
   go_wp2_with fail
   go_ret
   exact Did.mk (by rw [Hr.out]; rfl) K.out.2
 · have Hr := hid hr
   clear hr
   go_enter Tryz.func39, Tryz.ntmps39
   go_wp2_with fail
   refine (HI.out _ _ _ h1 _).mono ?_
   rintro e w1 ⟨rfl, rfl⟩
   go_wp2_with fail
   refine (HO.out _ _ _ h2 _).mono ?_
   rintro e w1 ⟨rfl, rfl⟩
   go_wp2_with fail
   go_ret
   exact Did.mk (by rw [Hr.out]; rfl) K.out.2
 · have Hr := hid hr
   clear hr
   go_enter Tryz.func39, Tryz.ntmps39
   go_wp2_with fail
   refine (HI.out _ _ _ h1 _).mono ?_
   rintro e w1 ⟨rfl, rfl⟩
   go_wp2_with fail
   refine (HI.out _ _ _ h2 _).mono ?_
   rintro e w1 ⟨rfl, rfl⟩
   go_wp2_with fail
   refine (HO.out _ _ _ h3 _).mono ?_
   rintro e w1 ⟨rfl, rfl⟩
   go_wp2_with fail
   go_ret
   exact Did.mk (by rw [Hr.out]; rfl) K.out.2
end Go.Proofs.YtgmgccepmalahaaGreat
namespace Go.Proofs.YtgmgccepmalahaaGreat
open Go.RowKit
open Whn (Gr Wh)
end Go.Proofs.YtgmgccepmalahaaGreat
namespace Go.Proofs.YtgmgccepmalahaaGreat
open Go.RowKit
open Whn (Gr Wh)
end Go.Proofs.YtgmgccepmalahaaGreat
namespace Go.Proofs.YtgmgccepmalahaaGreat
open Go.RowKit
open Whn (Gr Wh)
theorem nat_beq (n : Nat) : ((n : Int) == 0) = decide (n = 0) := by
 rw [Bool.eq_iff_iff, beq_iff_eq, decide_eq_true_iff]
 omega
set_option maxRecDepth 4000 in
set_option maxHeartbeats 1000000 in
theorem pr_grid (g : Gr) (x : Wh) (hg : Whn.rgrid g = false) (w : World) : Calls Tryz.prog 175 #[gv g, wv x] w (Did (.bool false) w) := by
 have HT := hid (fun w => p_RightGrid g w)
 rw [hg] at HT
 obtain ⟨A, W, hA, hW, K, hb0⟩ := (Mem.nil w).one (gc g) 23
 obtain ⟨B, V, hB, hV, K1, hb1⟩ := K.out.one (wc x) 55
 obtain ⟨g0, g1, g2⟩ := K1.out.gr (B := A) (g := g) (by simp)
 obtain ⟨c0, c1, c2, c3⟩ := K1.out.wh (B := B) (x := x) (by simp)
 clear K hb0 hb1 hg
 go_enter Tryz.func175, Tryz.ntmps175
 go_wp2_with fail
 refine (HT.out _).mono ?_
 rintro e w1 ⟨rfl, b1⟩
 go_wp2_with fail
 go_ret
 exact Did.mk rfl (K1.out.next b1).2
set_option maxRecDepth 4000 in
set_option maxHeartbeats 1000000 in
theorem pr_w0 (g : Gr) (x : Wh) (hg : Whn.rgrid g = true) (n1 : ((x.w : Int) == 0) = true) (w : World) : Calls Tryz.prog 175 #[gv g, wv x] w (Did (.bool false) w) := by
 have HT := hid (fun w => p_RightGrid g w)
 rw [hg] at HT
 obtain ⟨A, W, hA, hW, K, hb0⟩ := (Mem.nil w).one (gc g) 23
 obtain ⟨B, V, hB, hV, K1, hb1⟩ := K.out.one (wc x) 55
 obtain ⟨g0, g1, g2⟩ := K1.out.gr (B := A) (g := g) (by simp)
 obtain ⟨c0, c1, c2, c3⟩ := K1.out.wh (B := B) (x := x) (by simp)
 clear K hb0 hb1 hg
 go_enter Tryz.func175, Tryz.ntmps175
 go_wp2_with fail
 refine (HT.out _).mono ?_
 rintro e w1 ⟨rfl, b1⟩
 have K2 := K1.out.next b1
 clear g0 g1 g2 c0 c1 c2 c3
 obtain ⟨g0, g1, g2⟩ := K2.gr (B := A) (g := g) (by simp)
 obtain ⟨c0, c1, c2, c3⟩ := K2.wh (B := B) (x := x) (by simp)
 go_wp2_with fail
 go_ret
 exact Did.mk rfl K2.2
set_option maxRecDepth 4000 in
set_option maxHeartbeats 1000000 in
theorem pr_d0 (g : Gr) (x : Wh) (hg : Whn.rgrid g = true) (n1 : ((x.w : Int) == 0) = false) (n2 : ((x.d : Int) == 0) = true) (w : World) : Calls Tryz.prog 175 #[gv g, wv x] w (Did (.bool false) w) := by
 have HT := hid (fun w => p_RightGrid g w)
 rw [hg] at HT
 obtain ⟨A, W, hA, hW, K, hb0⟩ := (Mem.nil w).one (gc g) 23
 obtain ⟨B, V, hB, hV, K1, hb1⟩ := K.out.one (wc x) 55
 obtain ⟨g0, g1, g2⟩ := K1.out.gr (B := A) (g := g) (by simp)
 obtain ⟨c0, c1, c2, c3⟩ := K1.out.wh (B := B) (x := x) (by simp)
 clear K hb0 hb1 hg
 go_enter Tryz.func175, Tryz.ntmps175
 go_wp2_with fail
 refine (HT.out _).mono ?_
 rintro e w1 ⟨rfl, b1⟩
 have K2 := K1.out.next b1
 clear g0 g1 g2 c0 c1 c2 c3
 obtain ⟨g0, g1, g2⟩ := K2.gr (B := A) (g := g) (by simp)
 obtain ⟨c0, c1, c2, c3⟩ := K2.wh (B := B) (x := x) (by simp)
 go_wp2_with fail
 go_ret
 exact Did.mk rfl K2.2
set_option maxRecDepth 4000 in
set_option maxHeartbeats 2000000 in
theorem pr_lw (g : Gr) (x : Wh) (hg : Whn.rgrid g = true) (n1 : ((x.w : Int) == 0) = false) (n2 : ((x.d : Int) == 0) = false) (lw : Nat) (H32 : Hid (∀ w, Calls Tryz.prog 204 #[.int .u32 (x.w : Int)] w (fun e w' => e = .returned (.int .i64 (lw : Int)) ∧ w = w'))) (t1 : decide (g.w < (lw : Int)) = true) (w : World) : Calls Tryz.prog 175 #[gv g, wv x] w (Did (.bool false) w) := by
 have HT := hid (fun w => p_RightGrid g w)
 rw [hg] at HT
 obtain ⟨A, W, hA, hW, K, hb0⟩ := (Mem.nil w).one (gc g) 23
 obtain ⟨B, V, hB, hV, K1, hb1⟩ := K.out.one (wc x) 55
 obtain ⟨g0, g1, g2⟩ := K1.out.gr (B := A) (g := g) (by simp)
 obtain ⟨c0, c1, c2, c3⟩ := K1.out.wh (B := B) (x := x) (by simp)
 clear K hb0 hb1 hg
 go_enter Tryz.func175, Tryz.ntmps175
 go_wp2_with fail
 refine (HT.out _).mono ?_
 rintro e w1 ⟨rfl, b1⟩
 have K2 := K1.out.next b1
 clear g0 g1 g2 c0 c1 c2 c3
 obtain ⟨g0, g1, g2⟩ := K2.gr (B := A) (g := g) (by simp)
 obtain ⟨c0, c1, c2, c3⟩ := K2.wh (B := B) (x := x) (by simp)
 go_wp2_with fail
 have KA := K2.drew
 have hS2 := And.intro (KA.gr (B := A) (g := g) (by simp)) (KA.wh (B := B) (x := x) (by simp))
 refine wp_region_held_drew (S := (fun X => (X.cell? ⟨A, 0, none⟩ = some (.int .i64 g.w) ∧ X.cell? ⟨A, 1, none⟩ = some (.int .i64 g.d) ∧ X.cell? ⟨A, 2, none⟩ = some (.int .i64 g.s)) ∧ (X.cell? ⟨B, 0, none⟩ = some (.int .u32 (x.w : Int)) ∧ X.cell? ⟨B, 1, none⟩ = some (.int .u8 (x.d : Int)) ∧ X.cell? ⟨B, 2, none⟩ = some (.int .i64 x.s) ∧ X.cell? ⟨B, 3, none⟩ = some (.int .i64 x.l)))) (by kernel_rfl) hS2 (fun hHeld => ?_)
 refine tkD 0 18 (.pointer (some ⟨B, 0, none⟩)) rfl rfl hHeld ?_
 simp only [pt, List.set]
 refine tkH 1 19 (.int .u32 (x.w : Int)) rfl rfl (fun X hX => by obtain ⟨⟨s0, s1, s2⟩, h0, h1, h2, h3⟩ := hX; go_simp) hHeld ?_
 simp only [pt, List.set]
 refine tkD 3 21 (.pointer (some ⟨A, 0, none⟩)) rfl rfl hHeld ?_
 simp only [pt, List.set]
 refine tkH 4 22 (.int .i64 g.w) rfl rfl (fun X hX => by obtain ⟨⟨s0, s1, s2⟩, h0, h1, h2, h3⟩ := hX; go_simp) hHeld ?_
 simp only [pt, List.set]
 refine wpAnyH_ready (rs := [2]) (by kernel_rfl) (by simp) ?_
 refine AllReadyH.cons rfl (fun KK hK => ?_) AllReadyH.nil
 simp only [List.getElem_toArray, List.getElem_cons_succ, List.getElem_cons_zero]
 go_simp
 refine (H32.out _).mono ?_
 rintro e w3 ⟨rfl, rfl⟩
 refine hK.out _ _ hS2 (fun hHeld => ?_)
 clear hK KK
 try simp only [pt, List.set]
 refine tkD 5 23 (.bool true) rfl rfl hHeld ?_
 simp only [pt, List.set]
 refine tkD 6 24 (.bool true) rfl rfl hHeld ?_
 simp only [pt, List.set]
 refine skD 7 25 rfl rfl hHeld ?_
 simp only [pt, List.set]
 refine skD 8 26 rfl rfl hHeld ?_
 simp only [pt, List.set]
 refine skD 9 27 rfl rfl hHeld ?_
 simp only [pt, List.set]
 refine skD 10 28 rfl rfl hHeld ?_
 simp only [pt, List.set]
 refine skD 11 29 rfl rfl hHeld ?_
 simp only [pt, List.set]
 refine skD 12 30 rfl rfl hHeld ?_
 simp only [pt, List.set]
 refine tkD 13 31 (.bool true) rfl rfl hHeld ?_
 simp only [pt, List.set]
 refine wpAnyH_done (by kernel_rfl) ?_ _
 go_wp2_with fail
 go_ret
 exact Did.mk rfl KA.2
set_option maxRecDepth 4000 in
set_option maxHeartbeats 2000000 in
theorem pr_ld (g : Gr) (x : Wh) (hg : Whn.rgrid g = true) (n1 : ((x.w : Int) == 0) = false) (n2 : ((x.d : Int) == 0) = false) (lw ld : Nat) (H32 : Hid (∀ w, Calls Tryz.prog 204 #[.int .u32 (x.w : Int)] w (fun e w' => e = .returned (.int .i64 (lw : Int)) ∧ w = w'))) (H8 : Hid (∀ w, Calls Tryz.prog 206 #[.int .u8 (x.d : Int)] w (fun e w' => e = .returned (.int .i64 (ld : Int)) ∧ w = w'))) (t1 : decide (g.w < (lw : Int)) = false) (t2 : decide (g.d < (ld : Int)) = true) (w : World) : Calls Tryz.prog 175 #[gv g, wv x] w (Did (.bool false) w) := by
 have HT := hid (fun w => p_RightGrid g w)
 rw [hg] at HT
 obtain ⟨A, W, hA, hW, K, hb0⟩ := (Mem.nil w).one (gc g) 23
 obtain ⟨B, V, hB, hV, K1, hb1⟩ := K.out.one (wc x) 55
 obtain ⟨g0, g1, g2⟩ := K1.out.gr (B := A) (g := g) (by simp)
 obtain ⟨c0, c1, c2, c3⟩ := K1.out.wh (B := B) (x := x) (by simp)
 clear K hb0 hb1 hg
 go_enter Tryz.func175, Tryz.ntmps175
 go_wp2_with fail
 refine (HT.out _).mono ?_
 rintro e w1 ⟨rfl, b1⟩
 have K2 := K1.out.next b1
 clear g0 g1 g2 c0 c1 c2 c3
 obtain ⟨g0, g1, g2⟩ := K2.gr (B := A) (g := g) (by simp)
 obtain ⟨c0, c1, c2, c3⟩ := K2.wh (B := B) (x := x) (by simp)
 go_wp2_with fail
 have KA := K2.drew
 have hS2 := And.intro (KA.gr (B := A) (g := g) (by simp)) (KA.wh (B := B) (x := x) (by simp))
 go_region_held3 (fun X => (X.cell? ⟨A, 0, none⟩ = some (.int .i64 g.w) ∧ X.cell? ⟨A, 1, none⟩ = some (.int .i64 g.d) ∧ X.cell? ⟨A, 2, none⟩ = some (.int .i64 g.s)) ∧ (X.cell? ⟨B, 0, none⟩ = some (.int .u32 (x.w : Int)) ∧ X.cell? ⟨B, 1, none⟩ = some (.int .u8 (x.d : Int)) ∧ X.cell? ⟨B, 2, none⟩ = some (.int .i64 x.s) ∧ X.cell? ⟨B, 3, none⟩ = some (.int .i64 x.l))) (exact hS2) (first | (go_at_call 204; refine (H32.out _).mono ?_; rintro e w3 ⟨rfl, rfl⟩) | (go_at_call 206; refine (H8.out _).mono ?_; rintro e w3 ⟨rfl, rfl⟩))
 go_wp2_with fail
 go_ret
 exact Did.mk rfl KA.2
set_option maxRecDepth 4000 in
set_option maxHeartbeats 2000000 in
theorem pr_l (g : Gr) (x : Wh) (hg : Whn.rgrid g = true) (n1 : ((x.w : Int) == 0) = false) (n2 : ((x.d : Int) == 0) = false) (lw ld : Nat) (H32 : Hid (∀ w, Calls Tryz.prog 204 #[.int .u32 (x.w : Int)] w (fun e w' => e = .returned (.int .i64 (lw : Int)) ∧ w = w'))) (H8 : Hid (∀ w, Calls Tryz.prog 206 #[.int .u8 (x.d : Int)] w (fun e w' => e = .returned (.int .i64 (ld : Int)) ∧ w = w'))) (t1 : decide (g.w < (lw : Int)) = false) (t2 : decide (g.d < (ld : Int)) = false) (t3 : decide (1 ≤ x.l) = false) (w : World) : Calls Tryz.prog 175 #[gv g, wv x] w (Did (.bool false) w) := by
 have HT := hid (fun w => p_RightGrid g w)
 rw [hg] at HT
 obtain ⟨A, W, hA, hW, K, hb0⟩ := (Mem.nil w).one (gc g) 23
 obtain ⟨B, V, hB, hV, K1, hb1⟩ := K.out.one (wc x) 55
 obtain ⟨g0, g1, g2⟩ := K1.out.gr (B := A) (g := g) (by simp)
 obtain ⟨c0, c1, c2, c3⟩ := K1.out.wh (B := B) (x := x) (by simp)
 clear K hb0 hb1 hg
 go_enter Tryz.func175, Tryz.ntmps175
 go_wp2_with fail
 refine (HT.out _).mono ?_
 rintro e w1 ⟨rfl, b1⟩
 have K2 := K1.out.next b1
 clear g0 g1 g2 c0 c1 c2 c3
 obtain ⟨g0, g1, g2⟩ := K2.gr (B := A) (g := g) (by simp)
 obtain ⟨c0, c1, c2, c3⟩ := K2.wh (B := B) (x := x) (by simp)
 go_wp2_with fail
 have KA := K2.drew
 have hS2 := And.intro (KA.gr (B := A) (g := g) (by simp)) (KA.wh (B := B) (x := x) (by simp))
 go_region_held3 (fun X => (X.cell? ⟨A, 0, none⟩ = some (.int .i64 g.w) ∧ X.cell? ⟨A, 1, none⟩ = some (.int .i64 g.d) ∧ X.cell? ⟨A, 2, none⟩ = some (.int .i64 g.s)) ∧ (X.cell? ⟨B, 0, none⟩ = some (.int .u32 (x.w : Int)) ∧ X.cell? ⟨B, 1, none⟩ = some (.int .u8 (x.d : Int)) ∧ X.cell? ⟨B, 2, none⟩ = some (.int .i64 x.s) ∧ X.cell? ⟨B, 3, none⟩ = some (.int .i64 x.l))) (exact hS2) (first | (go_at_call 204; refine (H32.out _).mono ?_; rintro e w3 ⟨rfl, rfl⟩) | (go_at_call 206; refine (H8.out _).mono ?_; rintro e w3 ⟨rfl, rfl⟩))
 obtain ⟨⟨g0, g1, g2⟩, c0, c1, c2, c3⟩ := hS2
 go_wp2_with fail
 go_ret
 exact Did.mk rfl KA.2
set_option maxRecDepth 4000 in
set_option maxHeartbeats 2000000 in
theorem pr_in (g : Gr) (x : Wh) (hg : Whn.rgrid g = true) (n1 : ((x.w : Int) == 0) = false) (n2 : ((x.d : Int) == 0) = false) (lw ld : Nat) (H32 : Hid (∀ w, Calls Tryz.prog 204 #[.int .u32 (x.w : Int)] w (fun e w' => e = .returned (.int .i64 (lw : Int)) ∧ w = w'))) (H8 : Hid (∀ w, Calls Tryz.prog 206 #[.int .u8 (x.d : Int)] w (fun e w' => e = .returned (.int .i64 (ld : Int)) ∧ w = w'))) (t1 : decide (g.w < (lw : Int)) = false) (t2 : decide (g.d < (ld : Int)) = false) (hl : 1 ≤ x.l) (gs : 1 ≤ g.s ∧ g.s ≤ 96) (hs : 0 ≤ x.s ∧ x.s ≤ g.s - x.l) (w : World) : Calls Tryz.prog 175 #[gv g, wv x] w (Did (.bool true) w) := by
 have HT := hid (fun w => p_RightGrid g w)
 rw [hg] at HT
 have HI := hid (fun n a b h w => p_in n a b h w)
 obtain ⟨gs1, gs2⟩ := gs
 obtain ⟨A, W, hA, hW, K, hb0⟩ := (Mem.nil w).one (gc g) 23
 obtain ⟨B, V, hB, hV, K1, hb1⟩ := K.out.one (wc x) 55
 obtain ⟨g0, g1, g2⟩ := K1.out.gr (B := A) (g := g) (by simp)
 obtain ⟨c0, c1, c2, c3⟩ := K1.out.wh (B := B) (x := x) (by simp)
 clear K hb0 hb1 hg
 go_enter Tryz.func175, Tryz.ntmps175
 go_wp2_with fail
 refine (HT.out _).mono ?_
 rintro e w1 ⟨rfl, b1⟩
 have K2 := K1.out.next b1
 clear g0 g1 g2 c0 c1 c2 c3
 obtain ⟨g0, g1, g2⟩ := K2.gr (B := A) (g := g) (by simp)
 obtain ⟨c0, c1, c2, c3⟩ := K2.wh (B := B) (x := x) (by simp)
 go_wp2_with fail
 have KA := K2.drew
 have hS2 := And.intro (KA.gr (B := A) (g := g) (by simp)) (KA.wh (B := B) (x := x) (by simp))
 go_region_held3 (fun X => (X.cell? ⟨A, 0, none⟩ = some (.int .i64 g.w) ∧ X.cell? ⟨A, 1, none⟩ = some (.int .i64 g.d) ∧ X.cell? ⟨A, 2, none⟩ = some (.int .i64 g.s)) ∧ (X.cell? ⟨B, 0, none⟩ = some (.int .u32 (x.w : Int)) ∧ X.cell? ⟨B, 1, none⟩ = some (.int .u8 (x.d : Int)) ∧ X.cell? ⟨B, 2, none⟩ = some (.int .i64 x.s) ∧ X.cell? ⟨B, 3, none⟩ = some (.int .i64 x.l))) (exact hS2) (first | (go_at_call 204; refine (H32.out _).mono ?_; rintro e w3 ⟨rfl, rfl⟩) | (go_at_call 206; refine (H8.out _).mono ?_; rintro e w3 ⟨rfl, rfl⟩))
 obtain ⟨⟨g0, g1, g2⟩, c0, c1, c2, c3⟩ := hS2
 go_wp2_with fail
 refine (HI.out _ _ _ hs _).mono ?_
 rintro e w1 ⟨rfl, rfl⟩
 go_wp2_with fail
 go_ret
 exact Did.mk rfl KA.2
set_option maxRecDepth 4000 in
set_option maxHeartbeats 2000000 in
theorem pr_out (g : Gr) (x : Wh) (hg : Whn.rgrid g = true) (n1 : ((x.w : Int) == 0) = false) (n2 : ((x.d : Int) == 0) = false) (lw ld : Nat) (H32 : Hid (∀ w, Calls Tryz.prog 204 #[.int .u32 (x.w : Int)] w (fun e w' => e = .returned (.int .i64 (lw : Int)) ∧ w = w'))) (H8 : Hid (∀ w, Calls Tryz.prog 206 #[.int .u8 (x.d : Int)] w (fun e w' => e = .returned (.int .i64 (ld : Int)) ∧ w = w'))) (t1 : decide (g.w < (lw : Int)) = false) (t2 : decide (g.d < (ld : Int)) = false) (hl : 1 ≤ x.l) (hl2 : x.l < 9223372036854775808) (gs : 1 ≤ g.s ∧ g.s ≤ 96) (hs : x.s < 0 ∨ g.s - x.l < x.s) (w : World) : Calls Tryz.prog 175 #[gv g, wv x] w (Did (.bool false) w) := by
 have HT := hid (fun w => p_RightGrid g w)
 rw [hg] at HT
 have HO := hid (fun n a b h w => p_out n a b h w)
 obtain ⟨gs1, gs2⟩ := gs
 obtain ⟨A, W, hA, hW, K, hb0⟩ := (Mem.nil w).one (gc g) 23
 obtain ⟨B, V, hB, hV, K1, hb1⟩ := K.out.one (wc x) 55
 obtain ⟨g0, g1, g2⟩ := K1.out.gr (B := A) (g := g) (by simp)
 obtain ⟨c0, c1, c2, c3⟩ := K1.out.wh (B := B) (x := x) (by simp)
 clear K hb0 hb1 hg
 go_enter Tryz.func175, Tryz.ntmps175
 go_wp2_with fail
 refine (HT.out _).mono ?_
 rintro e w1 ⟨rfl, b1⟩
 have K2 := K1.out.next b1
 clear g0 g1 g2 c0 c1 c2 c3
 obtain ⟨g0, g1, g2⟩ := K2.gr (B := A) (g := g) (by simp)
 obtain ⟨c0, c1, c2, c3⟩ := K2.wh (B := B) (x := x) (by simp)
 go_wp2_with fail
 have KA := K2.drew
 have hS2 := And.intro (KA.gr (B := A) (g := g) (by simp)) (KA.wh (B := B) (x := x) (by simp))
 go_region_held3 (fun X => (X.cell? ⟨A, 0, none⟩ = some (.int .i64 g.w) ∧ X.cell? ⟨A, 1, none⟩ = some (.int .i64 g.d) ∧ X.cell? ⟨A, 2, none⟩ = some (.int .i64 g.s)) ∧ (X.cell? ⟨B, 0, none⟩ = some (.int .u32 (x.w : Int)) ∧ X.cell? ⟨B, 1, none⟩ = some (.int .u8 (x.d : Int)) ∧ X.cell? ⟨B, 2, none⟩ = some (.int .i64 x.s) ∧ X.cell? ⟨B, 3, none⟩ = some (.int .i64 x.l))) (exact hS2) (first | (go_at_call 204; refine (H32.out _).mono ?_; rintro e w3 ⟨rfl, rfl⟩) | (go_at_call 206; refine (H8.out _).mono ?_; rintro e w3 ⟨rfl, rfl⟩))
 obtain ⟨⟨g0, g1, g2⟩, c0, c1, c2, c3⟩ := hS2
 go_wp2_with fail
 refine (HO.out _ _ _ hs _).mono ?_
 rintro e w1 ⟨rfl, rfl⟩
 go_wp2_with fail
 go_ret
 exact Did.mk rfl KA.2
theorem p_Right (g : Gr) (x : Wh) (hx : Wok x) (w : World) : Calls Tryz.prog 175 #[gv g, wv x] w (Did (.bool (Whn.right g x)) w) := by
 obtain ⟨hx1, hx2, hx3, hx4⟩ := hx
 have H32 := hid (fun w => p_Len32 x.w hx1 w)
 have H8 := hid (fun w => p_Len8 x.d hx2 w)
 have HR := Whn.right_iff g x
 have HF : ∀ p : Prop, ¬ p → (Whn.right g x = true → p) → false = Whn.right g x := fun p hp h => by
  cases hr : Whn.right g x with
  | false => rfl
  | true => exact absurd (h hr) hp
 cases hT : Whn.rgrid g with
 | false => exact HF (Whn.rgrid g = true) (by rw [hT]; decide) (fun h => (HR.1 h).1) ▸ pr_grid g x hT w
 | true =>
  obtain ⟨q1, q2, q3, q4, q5, q6⟩ := (Whn.rgrid_iff g).1 hT
  by_cases hw0 : x.w = 0
  · exact HF (x.w ≠ 0) (by omega) (fun h => (HR.1 h).2.1) ▸ pr_w0 g x hT (by rw [nat_beq, decide_eq_true hw0]) w
  have n1 : ((x.w : Int) == 0) = false := by rw [nat_beq, decide_eq_false hw0]
  by_cases hd0 : x.d = 0
  · exact HF (x.d ≠ 0) (by omega) (fun h => (HR.1 h).2.2.1) ▸ pr_d0 g x hT n1 (by rw [nat_beq, decide_eq_true hd0]) w
  have n2 : ((x.d : Int) == 0) = false := by rw [nat_beq, decide_eq_false hd0]
  have L1 := blen_iff x.w g.w.toNat
  have L2 := blen_iff x.d g.d.toNat
  generalize blen x.w = lw at *
  generalize blen x.d = ld at *
  by_cases hlw : g.w < (lw : Int)
  · exact HF (x.w < 2 ^ g.w.toNat) (fun h => by have := L1.2 h; omega) (fun h => (HR.1 h).2.2.2.2.2.2.1) ▸ pr_lw g x hT n1 n2 lw H32 (decide_eq_true hlw) w
  by_cases hld : g.d < (ld : Int)
  · exact HF (x.d < 2 ^ g.d.toNat) (fun h => by have := L2.2 h; omega) (fun h => (HR.1 h).2.2.2.2.2.2.2) ▸ pr_ld g x hT n1 n2 lw ld H32 H8 (decide_eq_false hlw) (decide_eq_true hld) w
  by_cases hl : 1 ≤ x.l
  · by_cases hs : 0 ≤ x.s ∧ x.s ≤ g.s - x.l
    · have hr : true = Whn.right g x := (HR.2 ⟨hT, hw0, hd0, hs.1, hl, by omega, L1.1 (by omega), L2.1 (by omega)⟩).symm
      exact hr ▸ pr_in g x hT n1 n2 lw ld H32 H8 (decide_eq_false hlw) (decide_eq_false hld) hl ⟨q5, q6⟩ hs w
    · exact HF (0 ≤ x.s ∧ x.s ≤ g.s - x.l) hs (fun h => by have := HR.1 h; omega) ▸ pr_out g x hT n1 n2 lw ld H32 H8 (decide_eq_false hlw) (decide_eq_false hld) hl hx4.2 ⟨q5, q6⟩ (by omega) w
  · exact HF (1 ≤ x.l) hl (fun h => (HR.1 h).2.2.2.2.1) ▸ pr_l g x hT n1 n2 lw ld H32 H8 (decide_eq_false hlw) (decide_eq_false hld) (decide_eq_false hl) w
end Go.Proofs.YtgmgccepmalahaaGreat
namespace Go.Proofs.YtgmgccepmalahaaGreat
open Go.RowKit
open Whn (Gr Wh)
def whEq (x y : Wh) : Bool := decide (x.w = y.w ∧ x.d = y.d ∧ x.s = y.s ∧ x.l = y.l)
end Go.Proofs.YtgmgccepmalahaaGreat
namespace Go.Proofs.YtgmgccepmalahaaGreat
open Go.RowKit
open Whn (Gr Wh)
end Go.Proofs.YtgmgccepmalahaaGreat

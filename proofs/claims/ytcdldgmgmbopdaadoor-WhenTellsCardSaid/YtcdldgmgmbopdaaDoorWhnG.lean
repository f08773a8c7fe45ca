/- The laws' heads (layer 9). -/
import Derived.Test.YtcdldgmgmbopdaaDoorWhnF
namespace Go.Proofs.YtcdldgmgmbopdaaDoor
open Go.RowKit
open Whn (Gr Wh)

/-- the heads' grid and times -/
def g0 : Gr := ⟨2, 1, 4⟩
def a0 : Wh := ⟨3, 1, 0, 2⟩
def b0 : Wh := ⟨2, 1, 1, 2⟩
theorem ok_a0 : Wok a0 := by unfold Wok I64 a0; decide
theorem ok_b0 : Wok b0 := by unfold Wok I64 b0; decide
theorem hd_both (w : World) : Calls Tryd.prog 12 #[.agg #[.int .u32 3, .int .u8 1, .int .i64 0, .int .i64 2], .agg #[.int .u32 2, .int .u8 1, .int .i64 1, .int .i64 2]] w (Did (.tuple #[.agg #[.int .u32 2, .int .u8 1, .int .i64 1, .int .i64 1], .bool true]) w) := by
  have h := p_Both a0 b0 ok_a0 ok_b0 w
  have e : bothV a0 b0 = .tuple #[.agg #[.int .u32 2, .int .u8 1, .int .i64 1, .int .i64 1], .bool true] := by
    unfold bothV
    rw [show Whn.both a0 b0 = ⟨2, 1, 1, 1⟩ by rfl, show Whn.meet a0 b0 = true by rfl]
    rfl
  rw [e] at h
  exact h
theorem hd_meet (w : World) : Calls Tryd.prog 13 #[.agg #[.int .u32 3, .int .u8 1, .int .i64 0, .int .i64 2], .agg #[.int .u32 2, .int .u8 1, .int .i64 1, .int .i64 2]] w (Did (.bool true) w) := by
  have h := p_Meet a0 b0 ok_a0 ok_b0 w
  rw [show Whn.meet a0 b0 = true by rfl] at h
  exact h
theorem hd_moments (w : World) : Calls Tryd.prog 10 #[.agg #[.int .i64 2, .int .i64 1, .int .i64 4], .agg #[.int .u32 3, .int .u8 1, .int .i64 0, .int .i64 2]] w (ItRet [0, 1, 4, 5] w) := by
  have h := p_Moments g0 a0 ok_a0 w
  rw [show Whn.moments g0 a0 = [0, 1, 4, 5] by decide +kernel] at h
  exact h
theorem hd_grid (w : World) : Calls Tryd.prog 16 #[.agg #[.int .i64 2, .int .i64 1, .int .i64 4]] w (Did (.bool true) w) := by
  have h := p_RightGrid g0 w
  rw [show Whn.rgrid g0 = true by rfl] at h
  exact h
theorem hd_count (w : World) : Calls Tryd.prog 20 #[.agg #[.int .u32 3, .int .u8 1, .int .i64 0, .int .i64 2]] w (Did (.int .i64 4) w) := by
  have h := p_Count a0 ok_a0 w
  rw [show Whn.count a0 = 4 by decide +kernel] at h
  exact h
theorem hd_right (w : World) : Calls Tryd.prog 8 #[.agg #[.int .i64 2, .int .i64 1, .int .i64 4], .agg #[.int .u32 2, .int .u8 1, .int .i64 1, .int .i64 2]] w (Did (.bool true) w) := by
  have h := p_Right g0 b0 ok_b0 w
  rw [show Whn.right g0 b0 = true by decide +kernel] at h
  exact h
theorem hd_moment (w : World) : Calls Tryd.prog 24 #[.agg #[.int .i64 2, .int .i64 1, .int .i64 4], .int .i64 1, .int .i64 0, .int .i64 1] w (Did (.int .i64 5) w) := by
  have h := p_Moment g0 1 0 1 w
  rw [show Whn.moment g0 1 0 1 = 5 by decide +kernel] at h
  exact h
abbrev gl : List Value := [.int .i64 2, .int .i64 1, .int .i64 4]
abbrev al : List Value := [.int .u32 3, .int .u8 1, .int .i64 0, .int .i64 2]
abbrev bl : List Value := [.int .u32 2, .int .u8 1, .int .i64 1, .int .i64 2]
abbrev zl : List Value := [.int .u32 0, .int .u8 0, .int .i64 0, .int .i64 0]
abbrev rl : List Value := [.int .u32 2, .int .u8 1, .int .i64 1, .int .i64 1]
theorem Mem.l3 {w X : World} {l : Obs} (h : Mem w X l) {B : Nat} {x0 x1 x2 : Value} {t : TypeId} (hm : (B, [x0, x1, x2], t) ∈ l) : X.cell? ⟨B, 0, none⟩ = some x0 ∧ X.cell? ⟨B, 1, none⟩ = some x1 ∧ X.cell? ⟨B, 2, none⟩ = some x2 :=
  ⟨h.cell hm rfl, h.cell hm rfl, h.cell hm rfl⟩
theorem Mem.l4 {w X : World} {l : Obs} (h : Mem w X l) {B : Nat} {x0 x1 x2 x3 : Value} {t : TypeId} (hm : (B, [x0, x1, x2, x3], t) ∈ l) : X.cell? ⟨B, 0, none⟩ = some x0 ∧ X.cell? ⟨B, 1, none⟩ = some x1 ∧ X.cell? ⟨B, 2, none⟩ = some x2 ∧ X.cell? ⟨B, 3, none⟩ = some x3 :=
  ⟨h.cell hm rfl, h.cell hm rfl, h.cell hm rfl, h.cell hm rfl⟩
set_option maxHeartbeats 2000000 in
theorem hd_first (w : World) (hT : Tab w) : Calls Tryd.prog 36 #[.agg #[.int .i64 2, .int .i64 1, .int .i64 4], .agg #[.int .u32 2, .int .u8 1, .int .i64 1, .int .i64 2]] w (Did (.tuple #[.int .i64 5, .int .i64 6]) w) := by
  have HR := hid hd_right
  have HM := hid hd_moment
  have H32 := hid (fun w h => p_tz32 w h)
  have H8 := hid p_tz8
  have HT := hid hT
  clear hT
  obtain ⟨A, W, hA, hW, K, hb0⟩ := (Mem.nil w).one gl 23
  obtain ⟨B, V, hB, hV, K1, hb1⟩ := K.out.one bl 26
  obtain ⟨q0, q1, q2⟩ := K1.out.l3 (B := A) (t := 23) (x0 := .int .i64 2) (x1 := .int .i64 1) (x2 := .int .i64 4) (by simp)
  obtain ⟨c0, c1, c2, c3⟩ := K1.out.l4 (B := B) (t := 26) (x0 := .int .u32 2) (x1 := .int .u8 1) (x2 := .int .i64 1) (x3 := .int .i64 2) (by simp)
  clear K hb0 hb1
  go_enter Tryd.func36, Tryd.ntmps36
  go_wp2_with fail
  refine (HR.out _).mono ?_
  rintro e w1 ⟨rfl, b1⟩
  have K2 := K1.out.next b1
  clear q0 q1 q2 c0 c1 c2 c3
  obtain ⟨q0, q1, q2⟩ := K2.l3 (B := A) (t := 23) (x0 := .int .i64 2) (x1 := .int .i64 1) (x2 := .int .i64 4) (by simp)
  obtain ⟨c0, c1, c2, c3⟩ := K2.l4 (B := B) (t := 26) (x0 := .int .u32 2) (x1 := .int .u8 1) (x2 := .int .i64 1) (x3 := .int .i64 2) (by simp)
  go_wp2_with fail
  have KA := K2.drew
  have hS2 := And.intro (KA.l3 (B := A) (t := 23) (x0 := .int .i64 2) (x1 := .int .i64 1) (x2 := .int .i64 4) (by simp)) (And.intro (KA.l4 (B := B) (t := 26) (x0 := .int .u32 2) (x1 := .int .u8 1) (x2 := .int .i64 1) (x3 := .int .i64 2) (by simp)) (HT.out.next KA.2))
  unfold Tab at hS2
  go_region_held3 (fun X => (X.cell? ⟨A, 0, none⟩ = some (.int .i64 2) ∧ X.cell? ⟨A, 1, none⟩ = some (.int .i64 1) ∧ X.cell? ⟨A, 2, none⟩ = some (.int .i64 4)) ∧ (X.cell? ⟨B, 0, none⟩ = some (.int .u32 2) ∧ X.cell? ⟨B, 1, none⟩ = some (.int .u8 1) ∧ X.cell? ⟨B, 2, none⟩ = some (.int .i64 1) ∧ X.cell? ⟨B, 3, none⟩ = some (.int .i64 2)) ∧ X.cell? ⟨0, 1, none⟩ = some (.int .u8 1)) (exact hS2) (first | (go_at_call 47; refine (H32.out _ hS2.2.2).mono ?_; rintro e w3 ⟨rfl, rfl⟩) | (go_at_call 48; refine (H8.out _).mono ?_; rintro e w3 ⟨rfl, rfl⟩) | (go_at_call 24; refine (HM.out _).mono ?_; rintro e w3 ⟨rfl, b3⟩; have KA := KA.next b3; have hS2 := And.intro (KA.l3 (B := A) (t := 23) (x0 := .int .i64 2) (x1 := .int .i64 1) (x2 := .int .i64 4) (by simp)) (And.intro (KA.l4 (B := B) (t := 26) (x0 := .int .u32 2) (x1 := .int .u8 1) (x2 := .int .i64 1) (x3 := .int .i64 2) (by simp)) (show _ = _ from HT.out.next KA.2))))
  obtain ⟨_, ⟨c0, c1, c2, c3⟩, _⟩ := hS2
  go_wp2_with fail
  go_quiet (fail)
  go_wp2_with fail
  go_ret2
  exact Did.mk rfl (below_drewN KA.2 _)
theorem hd_ints (A A' : Option Addr) (c c' : Nat) (w : World) (B B' : Nat) (h : Its w B A [0, 1, 4, 5]) (h' : Its w B' A' [0, 1, 4, 5]) : Calls Tryd.prog 15 #[.slice A 4 c, .slice A' 4 c'] w (BoolDraw true w) := by
  have := p_Ints A A' 4 4 c c' [0, 1, 4, 5] [0, 1, 4, 5] rfl rfl w B B' h h' (by decide)
  rw [show decide (([0, 1, 4, 5] : List Int) = [0, 1, 4, 5]) = true by decide] at this
  exact this
theorem lit_its4 (w : World) : Its (w.alloc (.cells #[.int .i64 0, .int .i64 1, .int .i64 4, .int .i64 5] 3)) (w.alloc (.cells #[.int .i64 0, .int .i64 1, .int .i64 4, .int .i64 5] 3)).heap.size (some ⟨w.heap.size, 0, none⟩) [0, 1, 4, 5] := fun _ =>
  ⟨_, rfl, by simp, fun k v hv => lit_cells w [.int .i64 0, .int .i64 1, .int .i64 4, .int .i64 5] 3 (by decide) k v hv⟩
set_option maxRecDepth 20000 in
set_option maxHeartbeats 1000000 in
theorem heads (w : World) (hT : Tab w) : Calls Tryd.prog 9 #[] w (Did (.bool true) w) := by
  have HB := hid hd_both
  have HF := hid hd_first
  have HM := hid hd_meet
  have HMo := hid hd_moments
  have HI := hid hd_ints
  have HG := hid hd_grid
  have HC := hid hd_count
  have HT := hid hT
  unfold ItRet at HMo
  clear hT
  obtain ⟨kg, W0, hkg, hW0, K0, z0⟩ := (Mem.nil w).one gl 23
  obtain ⟨ka, W1, hka, hW1, K1, z1⟩ := K0.out.one zl 26
  obtain ⟨kb, W2, hkb, hW2, K2, z2⟩ := K1.out.one zl 26
  have hk : kg < ka ∧ ka < kb ∧ w.heap.size ≤ kg := by
    have q1 := (K0.out.at_ (b := kg) (cs := gl) (t := 23) (by simp)).lt
    have q2 := (K1.out.at_ (b := ka) (cs := zl) (t := 26) (by simp)).lt
    omega
  have ne1 : ∀ p ∈ [(kb, zl, 26), (kg, gl, 23)], p.1 ≠ ka := by
    intro p hp
    simp only [List.mem_cons, List.not_mem_nil, or_false] at hp
    rcases hp with rfl | rfl
    · show kb ≠ ka; omega
    · show kg ≠ ka; omega
  have ne2 : ∀ p ∈ [(ka, al, 26), (kg, gl, 23)], p.1 ≠ kb := by
    intro p hp
    simp only [List.mem_cons, List.not_mem_nil, or_false] at hp
    rcases hp with rfl | rfl
    · show ka ≠ kb; omega
    · show kg ≠ kb; omega
  have K3 := (K2.out.sub (l' := [(ka, zl, 26), (kb, zl, 26), (kg, gl, 23)]) (by
    intro p hp
    simp only [List.mem_cons, List.not_mem_nil, or_false] at hp ⊢
    rcases hp with rfl | rfl | rfl <;> simp)).four (by omega) ne1 (.int .u32 3) (.int .u8 1) (.int .i64 0) (.int .i64 2)
  have K4 := (K3.sub (l' := [(kb, zl, 26), (ka, al, 26), (kg, gl, 23)]) (by
    intro p hp
    simp only [List.mem_cons, List.not_mem_nil, or_false] at hp ⊢
    rcases hp with rfl | rfl | rfl <;> simp)).four (by omega) ne2 (.int .u32 2) (.int .u8 1) (.int .i64 1) (.int .i64 2)
  have hOa := K2.out.at_ (b := ka) (cs := zl) (t := 26) (by simp)
  have hOb := K2.out.at_ (b := kb) (cs := zl) (t := 26) (by simp)
  have e0 := hOa.cell (k := 0) rfl
  have e1 := hOa.cell (k := 1) rfl
  have e2 := hOa.cell (k := 2) rfl
  have e3 := hOa.cell (k := 3) rfl
  have f0 := hOa.free 0
  have f1 := hOa.free 1
  have f2 := hOa.free 2
  have f3 := hOa.free 3
  have i0 := hOb.cell (k := 0) rfl
  have i1 := hOb.cell (k := 1) rfl
  have i2 := hOb.cell (k := 2) rfl
  have i3 := hOb.cell (k := 3) rfl
  have j0 := hOb.free 0
  have j1 := hOb.free 1
  have j2 := hOb.free 2
  have j3 := hOb.free 3
  have H4 := hid K4
  have Hk := hid hk
  have n1 : ka ≠ kb := by omega
  have n2 : kb ≠ ka := by omega
  clear K0 K1 K2 z0 z1 z2 K3 K4 ne1 ne2 hOa hOb hk
  go_enter Tryd.func9, Tryd.ntmps9
  go_wp2_with fail
  refine (HB.out _).mono ?_
  rintro e Y1 ⟨rfl, b1⟩
  have K5 := H4.out.next b1
  obtain ⟨kr, W5, hkr, hW5, K6, z6⟩ := K5.one rl 26
  clear e0 e1 e2 e3 f0 f1 f2 f3 i0 i1 i2 i3 j0 j1 j2 j3 b1 z6 H4 K5
  obtain ⟨q0, q1, q2⟩ := K6.out.l3 (B := kg) (t := 23) (x0 := .int .i64 2) (x1 := .int .i64 1) (x2 := .int .i64 4) (by simp)
  obtain ⟨c0, c1, c2, c3⟩ := K6.out.l4 (B := ka) (t := 26) (x0 := .int .u32 3) (x1 := .int .u8 1) (x2 := .int .i64 0) (x3 := .int .i64 2) (by simp)
  obtain ⟨d0, d1, d2, d3⟩ := K6.out.l4 (B := kb) (t := 26) (x0 := .int .u32 2) (x1 := .int .u8 1) (x2 := .int .i64 1) (x3 := .int .i64 2) (by simp)
  obtain ⟨e0, e1, e2, e3⟩ := K6.out.l4 (B := kr) (t := 26) (x0 := .int .u32 2) (x1 := .int .u8 1) (x2 := .int .i64 1) (x3 := .int .i64 1) (by simp)
  have HT5 := hid (HT.out.next K6.out.2)
  go_wp2_with fail
  refine (HF.out _ HT5.out).mono ?_
  rintro e Y2 ⟨rfl, b2⟩
  have K7 := K6.out.next b2
  clear q0 q1 q2 c0 c1 c2 c3 d0 d1 d2 d3 e0 e1 e2 e3
  obtain ⟨q0, q1, q2⟩ := K7.l3 (B := kg) (t := 23) (x0 := .int .i64 2) (x1 := .int .i64 1) (x2 := .int .i64 4) (by simp)
  obtain ⟨c0, c1, c2, c3⟩ := K7.l4 (B := ka) (t := 26) (x0 := .int .u32 3) (x1 := .int .u8 1) (x2 := .int .i64 0) (x3 := .int .i64 2) (by simp)
  obtain ⟨d0, d1, d2, d3⟩ := K7.l4 (B := kb) (t := 26) (x0 := .int .u32 2) (x1 := .int .u8 1) (x2 := .int .i64 1) (x3 := .int .i64 2) (by simp)
  obtain ⟨e0, e1, e2, e3⟩ := K7.l4 (B := kr) (t := 26) (x0 := .int .u32 2) (x1 := .int .u8 1) (x2 := .int .i64 1) (x3 := .int .i64 1) (by simp)
  clear K6 b2 HT5
  go_wp2_with fail
  refine (HM.out _).mono ?_
  rintro e Y3 ⟨rfl, b3⟩
  have K8 := K7.next b3
  clear q0 q1 q2 c0 c1 c2 c3 d0 d1 d2 d3 e0 e1 e2 e3
  obtain ⟨q0, q1, q2⟩ := K8.l3 (B := kg) (t := 23) (x0 := .int .i64 2) (x1 := .int .i64 1) (x2 := .int .i64 4) (by simp)
  obtain ⟨c0, c1, c2, c3⟩ := K8.l4 (B := ka) (t := 26) (x0 := .int .u32 3) (x1 := .int .u8 1) (x2 := .int .i64 0) (x3 := .int .i64 2) (by simp)
  obtain ⟨d0, d1, d2, d3⟩ := K8.l4 (B := kb) (t := 26) (x0 := .int .u32 2) (x1 := .int .u8 1) (x2 := .int .i64 1) (x3 := .int .i64 2) (by simp)
  obtain ⟨e0, e1, e2, e3⟩ := K8.l4 (B := kr) (t := 26) (x0 := .int .u32 2) (x1 := .int .u8 1) (x2 := .int .i64 1) (x3 := .int .i64 1) (by simp)
  clear K7 b3
  go_wp2_with fail
  refine (HMo.out _).mono ?_
  rintro e Y4 ⟨A1, cc, rfl, hits, b4⟩
  have K9 := K8.next b4
  clear q0 q1 q2 c0 c1 c2 c3 d0 d1 d2 d3 e0 e1 e2 e3
  clear K8 b4
  obtain ⟨W6, hW6⟩ : ∃ W6, Y4.alloc (.cells #[.int .i64 0, .int .i64 1, .int .i64 4, .int .i64 5] 3) = W6 := ⟨_, rfl⟩
  have bl6 := below_alloc Y4 (.cells #[.int .i64 0, .int .i64 1, .int .i64 4, .int .i64 5] 3)
  have hl6 := lit_its4 Y4
  rw [hW6] at bl6 hl6
  have K10 := K9.next bl6
  have hi6 := its_next hits bl6
  obtain ⟨q0, q1, q2⟩ := K10.l3 (B := kg) (t := 23) (x0 := .int .i64 2) (x1 := .int .i64 1) (x2 := .int .i64 4) (by simp)
  obtain ⟨c0, c1, c2, c3⟩ := K10.l4 (B := ka) (t := 26) (x0 := .int .u32 3) (x1 := .int .u8 1) (x2 := .int .i64 0) (x3 := .int .i64 2) (by simp)
  obtain ⟨d0, d1, d2, d3⟩ := K10.l4 (B := kb) (t := 26) (x0 := .int .u32 2) (x1 := .int .u8 1) (x2 := .int .i64 1) (x3 := .int .i64 2) (by simp)
  obtain ⟨e0, e1, e2, e3⟩ := K10.l4 (B := kr) (t := 26) (x0 := .int .u32 2) (x1 := .int .u8 1) (x2 := .int .i64 1) (x3 := .int .i64 1) (by simp)
  clear K9 bl6 hits
  have H6 := hid (HI.out A1 (some ⟨Y4.heap.size, 0, none⟩) cc 4 W6 _ _ hi6 hl6)
  clear hi6 hl6
  go_wp2_with fail
  refine (H6.out).mono ?_
  rintro e Y5 ⟨rfl, nq, rfl⟩
  have K11 := K10.drewN nq
  clear q0 q1 q2 c0 c1 c2 c3 d0 d1 d2 d3 e0 e1 e2 e3
  obtain ⟨q0, q1, q2⟩ := K11.l3 (B := kg) (t := 23) (x0 := .int .i64 2) (x1 := .int .i64 1) (x2 := .int .i64 4) (by simp)
  obtain ⟨c0, c1, c2, c3⟩ := K11.l4 (B := ka) (t := 26) (x0 := .int .u32 3) (x1 := .int .u8 1) (x2 := .int .i64 0) (x3 := .int .i64 2) (by simp)
  obtain ⟨d0, d1, d2, d3⟩ := K11.l4 (B := kb) (t := 26) (x0 := .int .u32 2) (x1 := .int .u8 1) (x2 := .int .i64 1) (x3 := .int .i64 2) (by simp)
  obtain ⟨e0, e1, e2, e3⟩ := K11.l4 (B := kr) (t := 26) (x0 := .int .u32 2) (x1 := .int .u8 1) (x2 := .int .i64 1) (x3 := .int .i64 1) (by simp)
  clear K10 H6
  go_wp2_with fail
  refine (HG.out _).mono ?_
  rintro e Y6 ⟨rfl, b6⟩
  have K12 := K11.next b6
  clear q0 q1 q2 c0 c1 c2 c3 d0 d1 d2 d3 e0 e1 e2 e3
  obtain ⟨q0, q1, q2⟩ := K12.l3 (B := kg) (t := 23) (x0 := .int .i64 2) (x1 := .int .i64 1) (x2 := .int .i64 4) (by simp)
  obtain ⟨c0, c1, c2, c3⟩ := K12.l4 (B := ka) (t := 26) (x0 := .int .u32 3) (x1 := .int .u8 1) (x2 := .int .i64 0) (x3 := .int .i64 2) (by simp)
  obtain ⟨d0, d1, d2, d3⟩ := K12.l4 (B := kb) (t := 26) (x0 := .int .u32 2) (x1 := .int .u8 1) (x2 := .int .i64 1) (x3 := .int .i64 2) (by simp)
  obtain ⟨e0, e1, e2, e3⟩ := K12.l4 (B := kr) (t := 26) (x0 := .int .u32 2) (x1 := .int .u8 1) (x2 := .int .i64 1) (x3 := .int .i64 1) (by simp)
  clear K11 b6
  go_wp2_with fail
  refine (HC.out _).mono ?_
  rintro e Y7 ⟨rfl, b7⟩
  have K13 := K12.next b7
  clear q0 q1 q2 c0 c1 c2 c3 d0 d1 d2 d3 e0 e1 e2 e3
  go_wp2_with fail
  go_ret
  exact Did.mk rfl K13.2
end Go.Proofs.YtcdldgmgmbopdaaDoor

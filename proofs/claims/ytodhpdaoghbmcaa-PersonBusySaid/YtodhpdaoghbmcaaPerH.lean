/- The heads of layer 12's laws. -/
import Derived.Test.YtodhpdaoghbmcaaPerF
import Derived.Test.YtodhpdaoghbmcaaPerG
import Derived.Test.YtodhpdaoghbmcaaPerU
namespace Go.Proofs.Ytodhpdaoghbmcaa
open Go.RowKit
open Whn (Gr Wh)

def gP : Gr := ⟨1, 2, 6⟩
def aP : Wh := ⟨1, 1, 0, 2⟩
def bP : Wh := ⟨1, 1, 4, 2⟩
def pP : Ps := ⟨[97, 100, 97], [aP]⟩
theorem ok_aP : Wok aP := by unfold Wok I64 aP; decide
theorem ok_bP : Wok bP := by unfold Wok I64 bP; decide
theorem ok_pP : Pok pP := ⟨by decide, fun y hy => by
  have hy : y ∈ [aP] := hy
  rw [List.mem_singleton] at hy
  rw [hy]; exact ok_aP⟩
theorem Mem.l2 {w X : World} {l : Obs} (h : Mem w X l) {B : Nat} {x0 x1 : Value} {t : TypeId} (hm : (B, [x0, x1], t) ∈ l) : X.cell? ⟨B, 0, none⟩ = some x0 ∧ X.cell? ⟨B, 1, none⟩ = some x1 :=
  ⟨h.cell hm rfl, h.cell hm rfl⟩
theorem whs_one {w X : World} {l : Obs} (h : Mem w X l) {kx : Nat} (hm : (kx, wc aP, 29) ∈ l) : Whs X X.heap.size (some ⟨kx, 0, none⟩) pP.l := fun _ =>
  ⟨_, rfl, (h.at_ hm).lt, fun j u hj => ob_at (h.at_ hm) j u hj⟩
theorem whs_ab {w X : World} {l : Obs} (h : Mem w X l) {k : Nat} (hm : (k, [.int .u32 1, .int .u8 1, .int .i64 0, .int .i64 2, .int .u32 1, .int .u8 1, .int .i64 4, .int .i64 2], 29) ∈ l) : Whs X X.heap.size (some ⟨k, 0, none⟩) [aP, bP] := fun _ =>
  ⟨_, rfl, (h.at_ hm).lt, fun j u hj => ob_at (h.at_ hm) j u hj⟩
theorem hq_reach2 (X : World) : Calls Try.prog 18 #[.agg #[.int .u32 1, .int .u8 1, .int .i64 0, .int .i64 2], .agg #[.int .u32 1, .int .u8 1, .int .i64 4, .int .i64 2], .int .i64 2] X (Did (.bool true) X) := by
  have h := p_Reach aP bP ok_aP ok_bP 2 X
  rwa [show reach aP bP 2 = true by rfl] at h
theorem hq_reach3 (X : World) : Calls Try.prog 18 #[.agg #[.int .u32 1, .int .u8 1, .int .i64 0, .int .i64 2], .agg #[.int .u32 1, .int .u8 1, .int .i64 4, .int .i64 2], .int .i64 3] X (Did (.bool false) X) := by
  have h := p_Reach aP bP ok_aP ok_bP 3 X
  rwa [show reach aP bP 3 = false by rfl] at h
theorem h_busy : Whn.busy gP [aP, bP] = [4, 0] := by decide +kernel
theorem h_spread : Whn.spread gP [aP, bP] = [6, 0] := by decide +kernel
theorem ok_two : ∀ y ∈ [aP, bP], Wok y := fun y hy => by
  simp only [List.mem_cons, List.not_mem_nil, or_false] at hy
  rcases hy with rfl | rfl
  · exact ok_aP
  · exact ok_bP
theorem MoRet.it {l : List Int} {w w' : World} {e : Ending} (h : MoRet l w e w') : ItRet l w e w' := by
  obtain ⟨v, rfl, ho, hb⟩ := h
  obtain ⟨A1, cc, rfl, hr, _⟩ := own_rd ho
  exact ⟨A1, cc, rfl, hr, hb⟩
theorem hq_busy (k : Nat) (X : World) (h : Whs X X.heap.size (some ⟨k, 0, none⟩) [aP, bP]) : Calls Try.prog 21 #[.agg #[.int .i64 1, .int .i64 2, .int .i64 6], .slice (some ⟨k, 0, none⟩) 2 2] X (ItRet [4, 0] X) := by
  have := p_Busy gP [aP, bP] (some ⟨k, 0, none⟩) 2 ok_two (by decide) X h
  rw [h_busy] at this
  exact this.mono fun _ _ => MoRet.it
theorem hq_spread (k : Nat) (X : World) (h : Whs X X.heap.size (some ⟨k, 0, none⟩) [aP, bP]) : Calls Try.prog 23 #[.agg #[.int .i64 1, .int .i64 2, .int .i64 6], .slice (some ⟨k, 0, none⟩) 2 2] X (ItRet [6, 0] X) := by
  have := p_Spread gP [aP, bP] (some ⟨k, 0, none⟩) 2 ok_two (by decide) X h
  rw [h_spread] at this
  exact this.mono fun _ _ => MoRet.it
theorem hq_ints4 (A : Option Addr) (c : Nat) (X : World) (A2 : Option Addr) (h : Its X X.heap.size A [4, 0]) (h2 : Its X X.heap.size A2 [4, 0]) : Calls Try.prog 16 #[.slice A 2 c, .slice A2 2 2] X (BoolDraw true X) := p_IntsSame [4, 0] (by unfold maxLen; decide) A A2 c 2 X h h2
theorem hq_ints6 (A : Option Addr) (c : Nat) (X : World) (A2 : Option Addr) (h : Its X X.heap.size A [6, 0]) (h2 : Its X X.heap.size A2 [6, 0]) : Calls Try.prog 16 #[.slice A 2 c, .slice A2 2 2] X (BoolDraw true X) := p_IntsSame [6, 0] (by unfold maxLen; decide) A A2 c 2 X h h2
theorem h_rightP : rmRight gP (rmOf pP) = true := by decide +kernel
theorem h_freeP : (opn gP pP.l (Whn.all gP).toNat).length = 10 := by decide +kernel
theorem h_awA : (pP.l.any fun y => Whn.meet y aP) = true := by decide +kernel
theorem h_awB : (pP.l.any fun y => Whn.meet y bP) = false := by decide +kernel
theorem h_lenP : pP.l.length ≤ maxLen := by unfold maxLen; decide
theorem hq_right (kx : Nat) (X : World) (h : Whs X X.heap.size (some ⟨kx, 0, none⟩) pP.l) : Calls Try.prog 13 #[.agg #[.int .i64 1, .int .i64 2, .int .i64 6], .agg #[.string ⟨#[97, 100, 97]⟩, .slice (some ⟨kx, 0, none⟩) 1 1]] X (Did (.bool true) X) := by
  have := p_RightP gP pP (some ⟨kx, 0, none⟩) 1 ok_pP h_lenP X h
  rwa [h_rightP] at this
theorem hq_awayA (kx : Nat) (X : World) (h : Whs X X.heap.size (some ⟨kx, 0, none⟩) pP.l) : Calls Try.prog 14 #[.agg #[.string ⟨#[97, 100, 97]⟩, .slice (some ⟨kx, 0, none⟩) 1 1], .agg #[.int .u32 1, .int .u8 1, .int .i64 0, .int .i64 2]] X (Did (.bool true) X) := by
  have := p_AwayP pP (some ⟨kx, 0, none⟩) 1 ok_pP h_lenP aP ok_aP X h
  rwa [h_awA] at this
theorem hq_awayB (kx : Nat) (X : World) (h : Whs X X.heap.size (some ⟨kx, 0, none⟩) pP.l) : Calls Try.prog 14 #[.agg #[.string ⟨#[97, 100, 97]⟩, .slice (some ⟨kx, 0, none⟩) 1 1], .agg #[.int .u32 1, .int .u8 1, .int .i64 4, .int .i64 2]] X (Did (.bool false) X) := by
  have := p_AwayP pP (some ⟨kx, 0, none⟩) 1 ok_pP h_lenP bP ok_bP X h
  rwa [h_awB] at this
def TenRet (w : World) (e : Ending) (w' : World) : Prop := ∃ A c, e = .returned (.slice A 10 c) ∧ Below w.heap.size w w'
theorem hq_free (kx : Nat) (X : World) (h : Whs X X.heap.size (some ⟨kx, 0, none⟩) pP.l) : Calls Try.prog 17 #[.agg #[.int .i64 1, .int .i64 2, .int .i64 6], .agg #[.string ⟨#[97, 100, 97]⟩, .slice (some ⟨kx, 0, none⟩) 1 1]] X (TenRet X) := by
  have := p_FreeP gP pP (some ⟨kx, 0, none⟩) 1 ok_pP h_lenP X h
  rw [h_rightP, if_pos rfl] at this
  refine this.mono ?_
  rintro e w' ⟨A, c, rfl, _, hb⟩
  exact ⟨A, c, by rw [h_freeP], hb⟩
theorem lit_its2P (w : World) (x y : Int) : Its (w.alloc (.cells #[.int .i64 x, .int .i64 y] 3)) (w.alloc (.cells #[.int .i64 x, .int .i64 y] 3)).heap.size (some ⟨w.heap.size, 0, none⟩) [x, y] := fun _ =>
  ⟨_, rfl, by simp, fun k v hv => lit_cells w [.int .i64 x, .int .i64 y] 3 (by show 2 ≤ maxLen; unfold maxLen; omega) k v hv⟩
set_option maxRecDepth 20000 in
set_option maxHeartbeats 1000000 in
theorem hd_okP (w : World) : Calls Try.prog 10 #[] w (Did (.bool true) w) := by
  obtain ⟨kg, W0, hkg, hW0, K0, z0⟩ := (Mem.nil w).one [.int .i64 1, .int .i64 2, .int .i64 6] 23
  obtain ⟨ka, W1, hka, hW1, K1, z1⟩ := K0.out.one [.int .u32 0, .int .u8 0, .int .i64 0, .int .i64 0] 29
  obtain ⟨kb, W2, hkb, hW2, K2, z2⟩ := K1.out.one [.int .u32 0, .int .u8 0, .int .i64 0, .int .i64 0] 29
  have hk : kg < ka ∧ ka < kb ∧ w.heap.size ≤ kg := by
    have q1 := (K0.out.at_ (b := kg) (cs := [.int .i64 1, .int .i64 2, .int .i64 6]) (t := 23) (by simp)).lt
    have q2 := (K1.out.at_ (b := ka) (cs := [.int .u32 0, .int .u8 0, .int .i64 0, .int .i64 0]) (t := 29) (by simp)).lt
    omega
  have ne1 : ∀ p ∈ ([(kb, [.int .u32 0, .int .u8 0, .int .i64 0, .int .i64 0], 29), (kg, [.int .i64 1, .int .i64 2, .int .i64 6], 23)] : Obs), p.1 ≠ ka := by
    intro p hp
    simp only [List.mem_cons, List.not_mem_nil, or_false] at hp
    rcases hp with rfl | rfl
    · show kb ≠ ka; omega
    · show kg ≠ ka; omega
  have ne2 : ∀ p ∈ ([(ka, [.int .u32 1, .int .u8 1, .int .i64 0, .int .i64 2], 29), (kg, [.int .i64 1, .int .i64 2, .int .i64 6], 23)] : Obs), p.1 ≠ kb := by
    intro p hp
    simp only [List.mem_cons, List.not_mem_nil, or_false] at hp
    rcases hp with rfl | rfl
    · show ka ≠ kb; omega
    · show kg ≠ kb; omega
  have K3 := (K2.out.sub (l' := [(ka, [.int .u32 0, .int .u8 0, .int .i64 0, .int .i64 0], 29), (kb, [.int .u32 0, .int .u8 0, .int .i64 0, .int .i64 0], 29), (kg, [.int .i64 1, .int .i64 2, .int .i64 6], 23)]) (by
    intro p hp
    simp only [List.mem_cons, List.not_mem_nil, or_false] at hp ⊢
    rcases hp with rfl | rfl | rfl <;> simp)).four (by omega) ne1 (.int .u32 1) (.int .u8 1) (.int .i64 0) (.int .i64 2)
  have K4 := (K3.sub (l' := [(kb, [.int .u32 0, .int .u8 0, .int .i64 0, .int .i64 0], 29), (ka, [.int .u32 1, .int .u8 1, .int .i64 0, .int .i64 2], 29), (kg, [.int .i64 1, .int .i64 2, .int .i64 6], 23)]) (by
    intro p hp
    simp only [List.mem_cons, List.not_mem_nil, or_false] at hp ⊢
    rcases hp with rfl | rfl | rfl <;> simp)).four (by omega) ne2 (.int .u32 1) (.int .u8 1) (.int .i64 4) (.int .i64 2)
  have hOa := K2.out.at_ (b := ka) (cs := [.int .u32 0, .int .u8 0, .int .i64 0, .int .i64 0]) (t := 29) (by simp)
  have hOb := K2.out.at_ (b := kb) (cs := [.int .u32 0, .int .u8 0, .int .i64 0, .int .i64 0]) (t := 29) (by simp)
  have e0 := hOa.cell (k := 0) rfl
  have f0 := hOa.free 0
  have i0 := hOb.cell (k := 0) rfl
  have j0 := hOb.free 0
  have e1 := hOa.cell (k := 1) rfl
  have f1 := hOa.free 1
  have i1 := hOb.cell (k := 1) rfl
  have j1 := hOb.free 1
  have e2 := hOa.cell (k := 2) rfl
  have f2 := hOa.free 2
  have i2 := hOb.cell (k := 2) rfl
  have j2 := hOb.free 2
  have e3 := hOa.cell (k := 3) rfl
  have f3 := hOa.free 3
  have i3 := hOb.cell (k := 3) rfl
  have j3 := hOb.free 3
  obtain ⟨kx, W3, hkx, hW3, K5, z5⟩ := K4.one [.int .u32 1, .int .u8 1, .int .i64 0, .int .i64 2] 29
  obtain ⟨kp, W4, hkp, hW4, K6, z6⟩ := K5.out.one [.string ⟨#[97, 100, 97]⟩, .slice (some ⟨kx, 0, none⟩) 1 1] 26
  have a4 := hid K4
  have n1 : ka ≠ kb := by omega
  have n2 : kb ≠ ka := by omega
  have HWp := hid (show ∀ X, Mem w X [(kp, [.string ⟨#[97, 100, 97]⟩, .slice (some ⟨kx, 0, none⟩) 1 1], 26), (kx, [.int .u32 1, .int .u8 1, .int .i64 0, .int .i64 2], 29), (kb, [.int .u32 1, .int .u8 1, .int .i64 4, .int .i64 2], 29), (ka, [.int .u32 1, .int .u8 1, .int .i64 0, .int .i64 2], 29), (kg, [.int .i64 1, .int .i64 2, .int .i64 6], 23)] → Whs X X.heap.size (some ⟨kx, 0, none⟩) pP.l from fun X h => whs_one h (by simp [wc, aP]))
  have HX1 := hid (fun X => hq_reach2 X)
  have HX2 := hid (fun X => hq_reach3 X)
  have HXB := hid (fun k X h => hq_busy k X h)
  have HXS := hid (fun k X h => hq_spread k X h)
  have HI4 := hid (fun A c X A2 h h2 => hq_ints4 A c X A2 h h2)
  have HI6 := hid (fun A c X A2 h h2 => hq_ints6 A c X A2 h h2)
  have HXR := hid (fun X h => hq_right kx X (HWp.out X h))
  have HXa := hid (fun X h => hq_awayA kx X (HWp.out X h))
  have HXb := hid (fun X h => hq_awayB kx X (HWp.out X h))
  have HXF := hid (fun X h => hq_free kx X (HWp.out X h))
  have hkx2 : W2.heap.size = kx := by simpa only [World.size_setCell] using hkx
  clear hkx
  clear K0 K1 K2 z0 z1 z2 K3 K4 ne1 ne2 hOa hOb hk HWp z5 z6 K5 a4
  go_enter Try.func10, Try.ntmps10
  obtain ⟨q0, q1, q2⟩ := K6.out.l3 (B := kg) (t := 23) (x0 := .int .i64 1) (x1 := .int .i64 2) (x2 := .int .i64 6) (by simp)
  obtain ⟨c0, c1, c2, c3⟩ := K6.out.l4 (B := ka) (t := 29) (x0 := .int .u32 1) (x1 := .int .u8 1) (x2 := .int .i64 0) (x3 := .int .i64 2) (by simp)
  obtain ⟨d0, d1, d2, d3⟩ := K6.out.l4 (B := kb) (t := 29) (x0 := .int .u32 1) (x1 := .int .u8 1) (x2 := .int .i64 4) (x3 := .int .i64 2) (by simp)
  obtain ⟨s0, s1⟩ := K6.out.l2 (B := kp) (t := 26) (x0 := .string ⟨#[97, 100, 97]⟩) (x1 := .slice (some ⟨kx, 0, none⟩) 1 1) (by simp)
  go_wp2_with fail
  refine (HX1.out _).mono ?_
  rintro e Y6 ⟨rfl, b6⟩
  clear q0 q1 q2 c0 c1 c2 c3 d0 d1 d2 d3 s0 s1
  have K7 := hid (K6.out.next b6)
  obtain ⟨q0, q1, q2⟩ := K7.out.l3 (B := kg) (t := 23) (x0 := .int .i64 1) (x1 := .int .i64 2) (x2 := .int .i64 6) (by simp)
  obtain ⟨c0, c1, c2, c3⟩ := K7.out.l4 (B := ka) (t := 29) (x0 := .int .u32 1) (x1 := .int .u8 1) (x2 := .int .i64 0) (x3 := .int .i64 2) (by simp)
  obtain ⟨d0, d1, d2, d3⟩ := K7.out.l4 (B := kb) (t := 29) (x0 := .int .u32 1) (x1 := .int .u8 1) (x2 := .int .i64 4) (x3 := .int .i64 2) (by simp)
  obtain ⟨s0, s1⟩ := K7.out.l2 (B := kp) (t := 26) (x0 := .string ⟨#[97, 100, 97]⟩) (x1 := .slice (some ⟨kx, 0, none⟩) 1 1) (by simp)
  clear b6
  go_wp2_with fail
  refine (HX2.out _).mono ?_
  rintro e Y7 ⟨rfl, b7⟩
  clear q0 q1 q2 c0 c1 c2 c3 d0 d1 d2 d3 s0 s1
  have K8 := hid (K7.out.next b7)
  clear b7
  obtain ⟨kl8, WL8, hkl8, hWL8, KL8, zL⟩ := K8.out.one [.int .u32 1, .int .u8 1, .int .i64 0, .int .i64 2, .int .u32 1, .int .u8 1, .int .i64 4, .int .i64 2] 29
  clear zL
  have H8 := hid (HXB.out kl8 WL8 (whs_ab KL8.out (by simp)))
  obtain ⟨q0, q1, q2⟩ := K8.out.l3 (B := kg) (t := 23) (x0 := .int .i64 1) (x1 := .int .i64 2) (x2 := .int .i64 6) (by simp)
  obtain ⟨c0, c1, c2, c3⟩ := K8.out.l4 (B := ka) (t := 29) (x0 := .int .u32 1) (x1 := .int .u8 1) (x2 := .int .i64 0) (x3 := .int .i64 2) (by simp)
  obtain ⟨d0, d1, d2, d3⟩ := K8.out.l4 (B := kb) (t := 29) (x0 := .int .u32 1) (x1 := .int .u8 1) (x2 := .int .i64 4) (x3 := .int .i64 2) (by simp)
  obtain ⟨s0, s1⟩ := K8.out.l2 (B := kp) (t := 26) (x0 := .string ⟨#[97, 100, 97]⟩) (x1 := .slice (some ⟨kx, 0, none⟩) 1 1) (by simp)
  go_wp2_with fail
  refine H8.out.mono ?_
  rintro e Y8 ⟨A8, cc8, rfl, hits, b8⟩
  clear q0 q1 q2 c0 c1 c2 c3 d0 d1 d2 d3 s0 s1
  have K9a := hid ((KL8.out.sub (l' := [(kp, [.string ⟨#[97, 100, 97]⟩, .slice (some ⟨kx, 0, none⟩) 1 1], 26), (kx, [.int .u32 1, .int .u8 1, .int .i64 0, .int .i64 2], 29), (kb, [.int .u32 1, .int .u8 1, .int .i64 4, .int .i64 2], 29), (ka, [.int .u32 1, .int .u8 1, .int .i64 0, .int .i64 2], 29), (kg, [.int .i64 1, .int .i64 2, .int .i64 6], 23)]) (by simp)).next b8)
  clear b8 KL8 H8
  obtain ⟨V8, hV8⟩ : ∃ V, Y8.alloc (.cells #[.int .i64 4, .int .i64 0] 3) = V := ⟨_, rfl⟩
  have bl := below_alloc Y8 (.cells #[.int .i64 4, .int .i64 0] 3)
  have hl := lit_its2P Y8 4 0
  rw [hV8] at bl hl
  have KI := hid (K9a.out.next bl)
  have hi := its_next hits bl
  obtain ⟨q0, q1, q2⟩ := KI.out.l3 (B := kg) (t := 23) (x0 := .int .i64 1) (x1 := .int .i64 2) (x2 := .int .i64 6) (by simp)
  obtain ⟨c0, c1, c2, c3⟩ := KI.out.l4 (B := ka) (t := 29) (x0 := .int .u32 1) (x1 := .int .u8 1) (x2 := .int .i64 0) (x3 := .int .i64 2) (by simp)
  obtain ⟨d0, d1, d2, d3⟩ := KI.out.l4 (B := kb) (t := 29) (x0 := .int .u32 1) (x1 := .int .u8 1) (x2 := .int .i64 4) (x3 := .int .i64 2) (by simp)
  obtain ⟨s0, s1⟩ := KI.out.l2 (B := kp) (t := 26) (x0 := .string ⟨#[97, 100, 97]⟩) (x1 := .slice (some ⟨kx, 0, none⟩) 1 1) (by simp)
  have HJ := hid (HI4.out A8 cc8 V8 (some ⟨Y8.heap.size, 0, none⟩) hi hl)
  clear hi hl hits bl
  go_wp2_with fail
  refine HJ.out.mono ?_
  rintro e Z8 ⟨rfl, nq8, rfl⟩
  clear q0 q1 q2 c0 c1 c2 c3 d0 d1 d2 d3 s0 s1
  have K9 := hid (KI.out.drewN nq8)
  clear KI HJ K9a
  obtain ⟨kl9, WL9, hkl9, hWL9, KL9, zL⟩ := K9.out.one [.int .u32 1, .int .u8 1, .int .i64 0, .int .i64 2, .int .u32 1, .int .u8 1, .int .i64 4, .int .i64 2] 29
  clear zL
  have hkl : V8.heap.size = kl9 := hkl9
  clear hkl9
  have H9 := hid (HXS.out kl9 WL9 (whs_ab KL9.out (by simp)))
  obtain ⟨q0, q1, q2⟩ := K9.out.l3 (B := kg) (t := 23) (x0 := .int .i64 1) (x1 := .int .i64 2) (x2 := .int .i64 6) (by simp)
  obtain ⟨c0, c1, c2, c3⟩ := K9.out.l4 (B := ka) (t := 29) (x0 := .int .u32 1) (x1 := .int .u8 1) (x2 := .int .i64 0) (x3 := .int .i64 2) (by simp)
  obtain ⟨d0, d1, d2, d3⟩ := K9.out.l4 (B := kb) (t := 29) (x0 := .int .u32 1) (x1 := .int .u8 1) (x2 := .int .i64 4) (x3 := .int .i64 2) (by simp)
  obtain ⟨s0, s1⟩ := K9.out.l2 (B := kp) (t := 26) (x0 := .string ⟨#[97, 100, 97]⟩) (x1 := .slice (some ⟨kx, 0, none⟩) 1 1) (by simp)
  go_wp2_with fail
  refine H9.out.mono ?_
  rintro e Y9 ⟨A9, cc9, rfl, hits, b9⟩
  clear q0 q1 q2 c0 c1 c2 c3 d0 d1 d2 d3 s0 s1
  have K10a := hid ((KL9.out.sub (l' := [(kp, [.string ⟨#[97, 100, 97]⟩, .slice (some ⟨kx, 0, none⟩) 1 1], 26), (kx, [.int .u32 1, .int .u8 1, .int .i64 0, .int .i64 2], 29), (kb, [.int .u32 1, .int .u8 1, .int .i64 4, .int .i64 2], 29), (ka, [.int .u32 1, .int .u8 1, .int .i64 0, .int .i64 2], 29), (kg, [.int .i64 1, .int .i64 2, .int .i64 6], 23)]) (by simp)).next b9)
  clear b9 KL9 H9
  obtain ⟨V9, hV9⟩ : ∃ V, Y9.alloc (.cells #[.int .i64 6, .int .i64 0] 3) = V := ⟨_, rfl⟩
  have bl := below_alloc Y9 (.cells #[.int .i64 6, .int .i64 0] 3)
  have hl := lit_its2P Y9 6 0
  rw [hV9] at bl hl
  have KI := hid (K10a.out.next bl)
  have hi := its_next hits bl
  obtain ⟨q0, q1, q2⟩ := KI.out.l3 (B := kg) (t := 23) (x0 := .int .i64 1) (x1 := .int .i64 2) (x2 := .int .i64 6) (by simp)
  obtain ⟨c0, c1, c2, c3⟩ := KI.out.l4 (B := ka) (t := 29) (x0 := .int .u32 1) (x1 := .int .u8 1) (x2 := .int .i64 0) (x3 := .int .i64 2) (by simp)
  obtain ⟨d0, d1, d2, d3⟩ := KI.out.l4 (B := kb) (t := 29) (x0 := .int .u32 1) (x1 := .int .u8 1) (x2 := .int .i64 4) (x3 := .int .i64 2) (by simp)
  obtain ⟨s0, s1⟩ := KI.out.l2 (B := kp) (t := 26) (x0 := .string ⟨#[97, 100, 97]⟩) (x1 := .slice (some ⟨kx, 0, none⟩) 1 1) (by simp)
  have HJ := hid (HI6.out A9 cc9 V9 (some ⟨Y9.heap.size, 0, none⟩) hi hl)
  clear hi hl hits bl
  go_wp2_with fail
  refine HJ.out.mono ?_
  rintro e Z9 ⟨rfl, nq9, rfl⟩
  clear q0 q1 q2 c0 c1 c2 c3 d0 d1 d2 d3 s0 s1
  have K10 := hid (KI.out.drewN nq9)
  clear KI HJ K10a
  obtain ⟨q0, q1, q2⟩ := K10.out.l3 (B := kg) (t := 23) (x0 := .int .i64 1) (x1 := .int .i64 2) (x2 := .int .i64 6) (by simp)
  obtain ⟨c0, c1, c2, c3⟩ := K10.out.l4 (B := ka) (t := 29) (x0 := .int .u32 1) (x1 := .int .u8 1) (x2 := .int .i64 0) (x3 := .int .i64 2) (by simp)
  obtain ⟨d0, d1, d2, d3⟩ := K10.out.l4 (B := kb) (t := 29) (x0 := .int .u32 1) (x1 := .int .u8 1) (x2 := .int .i64 4) (x3 := .int .i64 2) (by simp)
  obtain ⟨s0, s1⟩ := K10.out.l2 (B := kp) (t := 26) (x0 := .string ⟨#[97, 100, 97]⟩) (x1 := .slice (some ⟨kx, 0, none⟩) 1 1) (by simp)
  go_wp2_with fail
  refine (HXR.out _ K10.out).mono ?_
  rintro e Y10 ⟨rfl, b10⟩
  clear q0 q1 q2 c0 c1 c2 c3 d0 d1 d2 d3 s0 s1
  have K11 := hid (K10.out.next b10)
  obtain ⟨q0, q1, q2⟩ := K11.out.l3 (B := kg) (t := 23) (x0 := .int .i64 1) (x1 := .int .i64 2) (x2 := .int .i64 6) (by simp)
  obtain ⟨c0, c1, c2, c3⟩ := K11.out.l4 (B := ka) (t := 29) (x0 := .int .u32 1) (x1 := .int .u8 1) (x2 := .int .i64 0) (x3 := .int .i64 2) (by simp)
  obtain ⟨d0, d1, d2, d3⟩ := K11.out.l4 (B := kb) (t := 29) (x0 := .int .u32 1) (x1 := .int .u8 1) (x2 := .int .i64 4) (x3 := .int .i64 2) (by simp)
  obtain ⟨s0, s1⟩ := K11.out.l2 (B := kp) (t := 26) (x0 := .string ⟨#[97, 100, 97]⟩) (x1 := .slice (some ⟨kx, 0, none⟩) 1 1) (by simp)
  clear b10
  go_wp2_with fail
  refine (HXa.out _ K11.out).mono ?_
  rintro e Y11 ⟨rfl, b11⟩
  clear q0 q1 q2 c0 c1 c2 c3 d0 d1 d2 d3 s0 s1
  have K12 := hid (K11.out.next b11)
  obtain ⟨q0, q1, q2⟩ := K12.out.l3 (B := kg) (t := 23) (x0 := .int .i64 1) (x1 := .int .i64 2) (x2 := .int .i64 6) (by simp)
  obtain ⟨c0, c1, c2, c3⟩ := K12.out.l4 (B := ka) (t := 29) (x0 := .int .u32 1) (x1 := .int .u8 1) (x2 := .int .i64 0) (x3 := .int .i64 2) (by simp)
  obtain ⟨d0, d1, d2, d3⟩ := K12.out.l4 (B := kb) (t := 29) (x0 := .int .u32 1) (x1 := .int .u8 1) (x2 := .int .i64 4) (x3 := .int .i64 2) (by simp)
  obtain ⟨s0, s1⟩ := K12.out.l2 (B := kp) (t := 26) (x0 := .string ⟨#[97, 100, 97]⟩) (x1 := .slice (some ⟨kx, 0, none⟩) 1 1) (by simp)
  clear b11
  go_wp2_with fail
  refine (HXb.out _ K12.out).mono ?_
  rintro e Y12 ⟨rfl, b12⟩
  clear q0 q1 q2 c0 c1 c2 c3 d0 d1 d2 d3 s0 s1
  have K13 := hid (K12.out.next b12)
  obtain ⟨q0, q1, q2⟩ := K13.out.l3 (B := kg) (t := 23) (x0 := .int .i64 1) (x1 := .int .i64 2) (x2 := .int .i64 6) (by simp)
  obtain ⟨c0, c1, c2, c3⟩ := K13.out.l4 (B := ka) (t := 29) (x0 := .int .u32 1) (x1 := .int .u8 1) (x2 := .int .i64 0) (x3 := .int .i64 2) (by simp)
  obtain ⟨d0, d1, d2, d3⟩ := K13.out.l4 (B := kb) (t := 29) (x0 := .int .u32 1) (x1 := .int .u8 1) (x2 := .int .i64 4) (x3 := .int .i64 2) (by simp)
  obtain ⟨s0, s1⟩ := K13.out.l2 (B := kp) (t := 26) (x0 := .string ⟨#[97, 100, 97]⟩) (x1 := .slice (some ⟨kx, 0, none⟩) 1 1) (by simp)
  clear b12
  go_wp2_with fail
  refine (HXF.out _ K13.out).mono ?_
  rintro e Y13 ⟨A13, cc13, rfl, b13⟩
  clear q0 q1 q2 c0 c1 c2 c3 d0 d1 d2 d3 s0 s1
  have K14 := hid (K13.out.next b13)
  go_wp2_with fail
  go_ret
  exact Did.mk rfl K14.out.2
end Go.Proofs.Ytodhpdaoghbmcaa

/- The heads of layer 13's laws. -/
import Derived.Test.YtcnpfchopjopeaaCltC
import Derived.Test.YtcnpfchopjopeaaClsZ
import Derived.Test.YtcnpfchopjopeaaClsW
import Derived.Test.YtcnpfchopjopeaaClsR
namespace Go.Proofs.Ytcnpfchopjopeaa
open Go.RowKit
open Whn (Gr Wh)

def w0H : Wh := ⟨1, 1, 0, 1⟩
def w1H : Wh := ⟨1, 1, 1, 1⟩
def hx : Cl := ⟨[99], 0, 0, [], [⟨w0H, 5⟩, ⟨w1H, 2⟩], [⟨0, 0⟩, ⟨1, 0⟩, ⟨2, 0⟩], -1⟩
def hr (kt kp : Nat) : Cw := ⟨none, 0, some ⟨kt, 0, none⟩, 2, some ⟨kp, 0, none⟩, 3⟩
theorem ob_rd {X : World} {g : Nat} {xs : List Value} {t : TypeId} (h : Ob X g xs t) : Rd X X.heap.size (some ⟨g, 0, none⟩) xs := fun _ => ⟨_, rfl, h.lt, fun k v hk => by
  have := h.cell hk
  rcases Nat.eq_zero_or_pos k with rfl | hp
  · exact this
  · rw [show ((⟨g, 0, none⟩ : Addr).add k) = ⟨g, k, none⟩ by unfold Addr.add; simp; omega]
    exact this⟩
theorem clw_h {X : World} {kt kp : Nat} (h1 : Ob X kt [.int .u32 1, .int .u8 1, .int .i64 0, .int .i64 1, .int .i64 5, .int .u32 1, .int .u8 1, .int .i64 1, .int .i64 1, .int .i64 2] 58) (h2 : Ob X kp [.int .i64 0, .int .i64 0, .int .i64 1, .int .i64 0, .int .i64 2, .int .i64 0] 60) : Clw X X.heap.size hx (hr kt kp) := ⟨Rd.none_ _ _ _, ob_rd h1, ob_rd h2⟩
theorem hx_ok : Cok hx := by
  refine ⟨by show 1 ≤ maxLen; unfold maxLen; omega, by unfold I64 hx; decide, by unfold hx; decide, (fun i (hi : i ∈ ([] : List Int)) => (nomatch hi)), fun y hy => ?_, fun y hy => ?_, by unfold I64 hx; decide⟩
  · have hy : y ∈ [(⟨w0H, 5⟩ : Tm), ⟨w1H, 2⟩] := hy
    simp only [List.mem_cons, List.not_mem_nil, or_false] at hy
    rcases hy with rfl | rfl
    · unfold Tok Wok I64 w0H; decide
    · unfold Tok Wok I64 w1H; decide
  · have hy : y ∈ [(⟨0, 0⟩ : Pl), ⟨1, 0⟩, ⟨2, 0⟩] := hy
    simp only [List.mem_cons, List.not_mem_nil, or_false] at hy
    rcases hy with rfl | rfl | rfl <;> (unfold PlOk I64; decide)
theorem hx_cap (kt kp : Nat) : Clc hx (hr kt kp) := by
  refine ⟨⟨Nat.le_refl _, Nat.zero_le _⟩, ⟨Nat.le_refl _, ?_⟩, ⟨Nat.le_refl _, ?_⟩⟩
  · show 2 ≤ maxLen; unfold maxLen; omega
  · show 3 ≤ maxLen; unfold maxLen; omega
theorem hx_tame : Tame hx := by
  refine ⟨fun y hy => ?_, fun y hy => ?_⟩
  · have hy : y ∈ [(⟨w0H, 5⟩ : Tm), ⟨w1H, 2⟩] := hy
    simp only [List.mem_cons, List.not_mem_nil, or_false] at hy
    rcases hy with rfl | rfl <;> decide
  · have hy : y ∈ [(⟨0, 0⟩ : Pl), ⟨1, 0⟩, ⟨2, 0⟩] := hy
    simp only [List.mem_cons, List.not_mem_nil, or_false] at hy
    rcases hy with rfl | rfl | rfl <;> decide
theorem hx_t : hx.t.length ≤ maxLen := by show 2 ≤ maxLen; unfold maxLen; omega
theorem hx_l : hx.l.length ≤ maxLen := by show 3 ≤ maxLen; unfold maxLen; omega
section
variable (kt kp : Nat) (X : World)
theorem hq_cheap (h : Clw X X.heap.size hx (hr kt kp)) : Calls Try.prog 24 #[.agg #[.string ⟨#[99]⟩, .int .i64 0, .int .u16 0, .slice none 0 0, .slice (some ⟨kt, 0, none⟩) 2 2, .slice (some ⟨kp, 0, none⟩) 3 3, .int .i64 (-1)]] X (Did (.tuple #[.agg #[.int .i64 1, .int .i64 0], .int .i64 2]) X) := by
  have h1 := p_Cheapest hx (hr kt kp) (by decide) (by decide) hx_tame X h
  rw [show cheapS hx = ⟨1, 0⟩ by kernel_rfl, show cheapN hx = 2 by kernel_rfl] at h1
  exact h1
theorem hq_spot (h : Clw X X.heap.size hx (hr kt kp)) : Calls Try.prog 16 #[.agg #[.string ⟨#[99]⟩, .int .i64 0, .int .u16 0, .slice none 0 0, .slice (some ⟨kt, 0, none⟩) 2 2, .slice (some ⟨kp, 0, none⟩) 3 3, .int .i64 (-1)], .agg #[.int .i64 1, .int .i64 (-1)]] X (Did (.tuple #[.agg #[.int .u32 1, .int .u8 1, .int .i64 1, .int .i64 1, .int .i64 (-2)], .bool true]) X) := by
  have h1 := p_Spot hx (hr kt kp) ⟨1, -1⟩ hx_t hx_l X h
  rw [show spW hx ⟨1, -1⟩ = w1H by kernel_rfl, show spR hx ⟨1, -1⟩ = -2 by kernel_rfl, show seatB hx ⟨1, -1⟩ = true by kernel_rfl] at h1
  exact h1
theorem hq_count : Calls Try.prog 15 #[.agg #[.string ⟨#[99]⟩, .int .i64 0, .int .u16 0, .slice none 0 0, .slice (some ⟨kt, 0, none⟩) 2 2, .slice (some ⟨kp, 0, none⟩) 3 3, .int .i64 (-1)]] X (Did (.int .i64 6) X) := by
  have h1 := p_CountC hx (hr kt kp) (by decide) (by decide) X
  rw [show (seats hx).length = 6 by kernel_rfl] at h1
  exact h1
theorem hq_right (h : Clw X X.heap.size hx (hr kt kp)) : Calls Try.prog 10 #[.agg #[.int .i64 1, .int .i64 1, .int .i64 2], .int .i64 3, .int .i64 0, .int .i64 1, .agg #[.string ⟨#[99]⟩, .int .i64 0, .int .u16 0, .slice none 0 0, .slice (some ⟨kt, 0, none⟩) 2 2, .slice (some ⟨kp, 0, none⟩) 3 3, .int .i64 (-1)]] X (Did (.bool true) X) := by
  have h1 := p_RightC ⟨1, 1, 2⟩ 3 0 1 (by unfold I64; decide) hx (hr kt kp) hx_ok (hx_cap kt kp) X h
  rw [show clRight ⟨1, 1, 2⟩ 3 0 1 hx = true by kernel_rfl] at h1
  exact h1
theorem hq_whole : Calls Try.prog 22 #[.agg #[.string ⟨#[99]⟩, .int .i64 0, .int .u16 0, .slice none 0 0, .slice (some ⟨kt, 0, none⟩) 2 2, .slice (some ⟨kp, 0, none⟩) 3 3, .int .i64 (-1)], .agg #[.int .i64 1, .int .i64 0]] X (Did (.bool true) X) := by
  have h1 := p_Whole hx (hr kt kp) ⟨1, 0⟩ hx_t hx_l X
  rw [show wholeB hx ⟨1, 0⟩ = true by kernel_rfl] at h1
  exact h1
theorem hq_half : Calls Try.prog 22 #[.agg #[.string ⟨#[99]⟩, .int .i64 0, .int .u16 0, .slice none 0 0, .slice (some ⟨kt, 0, none⟩) 2 2, .slice (some ⟨kp, 0, none⟩) 3 3, .int .i64 (-1)], .agg #[.int .i64 1, .int .i64 (-1)]] X (Did (.bool false) X) := by
  have h1 := p_Whole hx (hr kt kp) ⟨1, -1⟩ hx_t hx_l X
  rw [show wholeB hx ⟨1, -1⟩ = false by kernel_rfl] at h1
  exact h1
end
theorem Mem.l4 {w X : World} {l : Obs} (h : Mem w X l) {B : Nat} {x0 x1 x2 x3 : Value} {t : TypeId} (hm : (B, [x0, x1, x2, x3], t) ∈ l) : X.cell? ⟨B, 0, none⟩ = some x0 ∧ X.cell? ⟨B, 1, none⟩ = some x1 ∧ X.cell? ⟨B, 2, none⟩ = some x2 ∧ X.cell? ⟨B, 3, none⟩ = some x3 :=
  ⟨h.cell hm rfl, h.cell hm rfl, h.cell hm rfl, h.cell hm rfl⟩
theorem Mem.l7 {w X : World} {l : Obs} (h : Mem w X l) {B : Nat} {x0 x1 x2 x3 x4 x5 x6 : Value} {t : TypeId} (hm : (B, [x0, x1, x2, x3, x4, x5, x6], t) ∈ l) : X.cell? ⟨B, 0, none⟩ = some x0 ∧ X.cell? ⟨B, 1, none⟩ = some x1 ∧ X.cell? ⟨B, 2, none⟩ = some x2 ∧ X.cell? ⟨B, 3, none⟩ = some x3 ∧ X.cell? ⟨B, 4, none⟩ = some x4 ∧ X.cell? ⟨B, 5, none⟩ = some x5 ∧ X.cell? ⟨B, 6, none⟩ = some x6 :=
  ⟨h.cell hm rfl, h.cell hm rfl, h.cell hm rfl, h.cell hm rfl, h.cell hm rfl, h.cell hm rfl, h.cell hm rfl⟩
set_option maxRecDepth 20000 in
set_option maxHeartbeats 4000000 in
theorem hd_cls (w : World) : Calls Try.prog 9 #[] w (Did (.bool true) w) := by
  obtain ⟨ka, W0, hka, hW0, K0, z0⟩ := (Mem.nil w).one [.int .u32 1, .int .u8 1, .int .i64 0, .int .i64 1] 46
  obtain ⟨kb, W1, hkb, hW1, K1, z1⟩ := K0.out.one [.int .u32 1, .int .u8 1, .int .i64 1, .int .i64 1] 46
  obtain ⟨kt, W2, hkt, hW2, K2, z2⟩ := K1.out.one [.int .u32 1, .int .u8 1, .int .i64 0, .int .i64 1, .int .i64 5, .int .u32 1, .int .u8 1, .int .i64 1, .int .i64 1, .int .i64 2] 58
  obtain ⟨kp, W3, hkp, hW3, K3, z3⟩ := K2.out.one [.int .i64 0, .int .i64 0, .int .i64 1, .int .i64 0, .int .i64 2, .int .i64 0] 60
  obtain ⟨kc, W4, hkc, hW4, K4, z4⟩ := K3.out.one [.string ⟨#[99]⟩, .int .i64 0, .int .u16 0, .slice none 0 0, .slice (some ⟨kt, 0, none⟩) 2 2, .slice (some ⟨kp, 0, none⟩) 3 3, .int .i64 (-1)] 30
  have A0 := K0.out.l4 (B := ka) (t := 46) (x0 := .int .u32 1) (x1 := .int .u8 1) (x2 := .int .i64 0) (x3 := .int .i64 1) (by simp)
  obtain ⟨a0, a1, a2, a3⟩ := K1.out.l4 (B := ka) (t := 46) (x0 := .int .u32 1) (x1 := .int .u8 1) (x2 := .int .i64 0) (x3 := .int .i64 1) (by simp)
  obtain ⟨b0, b1, b2, b3⟩ := K1.out.l4 (B := kb) (t := 46) (x0 := .int .u32 1) (x1 := .int .u8 1) (x2 := .int .i64 1) (x3 := .int .i64 1) (by simp)
  have HQ := hid (fun X (h : Mem w X [(kc, [.string ⟨#[99]⟩, .int .i64 0, .int .u16 0, .slice none 0 0, .slice (some ⟨kt, 0, none⟩) 2 2, .slice (some ⟨kp, 0, none⟩) 3 3, .int .i64 (-1)], 30), (kp, [.int .i64 0, .int .i64 0, .int .i64 1, .int .i64 0, .int .i64 2, .int .i64 0], 60), (kt, [.int .u32 1, .int .u8 1, .int .i64 0, .int .i64 1, .int .i64 5, .int .u32 1, .int .u8 1, .int .i64 1, .int .i64 1, .int .i64 2], 58), (kb, [.int .u32 1, .int .u8 1, .int .i64 1, .int .i64 1], 46)]) => clw_h (h.at_ (b := kt) (cs := [.int .u32 1, .int .u8 1, .int .i64 0, .int .i64 1, .int .i64 5, .int .u32 1, .int .u8 1, .int .i64 1, .int .i64 1, .int .i64 2]) (t := 58) (by simp)) (h.at_ (b := kp) (cs := [.int .i64 0, .int .i64 0, .int .i64 1, .int .i64 0, .int .i64 2, .int .i64 0]) (t := 60) (by simp)))
  have K5 := hid (K4.out.sub (l' := [(kc, [.string ⟨#[99]⟩, .int .i64 0, .int .u16 0, .slice none 0 0, .slice (some ⟨kt, 0, none⟩) 2 2, .slice (some ⟨kp, 0, none⟩) 3 3, .int .i64 (-1)], 30), (kp, [.int .i64 0, .int .i64 0, .int .i64 1, .int .i64 0, .int .i64 2, .int .i64 0], 60), (kt, [.int .u32 1, .int .u8 1, .int .i64 0, .int .i64 1, .int .i64 5, .int .u32 1, .int .u8 1, .int .i64 1, .int .i64 1, .int .i64 2], 58), (kb, [.int .u32 1, .int .u8 1, .int .i64 1, .int .i64 1], 46)]) (by simp))
  have H1 := hid (fun X h => hq_cheap kt kp X h)
  have H2 := hid (fun X h => hq_spot kt kp X h)
  have H3 := hid (fun X => hq_count kt kp X)
  have H4 := hid (fun X h => hq_right kt kp X h)
  have H5 := hid (fun X => hq_whole kt kp X)
  have H6 := hid (fun X => hq_half kt kp X)
  clear z0 z1 z2 z3 z4 A0 K0 K1 K2 K3 K4
  obtain ⟨c0, c1, c2, c3, c4, c5, c6⟩ := K5.out.l7 (B := kc) (t := 30) (x0 := .string ⟨#[99]⟩) (x1 := .int .i64 0) (x2 := .int .u16 0) (x3 := .slice none 0 0) (x4 := .slice (some ⟨kt, 0, none⟩) 2 2) (x5 := .slice (some ⟨kp, 0, none⟩) 3 3) (x6 := .int .i64 (-1)) (by simp)
  go_enter Try.func9, Try.ntmps9
  go_wp2_with fail
  refine (H1.out _ (HQ.out _ K5.out)).mono ?_
  rintro e Y1 ⟨rfl, bb⟩
  have K6 := hid (K5.out.next bb)
  clear a0 a1 a2 a3 b0 b1 b2 b3 c0 c1 c2 c3 c4 c5 c6 bb K5
  obtain ⟨kd, U1, hkd, hU1, K7, zd⟩ := K6.out.one [.int .i64 1, .int .i64 0] 41
  clear zd K6
  subst hU1
  obtain ⟨c0, c1, c2, c3, c4, c5, c6⟩ := K7.out.l7 (B := kc) (t := 30) (x0 := .string ⟨#[99]⟩) (x1 := .int .i64 0) (x2 := .int .u16 0) (x3 := .slice none 0 0) (x4 := .slice (some ⟨kt, 0, none⟩) 2 2) (x5 := .slice (some ⟨kp, 0, none⟩) 3 3) (x6 := .int .i64 (-1)) (by simp)
  obtain ⟨b0, b1, b2, b3⟩ := K7.out.l4 (B := kb) (t := 46) (x0 := .int .u32 1) (x1 := .int .u8 1) (x2 := .int .i64 1) (x3 := .int .i64 1) (by simp)
  have d0 := K7.out.cell (b := kd) (cs := [.int .i64 1, .int .i64 0]) (t := 41) (by simp) (k := 0) rfl
  have d1 := K7.out.cell (b := kd) (cs := [.int .i64 1, .int .i64 0]) (t := 41) (by simp) (k := 1) rfl
  go_wp2_with fail
  obtain ⟨U1, hU1⟩ : ∃ U, Y1.alloc (.cells #[.int .i64 1, .int .i64 0] 41) = U := ⟨_, rfl⟩
  clear c0 c1 c2 c3 c4 c5 c6 b0 b1 b2 b3 d0 d1
  rw [hU1] at K7 ⊢
  refine (H2.out _ (HQ.out _ (K7.out.sub (by simp)))).mono ?_
  rintro e Y2 ⟨rfl, bb⟩
  have K8 := hid (K7.out.next bb)
  clear bb K7 hU1
  obtain ⟨ke, U2, hke, hU2, K9, zd⟩ := K8.out.one [.int .u32 1, .int .u8 1, .int .i64 1, .int .i64 1, .int .i64 (-2)] 48
  clear zd K8
  obtain ⟨c0, c1, c2, c3, c4, c5, c6⟩ := K9.out.l7 (B := kc) (t := 30) (x0 := .string ⟨#[99]⟩) (x1 := .int .i64 0) (x2 := .int .u16 0) (x3 := .slice none 0 0) (x4 := .slice (some ⟨kt, 0, none⟩) 2 2) (x5 := .slice (some ⟨kp, 0, none⟩) 3 3) (x6 := .int .i64 (-1)) (by simp)
  obtain ⟨b0, b1, b2, b3⟩ := K9.out.l4 (B := kb) (t := 46) (x0 := .int .u32 1) (x1 := .int .u8 1) (x2 := .int .i64 1) (x3 := .int .i64 1) (by simp)
  have d0 := K9.out.cell (b := kd) (cs := [.int .i64 1, .int .i64 0]) (t := 41) (by simp) (k := 0) rfl
  have d1 := K9.out.cell (b := kd) (cs := [.int .i64 1, .int .i64 0]) (t := 41) (by simp) (k := 1) rfl
  obtain ⟨e0, e1, e2, e3, e4⟩ := K9.out.l5 (B := ke) (t := 48) (x0 := .int .u32 1) (x1 := .int .u8 1) (x2 := .int .i64 1) (x3 := .int .i64 1) (x4 := .int .i64 (-2)) (by simp)
  go_wp2_with fail
  refine (H3.out _).mono ?_
  rintro e Z9 ⟨rfl, bb⟩
  have K10 := hid (K9.out.next bb)
  clear c0 c1 c2 c3 c4 c5 c6 b0 b1 b2 b3 d0 d1 e0 e1 e2 e3 e4 bb K9
  obtain ⟨c0, c1, c2, c3, c4, c5, c6⟩ := K10.out.l7 (B := kc) (t := 30) (x0 := .string ⟨#[99]⟩) (x1 := .int .i64 0) (x2 := .int .u16 0) (x3 := .slice none 0 0) (x4 := .slice (some ⟨kt, 0, none⟩) 2 2) (x5 := .slice (some ⟨kp, 0, none⟩) 3 3) (x6 := .int .i64 (-1)) (by simp)
  obtain ⟨b0, b1, b2, b3⟩ := K10.out.l4 (B := kb) (t := 46) (x0 := .int .u32 1) (x1 := .int .u8 1) (x2 := .int .i64 1) (x3 := .int .i64 1) (by simp)
  have d0 := K10.out.cell (b := kd) (cs := [.int .i64 1, .int .i64 0]) (t := 41) (by simp) (k := 0) rfl
  have d1 := K10.out.cell (b := kd) (cs := [.int .i64 1, .int .i64 0]) (t := 41) (by simp) (k := 1) rfl
  obtain ⟨e0, e1, e2, e3, e4⟩ := K10.out.l5 (B := ke) (t := 48) (x0 := .int .u32 1) (x1 := .int .u8 1) (x2 := .int .i64 1) (x3 := .int .i64 1) (x4 := .int .i64 (-2)) (by simp)
  go_wp2_with fail
  refine (H4.out _ (HQ.out _ (K10.out.sub (by simp)))).mono ?_
  rintro e Z10 ⟨rfl, bb⟩
  have K11 := hid (K10.out.next bb)
  clear c0 c1 c2 c3 c4 c5 c6 b0 b1 b2 b3 d0 d1 e0 e1 e2 e3 e4 bb K10
  obtain ⟨c0, c1, c2, c3, c4, c5, c6⟩ := K11.out.l7 (B := kc) (t := 30) (x0 := .string ⟨#[99]⟩) (x1 := .int .i64 0) (x2 := .int .u16 0) (x3 := .slice none 0 0) (x4 := .slice (some ⟨kt, 0, none⟩) 2 2) (x5 := .slice (some ⟨kp, 0, none⟩) 3 3) (x6 := .int .i64 (-1)) (by simp)
  obtain ⟨b0, b1, b2, b3⟩ := K11.out.l4 (B := kb) (t := 46) (x0 := .int .u32 1) (x1 := .int .u8 1) (x2 := .int .i64 1) (x3 := .int .i64 1) (by simp)
  have d0 := K11.out.cell (b := kd) (cs := [.int .i64 1, .int .i64 0]) (t := 41) (by simp) (k := 0) rfl
  have d1 := K11.out.cell (b := kd) (cs := [.int .i64 1, .int .i64 0]) (t := 41) (by simp) (k := 1) rfl
  obtain ⟨e0, e1, e2, e3, e4⟩ := K11.out.l5 (B := ke) (t := 48) (x0 := .int .u32 1) (x1 := .int .u8 1) (x2 := .int .i64 1) (x3 := .int .i64 1) (x4 := .int .i64 (-2)) (by simp)
  go_wp2_with fail
  refine (H5.out _).mono ?_
  rintro e Z11 ⟨rfl, bb⟩
  have K12 := hid (K11.out.next bb)
  clear c0 c1 c2 c3 c4 c5 c6 b0 b1 b2 b3 d0 d1 e0 e1 e2 e3 e4 bb K11
  obtain ⟨c0, c1, c2, c3, c4, c5, c6⟩ := K12.out.l7 (B := kc) (t := 30) (x0 := .string ⟨#[99]⟩) (x1 := .int .i64 0) (x2 := .int .u16 0) (x3 := .slice none 0 0) (x4 := .slice (some ⟨kt, 0, none⟩) 2 2) (x5 := .slice (some ⟨kp, 0, none⟩) 3 3) (x6 := .int .i64 (-1)) (by simp)
  obtain ⟨b0, b1, b2, b3⟩ := K12.out.l4 (B := kb) (t := 46) (x0 := .int .u32 1) (x1 := .int .u8 1) (x2 := .int .i64 1) (x3 := .int .i64 1) (by simp)
  have d0 := K12.out.cell (b := kd) (cs := [.int .i64 1, .int .i64 0]) (t := 41) (by simp) (k := 0) rfl
  have d1 := K12.out.cell (b := kd) (cs := [.int .i64 1, .int .i64 0]) (t := 41) (by simp) (k := 1) rfl
  obtain ⟨e0, e1, e2, e3, e4⟩ := K12.out.l5 (B := ke) (t := 48) (x0 := .int .u32 1) (x1 := .int .u8 1) (x2 := .int .i64 1) (x3 := .int .i64 1) (x4 := .int .i64 (-2)) (by simp)
  go_wp2_with fail
  refine (H6.out _).mono ?_
  rintro e Z12 ⟨rfl, bb⟩
  have K13 := hid (K12.out.next bb)
  clear c0 c1 c2 c3 c4 c5 c6 b0 b1 b2 b3 d0 d1 e0 e1 e2 e3 e4 bb K12
  obtain ⟨c0, c1, c2, c3, c4, c5, c6⟩ := K13.out.l7 (B := kc) (t := 30) (x0 := .string ⟨#[99]⟩) (x1 := .int .i64 0) (x2 := .int .u16 0) (x3 := .slice none 0 0) (x4 := .slice (some ⟨kt, 0, none⟩) 2 2) (x5 := .slice (some ⟨kp, 0, none⟩) 3 3) (x6 := .int .i64 (-1)) (by simp)
  obtain ⟨b0, b1, b2, b3⟩ := K13.out.l4 (B := kb) (t := 46) (x0 := .int .u32 1) (x1 := .int .u8 1) (x2 := .int .i64 1) (x3 := .int .i64 1) (by simp)
  have d0 := K13.out.cell (b := kd) (cs := [.int .i64 1, .int .i64 0]) (t := 41) (by simp) (k := 0) rfl
  have d1 := K13.out.cell (b := kd) (cs := [.int .i64 1, .int .i64 0]) (t := 41) (by simp) (k := 1) rfl
  obtain ⟨e0, e1, e2, e3, e4⟩ := K13.out.l5 (B := ke) (t := 48) (x0 := .int .u32 1) (x1 := .int .u8 1) (x2 := .int .i64 1) (x3 := .int .i64 1) (x4 := .int .i64 (-2)) (by simp)
  go_wp2_with fail
  go_ret
  exact Did.mk rfl K13.out.2
end Go.Proofs.Ytcnpfchopjopeaa

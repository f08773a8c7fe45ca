/- Contracts of layer 10's heads. -/
import Derived.Test.YtfnjnkmdifigdaaDoorClkL
import Derived.Test.YtfnjnkmdifigdaaDoorClkQ
namespace Go.Proofs.YtfnjnkmdifigdaaDoor
open Go.RowKit
open Whn (Gr Wh)

def gH : Gr := ⟨3, 5, 40⟩
def wH : Wh := ⟨7, 5, 16, 4⟩
def tH : List UInt8 := [49, 45, 51, 32, 109, 119, 32, 49, 54, 43, 52]
theorem wk_7 : Clk.wk 7 = [49, 45, 51] := by rw [← Clk.wk_runs]; decide +kernel
theorem wk_5 : Clk.wk 5 = [49, 44, 51] := by rw [← Clk.wk_runs]; decide +kernel
theorem right_H : Whn.right gH wH = true := by decide +kernel
theorem pt_H : Clk.pt gH wH = tH := by
  unfold Clk.pt Clk.tt
  rw [if_pos right_H, show wH.w = 7 from rfl, wk_7]
  decide +kernel
theorem pz_H : Clk.pz gH tH = (wH, 0) := by rw [← pt_H]; exact Clk.pz_pt right_H
theorem pwk_H : Clk.pwk [49, 44, 50] = (0, 3) := by decide +kernel
theorem mt_H : Clk.mt gH 41 = [49, 32, 116, 32, 49] := by decide +kernel
theorem dt_3 : Clk.dt 3 = [109, 116] := by decide +kernel
abbrev glH : List Value := [.int .i64 3, .int .i64 5, .int .i64 40]
abbrev wlH : List Value := [.int .u32 7, .int .u8 5, .int .i64 16, .int .i64 4]
theorem Mem.glH {w X : World} {l : Obs} (h : Mem w X l) {B : Nat} (hm : (B, glH, 23) ∈ l) : X.cell? ⟨B, 0, none⟩ = some (.int .i64 3) ∧ X.cell? ⟨B, 1, none⟩ = some (.int .i64 5) ∧ X.cell? ⟨B, 2, none⟩ = some (.int .i64 40) := ⟨h.cell hm rfl, h.cell hm rfl, h.cell hm rfl⟩
theorem Mem.wlH {w X : World} {l : Obs} (h : Mem w X l) {B : Nat} (hm : (B, wlH, 26) ∈ l) : X.cell? ⟨B, 0, none⟩ = some (.int .u32 7) ∧ X.cell? ⟨B, 1, none⟩ = some (.int .u8 5) ∧ X.cell? ⟨B, 2, none⟩ = some (.int .i64 16) ∧ X.cell? ⟨B, 3, none⟩ = some (.int .i64 4) := ⟨h.cell hm rfl, h.cell hm rfl, h.cell hm rfl, h.cell hm rfl⟩
set_option maxRecDepth 20000 in
set_option maxHeartbeats 4000000 in
theorem p_heads (w : World) (hE : Env w) : Calls Tryd.prog 9 #[] w (Did (.bool true) w) := by
  have HE := hid hE
  clear hE
  have HPz := hid (show ∀ w, Env w → Calls Tryd.prog 11 #[.agg #[.int .i64 3, .int .i64 5, .int .i64 40], .string ⟨#[49, 45, 51, 32, 109, 119, 32, 49, 54, 43, 52]⟩] w (Did (.tuple #[.agg #[.int .u32 7, .int .u8 5, .int .i64 16, .int .i64 4], .int .i64 0]) w) from fun w hE => by
    have := p10_Parse gH tH (by decide) w hE
    unfold pzV at this
    rw [pz_H] at this
    exact this)
  have HPk := hid (show ∀ w, Env w → Calls Tryd.prog 16 #[.string ⟨#[49, 44, 50]⟩] w (Did (.tuple #[.int .u32 0, .int .i64 3]) w) from fun w hE => by
    have := p_ParseWeeks [49, 44, 50] (by decide) w hE
    unfold pwkV at this
    rw [pwk_H] at this
    exact this)
  have HPt := hid (show ∀ w, Env w → Calls Tryd.prog 10 #[.agg #[.int .i64 3, .int .i64 5, .int .i64 40], .agg #[.int .u32 7, .int .u8 5, .int .i64 16, .int .i64 4]] w (Did (.string ⟨#[49, 45, 51, 32, 109, 119, 32, 49, 54, 43, 52]⟩) w) from fun w hE => by
    have := p10_Print gH wH (by unfold Wok I64 wH; decide) w hE
    rw [pt_H] at this
    exact this)
  have HPm := hid (show ∀ w, Env w → Calls Tryd.prog 14 #[.agg #[.int .i64 3, .int .i64 5, .int .i64 40], .int .i64 41] w (Did (.string ⟨#[49, 32, 116, 32, 49]⟩) w) from fun w hE => by
    have := p10_Moment gH 41 w hE
    rw [mt_H] at this
    exact this)
  have HPd := hid (show ∀ w, Calls Tryd.prog 22 #[.int .u8 3] w (Did (.string ⟨#[109, 116]⟩) w) from fun w => by
    have := p_Days 3 (by decide) w
    rw [dt_3] at this
    exact this)
  have HPw := hid (show ∀ w, Env w → Calls Tryd.prog 18 #[.int .u32 5] w (Did (.string ⟨#[49, 44, 51]⟩) w) from fun w hE => by
    have := p_Weeks 5 (by decide) w hE
    rw [wk_5] at this
    exact this)
  obtain ⟨A, W, hA, hW, K, hk0⟩ := (Mem.nil w).one glH 23
  obtain ⟨B, V, hB, hV, K1, hk1⟩ := K.out.one wlH 26
  obtain ⟨a0, a1, a2⟩ := K1.out.glH (B := A) (by simp)
  go_enter Tryd.func9, Tryd.ntmps9
  go_wp2_with fail
  refine (HPz.out _ (HE.out.next K1.out.2)).mono ?_
  rintro e w1 ⟨rfl, b1⟩
  have K2 := K1.out.next b1
  obtain ⟨D, U, hD, hU, K3, hk3⟩ := K2.one wlH 26
  go_wp2_with fail
  refine (HPk.out _ (HE.out.next K3.out.2)).mono ?_
  rintro e w2 ⟨rfl, b2⟩
  have K4 := K3.out.next b2
  clear a0 a1 a2
  obtain ⟨a0, a1, a2⟩ := K4.glH (B := A) (by simp)
  obtain ⟨c0, c1, c2, c3⟩ := K4.wlH (B := B) (by simp)
  obtain ⟨d0, d1, d2, d3⟩ := K4.wlH (B := D) (by simp)
  go_wp2_with fail
  refine (HPt.out _ (HE.out.next K4.2)).mono ?_
  rintro e w3 ⟨rfl, b3⟩
  have K5 := K4.next b3
  clear a0 a1 a2 c0 c1 c2 c3 d0 d1 d2 d3
  obtain ⟨a0, a1, a2⟩ := K5.glH (B := A) (by simp)
  obtain ⟨c0, c1, c2, c3⟩ := K5.wlH (B := B) (by simp)
  obtain ⟨d0, d1, d2, d3⟩ := K5.wlH (B := D) (by simp)
  go_wp2_with fail
  refine (HPm.out _ (HE.out.next K5.2)).mono ?_
  rintro e w4 ⟨rfl, b4⟩
  have K6 := K5.next b4
  clear a0 a1 a2 c0 c1 c2 c3 d0 d1 d2 d3
  go_wp2_with fail
  refine (HPd.out _).mono ?_
  rintro e w5 ⟨rfl, b5⟩
  have K7 := K6.next b5
  go_wp2_with fail
  refine (HPw.out _ (HE.out.next K7.2)).mono ?_
  rintro e w6 ⟨rfl, b6⟩
  have K8 := K7.next b6
  go_wp2_with fail
  go_ret
  exact Did.mk rfl K8.2
end Go.Proofs.YtfnjnkmdifigdaaDoor

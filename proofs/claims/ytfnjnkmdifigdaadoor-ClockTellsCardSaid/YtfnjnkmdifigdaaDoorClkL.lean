/- Contracts of layer 10 (clock): Parse. -/
import Derived.Test.YtfnjnkmdifigdaaDoorClkK
namespace Go.Proofs.YtfnjnkmdifigdaaDoor
open Go.RowKit
open Whn (Gr Wh)

/-- what Parse hands out -/
def pzV (g : Gr) (s : List UInt8) : Value := .tuple #[wv (Clk.pz g s).1, .int .i64 ((Clk.pz g s).2 : Int)]
set_option maxRecDepth 10000 in
set_option maxHeartbeats 4000000 in
theorem p10_Parse (g : Gr) (s : List UInt8) (hs : s.length ≤ 300000) (w : World) (hE : Env w) : Calls Tryd.prog 11 #[gv g, txt s] w (Did (pzV g s) w) := by
  have HE := hid hE
  have Hv := hid (show pzV g s = .tuple #[wv (pzz g s).1, .int .i64 ((pzz g s).2 : Int)] by unfold pzV; rw [pz_eq])
  unfold pzz at Hv
  have HG := hid (fun w => p_RightGrid g w)
  have HW := hid (fun w hE => p_parseWhen s hs w hE)
  unfold pwsV at HW
  have hok := pws_ok s
  generalize pws s = P at *
  obtain ⟨x, pe⟩ := P
  simp only at HW hok Hv
  have HR := hid (fun w => p_Right g x hok w)
  clear hE hok
  obtain ⟨A, W, hA, hW, K, hk0⟩ := (Mem.nil w).one (gc g) 23
  obtain ⟨C, V, hC, hV, K1, hk1⟩ := K.out.one zl 26
  have hwC : w.heap.size ≤ C := by have := hk0.size; omega
  obtain ⟨g0, g1, g2⟩ := K1.out.gr (B := A) (g := g) (by simp)
  cases hg : Whn.rgrid g with
  | false =>
    rw [hg] at Hv HG
    have Hr := hid (show pzV g s = .tuple #[wv Whn.zero, .int .i64 10] from Hv.out)
    clear Hv hg
    go_enter Tryd.func11, Tryd.ntmps11
    go_wp2_with fail
    refine (HG.out _).mono ?_
    rintro e w1 ⟨rfl, b1⟩
    have K2 := K1.out.next b1
    clear g0 g1 g2
    have hO := K2.at_ (b := C) (cs := zl) (t := 26) (by simp)
    have c0 := hO.cell (k := 0) rfl
    have c1 := hO.cell (k := 1) rfl
    have c2 := hO.cell (k := 2) rfl
    have c3 := hO.cell (k := 3) rfl
    have f0 := hO.free 0
    have f1 := hO.free 1
    have f2 := hO.free 2
    have f3 := hO.free 3
    have Hz := hid (Mem.four (K2.sub (l' := [(C, zl, 26)]) (by simp)) hwC (fun p hp => by cases hp) (.int .u32 0) (.int .u8 0) (.int .i64 0) (.int .i64 0))
    clear K2 hO
    go_wp2_with fail
    have hO4 := Hz.out.at_ (b := C) (cs := [.int .u32 0, .int .u8 0, .int .i64 0, .int .i64 0]) (t := 26) (by simp)
    have r0 := hO4.cell (k := 0) rfl
    have r1 := hO4.cell (k := 1) rfl
    have r2 := hO4.cell (k := 2) rfl
    have r3 := hO4.cell (k := 3) rfl
    exact bodyPost_ret (v := .tuple #[wv Whn.zero, .int .i64 10]) (by simp [results, Tryd.results11, go_sem, r0, r1, r2, r3, Whn.zero]) rfl (Did.mk Hr.out.symm Hz.out.2)
  | true =>
    rw [hg] at Hv HG
    have Hv := hid (show pzV g s = .tuple #[wv (if pe ≠ 0 then (Whn.zero, pe) else if Whn.right g x = true then (x, 0) else (Whn.zero, 6)).1, .int .i64 ((if pe ≠ 0 then (Whn.zero, pe) else if Whn.right g x = true then (x, 0) else (Whn.zero, 6)).2 : Int)] from Hv.out)
    clear hg
    go_enter Tryd.func11, Tryd.ntmps11
    go_wp2_with fail
    refine (HG.out _).mono ?_
    rintro e w1 ⟨rfl, b1⟩
    have K2 := K1.out.next b1
    clear g0 g1 g2
    go_wp2_with fail
    refine (HW.out _ (HE.out.next K2.2)).mono ?_
    rintro e w2 ⟨rfl, b2⟩
    have K3 := K2.next b2
    obtain ⟨D, W2, hD, hW2, K4, hk4⟩ := K3.one (wc x) 26
    by_cases hpe : pe = 0
    · subst hpe
      cases hr : Whn.right g x with
      | false =>
        rw [hr] at Hv HR
        have Hr := hid (show pzV g s = .tuple #[wv Whn.zero, .int .i64 6] from Hv.out)
        clear Hv hr
        obtain ⟨g0, g1, g2⟩ := K4.out.gr (B := A) (g := g) (by simp)
        obtain ⟨d0, d1, d2, d3⟩ := K4.out.wh (B := D) (x := x) (by simp)
        go_wp2_with fail
        refine (HR.out _).mono ?_
        rintro e w3 ⟨rfl, b3⟩
        have K5 := K4.out.next b3
        clear g0 g1 g2 d0 d1 d2 d3
        have hO := K5.at_ (b := C) (cs := zl) (t := 26) (by simp)
        have c0 := hO.cell (k := 0) rfl
        have c1 := hO.cell (k := 1) rfl
        have c2 := hO.cell (k := 2) rfl
        have c3 := hO.cell (k := 3) rfl
        have f0 := hO.free 0
        have f1 := hO.free 1
        have f2 := hO.free 2
        have f3 := hO.free 3
        have Hz := hid (Mem.four (K5.sub (l' := [(C, zl, 26)]) (by simp)) hwC (fun p hp => by cases hp) (.int .u32 0) (.int .u8 0) (.int .i64 0) (.int .i64 0))
        clear K5 hO
        go_wp2_with fail
        have hO4 := Hz.out.at_ (b := C) (cs := [.int .u32 0, .int .u8 0, .int .i64 0, .int .i64 0]) (t := 26) (by simp)
        have r0 := hO4.cell (k := 0) rfl
        have r1 := hO4.cell (k := 1) rfl
        have r2 := hO4.cell (k := 2) rfl
        have r3 := hO4.cell (k := 3) rfl
        exact bodyPost_ret (v := .tuple #[wv Whn.zero, .int .i64 6]) (by simp [results, Tryd.results11, go_sem, r0, r1, r2, r3, Whn.zero]) rfl (Did.mk Hr.out.symm Hz.out.2)
      | true =>
        rw [hr] at Hv HR
        have Hr := hid (show pzV g s = .tuple #[.agg #[.int .u32 (x.w : Int), .int .u8 (x.d : Int), .int .i64 x.s, .int .i64 x.l], .int .i64 0] from Hv.out)
        clear Hv hr
        obtain ⟨g0, g1, g2⟩ := K4.out.gr (B := A) (g := g) (by simp)
        obtain ⟨d0, d1, d2, d3⟩ := K4.out.wh (B := D) (x := x) (by simp)
        go_wp2_with fail
        refine (HR.out _).mono ?_
        rintro e w3 ⟨rfl, b3⟩
        have K5 := K4.out.next b3
        clear g0 g1 g2 d0 d1 d2 d3
        obtain ⟨d0, d1, d2, d3⟩ := K5.wh (B := D) (x := x) (by simp)
        have hO := K5.at_ (b := C) (cs := zl) (t := 26) (by simp)
        have c0 := hO.cell (k := 0) rfl
        have c1 := hO.cell (k := 1) rfl
        have c2 := hO.cell (k := 2) rfl
        have c3 := hO.cell (k := 3) rfl
        have f0 := hO.free 0
        have f1 := hO.free 1
        have f2 := hO.free 2
        have f3 := hO.free 3
        have Hz := hid (Mem.four (K5.sub (l' := [(C, zl, 26)]) (by simp)) hwC (fun p hp => by cases hp) (.int .u32 (x.w : Int)) (.int .u8 (x.d : Int)) (.int .i64 x.s) (.int .i64 x.l))
        clear K5 hO
        go_wp2_with fail
        have hO4 := Hz.out.at_ (b := C) (cs := [.int .u32 (x.w : Int), .int .u8 (x.d : Int), .int .i64 x.s, .int .i64 x.l]) (t := 26) (by simp)
        have r0 := hO4.cell (k := 0) rfl
        have r1 := hO4.cell (k := 1) rfl
        have r2 := hO4.cell (k := 2) rfl
        have r3 := hO4.cell (k := 3) rfl
        exact bodyPost_ret (v := .tuple #[.agg #[.int .u32 (x.w : Int), .int .u8 (x.d : Int), .int .i64 x.s, .int .i64 x.l], .int .i64 0]) (by simp [results, Tryd.results11, go_sem, r0, r1, r2, r3]) rfl (Did.mk Hr.out.symm Hz.out.2)
    · have Hr := hid (show pzV g s = .tuple #[wv Whn.zero, .int .i64 (pe : Int)] by rw [Hv.out, if_pos hpe]; rfl)
      have t1 : ((pe : Int) != 0) = true := by rw [bne_iff_ne]; omega
      clear Hv hpe
      have hO := K4.out.at_ (b := C) (cs := zl) (t := 26) (by simp)
      have c0 := hO.cell (k := 0) rfl
      have c1 := hO.cell (k := 1) rfl
      have c2 := hO.cell (k := 2) rfl
      have c3 := hO.cell (k := 3) rfl
      have f0 := hO.free 0
      have f1 := hO.free 1
      have f2 := hO.free 2
      have f3 := hO.free 3
      have Hz := hid (Mem.four (K4.out.sub (l' := [(C, zl, 26)]) (by simp)) hwC (fun p hp => by cases hp) (.int .u32 0) (.int .u8 0) (.int .i64 0) (.int .i64 0))
      clear hO
      go_wp2_with fail
      have hO4 := Hz.out.at_ (b := C) (cs := [.int .u32 0, .int .u8 0, .int .i64 0, .int .i64 0]) (t := 26) (by simp)
      have r0 := hO4.cell (k := 0) rfl
      have r1 := hO4.cell (k := 1) rfl
      have r2 := hO4.cell (k := 2) rfl
      have r3 := hO4.cell (k := 3) rfl
      exact bodyPost_ret (v := .tuple #[wv Whn.zero, .int .i64 (pe : Int)]) (by simp [results, Tryd.results11, go_sem, r0, r1, r2, r3, Whn.zero]) rfl (Did.mk Hr.out.symm Hz.out.2)
end Go.Proofs.YtfnjnkmdifigdaaDoor

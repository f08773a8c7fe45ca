/- The heads of layer 16's laws, of whatever contracts of the program's own. -/
import Derived.Test.YtjjmajhldpoobaaMnyF
namespace Go.Proofs.Ytjjmajhldpoobaa
open Go.RowKit
open Whn (Gr Wh)
set_option linter.unusedSimpArgs false
set_option linter.unusedVariables false

section
variable {P : Program} {ops : Array Oper} {Q : Exit → Act → World → Prop} {md : Region.Mode} {S : World → Prop}
/-- what stands behind a stretch is shown once, of whatever state C speaks of; each order of the stretch ends in it -/
theorem wpAnyH_cut {fuel : Nat} {listed : Array Bool} {a : Act} {w : World} (fuel2 : Nat) (listed2 : Array Bool) (C : Act → World → Prop)
    (h : ∀ a' w', C a' w' → wpAnyH P md ops Q S fuel2 listed2 a' w') (g : (∀ a' w', C a' w' → wpAnyH P md ops Q S fuel2 listed2 a' w') → wpAnyH P md ops Q S fuel listed a w) : wpAnyH P md ops Q S fuel listed a w := g h
theorem wpAnyH_at {fuel : Nat} {listed listed2 : Array Bool} {a : Act} {w : World} (e : listed = listed2) (h : wpAnyH P md ops Q S fuel listed2 a w) : wpAnyH P md ops Q S fuel listed a w := by rw [e]; exact h
end
theorem ob_rdC {X : World} {g : Nat} {xs : List Value} {t : TypeId} (h : Ob X g xs t) : Rd X X.heap.size (some ⟨g, 0, none⟩) xs := fun _ => ⟨_, rfl, h.lt, fun k v hk => by
  have := h.cell hk
  rcases Nat.eq_zero_or_pos k with rfl | hp
  · exact this
  · rw [show ((⟨g, 0, none⟩ : Addr).add k) = ⟨g, k, none⟩ by unfold Addr.add; simp; omega]
    exact this⟩
theorem rd_next {w w' : World} {A : Option Addr} {vs : List Value} (h : Rd w w.heap.size A vs) (hb : Below w.heap.size w w') : Rd w' w'.heap.size A vs := (h.below hb (Nat.le_refl _)).more hb.size
/-- the chapter's example: its grid and its three times -/
abbrev g16 : Gr := ⟨1, 1, 8⟩
def ex16 : List Wh := [⟨1, 1, 0, 2⟩, ⟨1, 1, 2, 2⟩, ⟨1, 1, 6, 2⟩]
def ex16b : List (Int × Int) := [(4, 2), (2, 1)]
theorem i16_of (k : Int) (h : -1000 ≤ k ∧ k ≤ 1000) : I64 k := by unfold I64; omega
theorem ex16_ok : ∀ y ∈ ex16, Wok y := fun y h => by
  simp only [ex16, List.mem_cons, List.not_mem_nil, or_false] at h
  rcases h with rfl | rfl | rfl <;> exact ⟨by show 1 < 4294967296; omega, by show 1 < 256; omega, i16_of _ (by decide), i16_of _ (by decide)⟩
set_option maxRecDepth 20000 in
set_option maxHeartbeats 16000000 in
theorem heads16 (O : Own16) (w : World) : Calls Try.prog 10 #[] w (Did (.bool true) w) := by
  have HK := hid (fun X => O.known 21 X (i16_of _ (by omega)))
  rw [show mkB 21 = true from rfl] at HK
  have HR := hid (fun X => O.right 21 7 0 X (i16_of _ (by omega)) (i16_of _ (by omega)) (i16_of _ (by omega)))
  rw [show rtV 21 7 0 = true from by kernel_rfl] at HR
  have HD := hid (fun A X h => O.days g16 ex16 A 3 X ex16_ok (by decide) h)
  rw [show Whn.dayC g16 ex16 = 1 from by kernel_rfl] at HD
  have HB := hid (fun A X h => O.blocks g16 ex16 A 3 0 1 X ex16_ok (by decide) (i16_of _ (by omega)) (i16_of _ (by omega)) h)
  rw [show Whn.blkV g16 ex16 0 1 = ex16b from by kernel_rfl] at HB
  have HO1 := hid (fun A X h => O.over g16 24 3 1 ex16 A 3 X (i16_of _ (by omega)) (i16_of _ (by omega)) (i16_of _ (by omega)) ex16_ok (by decide) h)
  rw [show Whn.ovr g16 24 3 1 ex16 = 1 from by kernel_rfl] at HO1
  have HO2 := hid (fun A X h => O.over g16 22 5 0 ex16 A 3 X (i16_of _ (by omega)) (i16_of _ (by omega)) (i16_of _ (by omega)) ex16_ok (by decide) h)
  rw [show Whn.ovr g16 22 5 0 ex16 = 1 from by kernel_rfl] at HO2
  have HK1 := hid (fun A X h => O.broken g16 23 0 1 true ex16 A 3 X (i16_of _ (by omega)) (i16_of _ (by omega)) (i16_of _ (by omega)) ex16_ok (by decide) h)
  rw [show Whn.brkV g16 23 0 1 ex16 true = true from by kernel_rfl] at HK1
  have HK2 := hid (fun A X h => O.broken g16 23 0 1 false ex16 A 3 X (i16_of _ (by omega)) (i16_of _ (by omega)) (i16_of _ (by omega)) ex16_ok (by decide) h)
  rw [show Whn.brkV g16 23 0 1 ex16 false = false from by kernel_rfl] at HK2
  have HS := hid (fun A A2 c c2 X h h2 => r16_Same ex16b (by unfold maxLen; decide) A A2 c c2 X h h2)
  rw [show (ex16b.length) = 2 from rfl] at HS
  rw [show (ex16.length) = 3 from rfl] at HD HB HO1 HO2 HK1 HK2
  obtain ⟨B, W0, hB, hW0, K0, z0⟩ := (Mem.nil w).one (gc g16) 23
  obtain ⟨D, W, hD, hW, K1, z1⟩ := K0.out.one [.int .u32 1, .int .u8 1, .int .i64 0, .int .i64 2, .int .u32 1, .int .u8 1, .int .i64 2, .int .i64 2, .int .u32 1, .int .u8 1, .int .i64 6, .int .i64 2] 48
  have HX := hid (show Whs W W.heap.size (some ⟨D, 0, none⟩) ex16 from ob_rdC (K1.out.at_ (b := D) (cs := [.int .u32 1, .int .u8 1, .int .i64 0, .int .i64 2, .int .u32 1, .int .u8 1, .int .i64 2, .int .i64 2, .int .u32 1, .int .u8 1, .int .i64 6, .int .i64 2]) (t := 48) (by simp)))
  have HG := hid (K1.out.at_ (b := B) (cs := gc g16) (t := 23) (by simp))
  have HwW := hid K1.out.2
  have HXf := hid (fun X (h : Below W.heap.size W X) => (HX.out.below h (Nat.le_refl _)).more h.size)
  have c0 := HG.out.cell (k := 0) rfl
  have c1 := HG.out.cell (k := 1) rfl
  have c2 := HG.out.cell (k := 2) rfl
  have hBW : B < W.heap.size := HG.out.lt
  have HGf := hid (fun X (h : Below W.heap.size W X) => (⟨(h.cell (p := ⟨B, 0, none⟩) hBW).trans c0, (h.cell (p := ⟨B, 1, none⟩) hBW).trans c1, (h.cell (p := ⟨B, 2, none⟩) hBW).trans c2⟩ : X.cell? ⟨B, 0, none⟩ = some (.int .i64 1) ∧ X.cell? ⟨B, 1, none⟩ = some (.int .i64 1) ∧ X.cell? ⟨B, 2, none⟩ = some (.int .i64 8)))
  clear z0 z1 K0 K1 HX HG
  go_enter Try.func10, Try.ntmps10
  go_wp2_with fail
  refine (HB.out _ _ (HXf.out _ (Below.refl _ _))).mono ?_
  rintro e Y0 ⟨v, rfl, ho, bz⟩
  obtain ⟨A, q, rfl, hr, _⟩ := own_bk ho
  obtain ⟨E, Y1, hE, hY1, K1, z1⟩ := (Mem.nil Y0).one [.int .i64 4, .int .i64 2, .int .i64 2, .int .i64 1] 25
  have HE := hid (ob_rdC (K1.out.at_ (b := E) (cs := [.int .i64 4, .int .i64 2, .int .i64 2, .int .i64 1]) (t := 25) (by simp)))
  have HR2 := hid (rd_next hr K1.out.2)
  have S0 := hid (below2 bz K1.out.2)
  clear z1 K1 ho hr bz c0 c1 c2
  go_wp2_with fail
  refine (HS.out _ _ _ _ _ HR2.out HE.out).mono ?_
  rintro e Y2 ⟨rfl, bz⟩
  have S1 := hid (below2 S0.out bz)
  clear bz S0
  obtain ⟨q0, q1, q2⟩ := HGf.out _ S1.out
  go_wp2_with fail
  refine (HD.out _ _ (HXf.out _ S1.out)).mono ?_
  rintro e Y3 ⟨rfl, bz⟩
  have S2 := hid (below2 S1.out bz)
  clear bz S1 q0 q1 q2
  obtain ⟨q0, q1, q2⟩ := HGf.out _ S2.out
  go_wp2_with fail
  refine (HO1.out _ _ (HXf.out _ S2.out)).mono ?_
  rintro e Y4 ⟨rfl, bz⟩
  have S3 := hid (below2 S2.out bz)
  clear bz S2 q0 q1 q2
  obtain ⟨q0, q1, q2⟩ := HGf.out _ S3.out
  go_wp2_with fail
  refine (HO2.out _ _ (HXf.out _ S3.out)).mono ?_
  rintro e Y5 ⟨rfl, bz⟩
  have S4 := hid (below2 S3.out bz)
  clear bz S3 q0 q1 q2
  obtain ⟨q0, q1, q2⟩ := HGf.out _ S4.out
  go_wp2_with fail
  refine (HK1.out _ _ (HXf.out _ S4.out)).mono ?_
  rintro e Y6 ⟨rfl, bz⟩
  have S5 := hid (below2 S4.out bz)
  clear bz S4 q0 q1 q2
  obtain ⟨q0, q1, q2⟩ := HGf.out _ S5.out
  go_wp2_with fail
  refine (HK2.out _ _ (HXf.out _ S5.out)).mono ?_
  rintro e Y7 ⟨rfl, bz⟩
  have S6 := hid (below2 S5.out bz)
  clear bz S5 q0 q1 q2
  go_wp2_with fail
  refine (HK.out _).mono ?_
  rintro e Y8 ⟨rfl, bz⟩
  have S7 := hid (below2 S6.out bz)
  clear bz S6
  go_wp2_with fail
  refine (HR.out _).mono ?_
  rintro e Y9 ⟨rfl, bz⟩
  have S8 := hid (below2 S7.out bz)
  clear bz S7
  go_wp2_with fail
  go_ret
  exact Did.mk rfl (HwW.out.trans (S8.out.mono HwW.out.size))
end Go.Proofs.Ytjjmajhldpoobaa

/- The document's own answers for layer 15 (pair): Never. -/
import Derived.Test.YtnhniajfnmdnnaaDoorPaiC
namespace Go.Proofs.YtnhniajfnmdnnaaDoor
open Go.RowKit
open Whn (Gr Wh)

set_option maxRecDepth 20000 in
set_option maxHeartbeats 2000000 in
theorem nv10a1 (g : Gr) (n walk : Int) (xw : Wh) (yw : Wh)  (hx : Wok (⟨xw, (-2)⟩ : Sp).w) (hy : Wok (⟨yw, (-1)⟩ : Sp).w) (w : World) : Calls Tryd.prog 16 #[gv g, .int .i64 10, .int .i64 n, spv (⟨xw, (-2)⟩ : Sp), spv (⟨yw, (-1)⟩ : Sp), .int .i64 walk] w (Did (.bool (prN g 10 n (⟨xw, (-2)⟩ : Sp) (⟨yw, (-1)⟩ : Sp) walk)) w) := by
  have HK := hid (fun X => r_Known 10 X)
  have HRo := hid (fun X => r_rooms 10 X)
  have HH := hid (fun m X => r_Holds g 10 n (⟨xw, (-2)⟩ : Sp) (⟨yw, (-1)⟩ : Sp) m hx hy X)
  rw [show knB 10 = true from rfl] at HK
  rw [show roB 10 = true from rfl] at HRo
  have Hr := hid (show prN g 10 n (⟨xw, (-2)⟩ : Sp) (⟨yw, (-1)⟩ : Sp) walk = !(prH g 10 n (⟨xw, (-2)⟩ : Sp) (⟨yw, (-1)⟩ : Sp) walk) by show ((plB (⟨xw, (-2)⟩ : Sp) (⟨yw, (-1)⟩ : Sp) || (decide ((⟨xw, (-2)⟩ : Sp).r = -1) || decide ((⟨yw, (-1)⟩ : Sp).r = -1))) && !(prH g 10 n (⟨xw, (-2)⟩ : Sp) (⟨yw, (-1)⟩ : Sp) walk)) = _; unfold plB; simp)
  generalize prN g 10 n (⟨xw, (-2)⟩ : Sp) (⟨yw, (-1)⟩ : Sp) walk = q at *
  obtain ⟨P, W, hP, hW, K, hb0⟩ := (Mem.nil w).one (gc g) 23
  obtain ⟨Q, V, hQ, hV, K1, hb1⟩ := K.out.one (spc (⟨xw, (-2)⟩ : Sp)) 29
  obtain ⟨R, U, hR, hU, K2, hb2⟩ := K1.out.one (spc (⟨yw, (-1)⟩ : Sp)) 29
  clear K K1 hb0 hb1 hb2
  obtain ⟨g0, g1, g2⟩ := K2.out.gr (B := P) (g := g) (by simp)
  obtain ⟨c0, c1, c2, c3, c4⟩ := K2.out.sp (B := Q) (x := (⟨xw, (-2)⟩ : Sp)) (by simp)
  obtain ⟨d0, d1, d2, d3, d4⟩ := K2.out.sp (B := R) (x := (⟨yw, (-1)⟩ : Sp)) (by simp)
  go_enter Tryd.func16, Tryd.ntmps16
  go_wp2_with fail
  refine (HK.out _).mono ?_
  rintro e w1 ⟨rfl, rfl⟩
  go_wp2_with fail
  refine (HRo.out _).mono ?_
  rintro e w2 ⟨rfl, rfl⟩
  go_wp2_with fail
  refine (HH.out walk _).mono ?_
  rintro e Y3 ⟨rfl, bz⟩
  have K3 := hid (K2.out.next bz)
  clear g0 g1 g2 c0 c1 c2 c3 c4 d0 d1 d2 d3 d4 bz
  go_wp2_with fail
  go_ret
  exact Did.mk (by rw [Hr.out]; rfl) K3.out.2
set_option maxRecDepth 20000 in
set_option maxHeartbeats 2000000 in
theorem nv10a2 (g : Gr) (n walk : Int) (xw : Wh) (yw : Wh) (yr : Int)  (h3 : ¬ yr = -1) (hx : Wok (⟨xw, (-2)⟩ : Sp).w) (hy : Wok (⟨yw, yr⟩ : Sp).w) (w : World) : Calls Tryd.prog 16 #[gv g, .int .i64 10, .int .i64 n, spv (⟨xw, (-2)⟩ : Sp), spv (⟨yw, yr⟩ : Sp), .int .i64 walk] w (Did (.bool (prN g 10 n (⟨xw, (-2)⟩ : Sp) (⟨yw, yr⟩ : Sp) walk)) w) := by
  have HK := hid (fun X => r_Known 10 X)
  have HRo := hid (fun X => r_rooms 10 X)
  have HH := hid (fun m X => r_Holds g 10 n (⟨xw, (-2)⟩ : Sp) (⟨yw, yr⟩ : Sp) m hx hy X)
  rw [show knB 10 = true from rfl] at HK
  rw [show roB 10 = true from rfl] at HRo
  have Hr := hid (show prN g 10 n (⟨xw, (-2)⟩ : Sp) (⟨yw, yr⟩ : Sp) walk = false by show ((plB (⟨xw, (-2)⟩ : Sp) (⟨yw, yr⟩ : Sp) || (decide ((⟨xw, (-2)⟩ : Sp).r = -1) || decide ((⟨yw, yr⟩ : Sp).r = -1))) && !(prH g 10 n (⟨xw, (-2)⟩ : Sp) (⟨yw, yr⟩ : Sp) walk)) = _; unfold plB; simp [h3])
  generalize prN g 10 n (⟨xw, (-2)⟩ : Sp) (⟨yw, yr⟩ : Sp) walk = q at *
  have p3 := eq_no h3
  obtain ⟨P, W, hP, hW, K, hb0⟩ := (Mem.nil w).one (gc g) 23
  obtain ⟨Q, V, hQ, hV, K1, hb1⟩ := K.out.one (spc (⟨xw, (-2)⟩ : Sp)) 29
  obtain ⟨R, U, hR, hU, K2, hb2⟩ := K1.out.one (spc (⟨yw, yr⟩ : Sp)) 29
  clear K K1 hb0 hb1 hb2
  obtain ⟨g0, g1, g2⟩ := K2.out.gr (B := P) (g := g) (by simp)
  obtain ⟨c0, c1, c2, c3, c4⟩ := K2.out.sp (B := Q) (x := (⟨xw, (-2)⟩ : Sp)) (by simp)
  obtain ⟨d0, d1, d2, d3, d4⟩ := K2.out.sp (B := R) (x := (⟨yw, yr⟩ : Sp)) (by simp)
  go_enter Tryd.func16, Tryd.ntmps16
  go_wp2_with fail
  refine (HK.out _).mono ?_
  rintro e w1 ⟨rfl, rfl⟩
  go_wp2_with fail
  refine (HRo.out _).mono ?_
  rintro e w2 ⟨rfl, rfl⟩
  go_wp2_with fail
  go_ret
  exact Did.mk (by rw [Hr.out]; rfl) K2.out.2
set_option maxRecDepth 20000 in
set_option maxHeartbeats 2000000 in
theorem nv10b1 (g : Gr) (n walk : Int) (xw : Wh) (yw : Wh)  (hx : Wok (⟨xw, (-1)⟩ : Sp).w) (hy : Wok (⟨yw, (-2)⟩ : Sp).w) (w : World) : Calls Tryd.prog 16 #[gv g, .int .i64 10, .int .i64 n, spv (⟨xw, (-1)⟩ : Sp), spv (⟨yw, (-2)⟩ : Sp), .int .i64 walk] w (Did (.bool (prN g 10 n (⟨xw, (-1)⟩ : Sp) (⟨yw, (-2)⟩ : Sp) walk)) w) := by
  have HK := hid (fun X => r_Known 10 X)
  have HRo := hid (fun X => r_rooms 10 X)
  have HH := hid (fun m X => r_Holds g 10 n (⟨xw, (-1)⟩ : Sp) (⟨yw, (-2)⟩ : Sp) m hx hy X)
  rw [show knB 10 = true from rfl] at HK
  rw [show roB 10 = true from rfl] at HRo
  have Hr := hid (show prN g 10 n (⟨xw, (-1)⟩ : Sp) (⟨yw, (-2)⟩ : Sp) walk = !(prH g 10 n (⟨xw, (-1)⟩ : Sp) (⟨yw, (-2)⟩ : Sp) walk) by show ((plB (⟨xw, (-1)⟩ : Sp) (⟨yw, (-2)⟩ : Sp) || (decide ((⟨xw, (-1)⟩ : Sp).r = -1) || decide ((⟨yw, (-2)⟩ : Sp).r = -1))) && !(prH g 10 n (⟨xw, (-1)⟩ : Sp) (⟨yw, (-2)⟩ : Sp) walk)) = _; unfold plB; simp)
  generalize prN g 10 n (⟨xw, (-1)⟩ : Sp) (⟨yw, (-2)⟩ : Sp) walk = q at *
  obtain ⟨P, W, hP, hW, K, hb0⟩ := (Mem.nil w).one (gc g) 23
  obtain ⟨Q, V, hQ, hV, K1, hb1⟩ := K.out.one (spc (⟨xw, (-1)⟩ : Sp)) 29
  obtain ⟨R, U, hR, hU, K2, hb2⟩ := K1.out.one (spc (⟨yw, (-2)⟩ : Sp)) 29
  clear K K1 hb0 hb1 hb2
  obtain ⟨g0, g1, g2⟩ := K2.out.gr (B := P) (g := g) (by simp)
  obtain ⟨c0, c1, c2, c3, c4⟩ := K2.out.sp (B := Q) (x := (⟨xw, (-1)⟩ : Sp)) (by simp)
  obtain ⟨d0, d1, d2, d3, d4⟩ := K2.out.sp (B := R) (x := (⟨yw, (-2)⟩ : Sp)) (by simp)
  go_enter Tryd.func16, Tryd.ntmps16
  go_wp2_with fail
  refine (HK.out _).mono ?_
  rintro e w1 ⟨rfl, rfl⟩
  go_wp2_with fail
  refine (HRo.out _).mono ?_
  rintro e w2 ⟨rfl, rfl⟩
  go_wp2_with fail
  refine (HH.out walk _).mono ?_
  rintro e Y3 ⟨rfl, bz⟩
  have K3 := hid (K2.out.next bz)
  clear g0 g1 g2 c0 c1 c2 c3 c4 d0 d1 d2 d3 d4 bz
  go_wp2_with fail
  go_ret
  exact Did.mk (by rw [Hr.out]; rfl) K3.out.2
set_option maxRecDepth 20000 in
set_option maxHeartbeats 2000000 in
theorem nv10b2 (g : Gr) (n walk : Int) (xw : Wh) (yw : Wh) (xr : Int)  (h1 : ¬ xr = -2) (h3 : ¬ xr = -1) (hx : Wok (⟨xw, xr⟩ : Sp).w) (hy : Wok (⟨yw, (-2)⟩ : Sp).w) (w : World) : Calls Tryd.prog 16 #[gv g, .int .i64 10, .int .i64 n, spv (⟨xw, xr⟩ : Sp), spv (⟨yw, (-2)⟩ : Sp), .int .i64 walk] w (Did (.bool (prN g 10 n (⟨xw, xr⟩ : Sp) (⟨yw, (-2)⟩ : Sp) walk)) w) := by
  have HK := hid (fun X => r_Known 10 X)
  have HRo := hid (fun X => r_rooms 10 X)
  have HH := hid (fun m X => r_Holds g 10 n (⟨xw, xr⟩ : Sp) (⟨yw, (-2)⟩ : Sp) m hx hy X)
  rw [show knB 10 = true from rfl] at HK
  rw [show roB 10 = true from rfl] at HRo
  have Hr := hid (show prN g 10 n (⟨xw, xr⟩ : Sp) (⟨yw, (-2)⟩ : Sp) walk = false by show ((plB (⟨xw, xr⟩ : Sp) (⟨yw, (-2)⟩ : Sp) || (decide ((⟨xw, xr⟩ : Sp).r = -1) || decide ((⟨yw, (-2)⟩ : Sp).r = -1))) && !(prH g 10 n (⟨xw, xr⟩ : Sp) (⟨yw, (-2)⟩ : Sp) walk)) = _; unfold plB; simp [h3])
  generalize prN g 10 n (⟨xw, xr⟩ : Sp) (⟨yw, (-2)⟩ : Sp) walk = q at *
  have p1 := ne_no h1
  have p1c := eq_no h1
  have p3 := eq_no h3
  obtain ⟨P, W, hP, hW, K, hb0⟩ := (Mem.nil w).one (gc g) 23
  obtain ⟨Q, V, hQ, hV, K1, hb1⟩ := K.out.one (spc (⟨xw, xr⟩ : Sp)) 29
  obtain ⟨R, U, hR, hU, K2, hb2⟩ := K1.out.one (spc (⟨yw, (-2)⟩ : Sp)) 29
  clear K K1 hb0 hb1 hb2
  obtain ⟨g0, g1, g2⟩ := K2.out.gr (B := P) (g := g) (by simp)
  obtain ⟨c0, c1, c2, c3, c4⟩ := K2.out.sp (B := Q) (x := (⟨xw, xr⟩ : Sp)) (by simp)
  obtain ⟨d0, d1, d2, d3, d4⟩ := K2.out.sp (B := R) (x := (⟨yw, (-2)⟩ : Sp)) (by simp)
  go_enter Tryd.func16, Tryd.ntmps16
  go_wp2_with fail
  refine (HK.out _).mono ?_
  rintro e w1 ⟨rfl, rfl⟩
  go_wp2_with fail
  refine (HRo.out _).mono ?_
  rintro e w2 ⟨rfl, rfl⟩
  go_wp2_with fail
  go_ret
  exact Did.mk (by rw [Hr.out]; rfl) K2.out.2
set_option maxRecDepth 20000 in
set_option maxHeartbeats 2000000 in
theorem nv10c (g : Gr) (n walk : Int) (xw : Wh) (yw : Wh) (xr : Int) (yr : Int)  (h1 : ¬ xr = -2) (h2 : ¬ yr = -2) (hx : Wok (⟨xw, xr⟩ : Sp).w) (hy : Wok (⟨yw, yr⟩ : Sp).w) (w : World) : Calls Tryd.prog 16 #[gv g, .int .i64 10, .int .i64 n, spv (⟨xw, xr⟩ : Sp), spv (⟨yw, yr⟩ : Sp), .int .i64 walk] w (Did (.bool (prN g 10 n (⟨xw, xr⟩ : Sp) (⟨yw, yr⟩ : Sp) walk)) w) := by
  have HK := hid (fun X => r_Known 10 X)
  have HRo := hid (fun X => r_rooms 10 X)
  have HH := hid (fun m X => r_Holds g 10 n (⟨xw, xr⟩ : Sp) (⟨yw, yr⟩ : Sp) m hx hy X)
  rw [show knB 10 = true from rfl] at HK
  rw [show roB 10 = true from rfl] at HRo
  have Hr := hid (show prN g 10 n (⟨xw, xr⟩ : Sp) (⟨yw, yr⟩ : Sp) walk = !(prH g 10 n (⟨xw, xr⟩ : Sp) (⟨yw, yr⟩ : Sp) walk) by show ((plB (⟨xw, xr⟩ : Sp) (⟨yw, yr⟩ : Sp) || (decide ((⟨xw, xr⟩ : Sp).r = -1) || decide ((⟨yw, yr⟩ : Sp).r = -1))) && !(prH g 10 n (⟨xw, xr⟩ : Sp) (⟨yw, yr⟩ : Sp) walk)) = _; unfold plB; simp [h1, h2])
  generalize prN g 10 n (⟨xw, xr⟩ : Sp) (⟨yw, yr⟩ : Sp) walk = q at *
  have p1 := ne_no h1
  have p1c := eq_no h1
  have p2 := ne_no h2
  obtain ⟨P, W, hP, hW, K, hb0⟩ := (Mem.nil w).one (gc g) 23
  obtain ⟨Q, V, hQ, hV, K1, hb1⟩ := K.out.one (spc (⟨xw, xr⟩ : Sp)) 29
  obtain ⟨R, U, hR, hU, K2, hb2⟩ := K1.out.one (spc (⟨yw, yr⟩ : Sp)) 29
  clear K K1 hb0 hb1 hb2
  obtain ⟨g0, g1, g2⟩ := K2.out.gr (B := P) (g := g) (by simp)
  obtain ⟨c0, c1, c2, c3, c4⟩ := K2.out.sp (B := Q) (x := (⟨xw, xr⟩ : Sp)) (by simp)
  obtain ⟨d0, d1, d2, d3, d4⟩ := K2.out.sp (B := R) (x := (⟨yw, yr⟩ : Sp)) (by simp)
  go_enter Tryd.func16, Tryd.ntmps16
  go_wp2_with fail
  refine (HK.out _).mono ?_
  rintro e w1 ⟨rfl, rfl⟩
  go_wp2_with fail
  refine (HRo.out _).mono ?_
  rintro e w2 ⟨rfl, rfl⟩
  go_wp2_with fail
  refine (HH.out walk _).mono ?_
  rintro e Y3 ⟨rfl, bz⟩
  have K3 := hid (K2.out.next bz)
  clear g0 g1 g2 c0 c1 c2 c3 c4 d0 d1 d2 d3 d4 bz
  go_wp2_with fail
  go_ret
  exact Did.mk (by rw [Hr.out]; rfl) K3.out.2
set_option maxRecDepth 20000 in
set_option maxHeartbeats 2000000 in
theorem nv11a (g : Gr) (n walk : Int) (xw : Wh) (yw : Wh) (yr : Int)  (hx : Wok (⟨xw, (-2)⟩ : Sp).w) (hy : Wok (⟨yw, yr⟩ : Sp).w) (w : World) : Calls Tryd.prog 16 #[gv g, .int .i64 11, .int .i64 n, spv (⟨xw, (-2)⟩ : Sp), spv (⟨yw, yr⟩ : Sp), .int .i64 walk] w (Did (.bool (prN g 11 n (⟨xw, (-2)⟩ : Sp) (⟨yw, yr⟩ : Sp) walk)) w) := by
  have HK := hid (fun X => r_Known 11 X)
  have HRo := hid (fun X => r_rooms 11 X)
  have HH := hid (fun m X => r_Holds g 11 n (⟨xw, (-2)⟩ : Sp) (⟨yw, yr⟩ : Sp) m hx hy X)
  rw [show knB 11 = true from rfl] at HK
  rw [show roB 11 = true from rfl] at HRo
  have Hr := hid (show prN g 11 n (⟨xw, (-2)⟩ : Sp) (⟨yw, yr⟩ : Sp) walk = false by show (plB (⟨xw, (-2)⟩ : Sp) (⟨yw, yr⟩ : Sp) && !(prH g 11 n (⟨xw, (-2)⟩ : Sp) (⟨yw, yr⟩ : Sp) walk)) = _; unfold plB; simp)
  generalize prN g 11 n (⟨xw, (-2)⟩ : Sp) (⟨yw, yr⟩ : Sp) walk = q at *
  obtain ⟨P, W, hP, hW, K, hb0⟩ := (Mem.nil w).one (gc g) 23
  obtain ⟨Q, V, hQ, hV, K1, hb1⟩ := K.out.one (spc (⟨xw, (-2)⟩ : Sp)) 29
  obtain ⟨R, U, hR, hU, K2, hb2⟩ := K1.out.one (spc (⟨yw, yr⟩ : Sp)) 29
  clear K K1 hb0 hb1 hb2
  obtain ⟨g0, g1, g2⟩ := K2.out.gr (B := P) (g := g) (by simp)
  obtain ⟨c0, c1, c2, c3, c4⟩ := K2.out.sp (B := Q) (x := (⟨xw, (-2)⟩ : Sp)) (by simp)
  obtain ⟨d0, d1, d2, d3, d4⟩ := K2.out.sp (B := R) (x := (⟨yw, yr⟩ : Sp)) (by simp)
  go_enter Tryd.func16, Tryd.ntmps16
  go_wp2_with fail
  refine (HK.out _).mono ?_
  rintro e w1 ⟨rfl, rfl⟩
  go_wp2_with fail
  refine (HRo.out _).mono ?_
  rintro e w2 ⟨rfl, rfl⟩
  go_wp2_with fail
  go_ret
  exact Did.mk (by rw [Hr.out]; rfl) K2.out.2
set_option maxRecDepth 20000 in
set_option maxHeartbeats 2000000 in
theorem nv11b (g : Gr) (n walk : Int) (xw : Wh) (yw : Wh) (xr : Int)  (h1 : ¬ xr = -2) (hx : Wok (⟨xw, xr⟩ : Sp).w) (hy : Wok (⟨yw, (-2)⟩ : Sp).w) (w : World) : Calls Tryd.prog 16 #[gv g, .int .i64 11, .int .i64 n, spv (⟨xw, xr⟩ : Sp), spv (⟨yw, (-2)⟩ : Sp), .int .i64 walk] w (Did (.bool (prN g 11 n (⟨xw, xr⟩ : Sp) (⟨yw, (-2)⟩ : Sp) walk)) w) := by
  have HK := hid (fun X => r_Known 11 X)
  have HRo := hid (fun X => r_rooms 11 X)
  have HH := hid (fun m X => r_Holds g 11 n (⟨xw, xr⟩ : Sp) (⟨yw, (-2)⟩ : Sp) m hx hy X)
  rw [show knB 11 = true from rfl] at HK
  rw [show roB 11 = true from rfl] at HRo
  have Hr := hid (show prN g 11 n (⟨xw, xr⟩ : Sp) (⟨yw, (-2)⟩ : Sp) walk = false by show (plB (⟨xw, xr⟩ : Sp) (⟨yw, (-2)⟩ : Sp) && !(prH g 11 n (⟨xw, xr⟩ : Sp) (⟨yw, (-2)⟩ : Sp) walk)) = _; unfold plB; simp)
  generalize prN g 11 n (⟨xw, xr⟩ : Sp) (⟨yw, (-2)⟩ : Sp) walk = q at *
  have p1 := ne_no h1
  obtain ⟨P, W, hP, hW, K, hb0⟩ := (Mem.nil w).one (gc g) 23
  obtain ⟨Q, V, hQ, hV, K1, hb1⟩ := K.out.one (spc (⟨xw, xr⟩ : Sp)) 29
  obtain ⟨R, U, hR, hU, K2, hb2⟩ := K1.out.one (spc (⟨yw, (-2)⟩ : Sp)) 29
  clear K K1 hb0 hb1 hb2
  obtain ⟨g0, g1, g2⟩ := K2.out.gr (B := P) (g := g) (by simp)
  obtain ⟨c0, c1, c2, c3, c4⟩ := K2.out.sp (B := Q) (x := (⟨xw, xr⟩ : Sp)) (by simp)
  obtain ⟨d0, d1, d2, d3, d4⟩ := K2.out.sp (B := R) (x := (⟨yw, (-2)⟩ : Sp)) (by simp)
  go_enter Tryd.func16, Tryd.ntmps16
  go_wp2_with fail
  refine (HK.out _).mono ?_
  rintro e w1 ⟨rfl, rfl⟩
  go_wp2_with fail
  refine (HRo.out _).mono ?_
  rintro e w2 ⟨rfl, rfl⟩
  go_wp2_with fail
  go_ret
  exact Did.mk (by rw [Hr.out]; rfl) K2.out.2
set_option maxRecDepth 20000 in
set_option maxHeartbeats 2000000 in
theorem nv11c (g : Gr) (n walk : Int) (xw : Wh) (yw : Wh) (xr : Int) (yr : Int)  (h1 : ¬ xr = -2) (h2 : ¬ yr = -2) (hx : Wok (⟨xw, xr⟩ : Sp).w) (hy : Wok (⟨yw, yr⟩ : Sp).w) (w : World) : Calls Tryd.prog 16 #[gv g, .int .i64 11, .int .i64 n, spv (⟨xw, xr⟩ : Sp), spv (⟨yw, yr⟩ : Sp), .int .i64 walk] w (Did (.bool (prN g 11 n (⟨xw, xr⟩ : Sp) (⟨yw, yr⟩ : Sp) walk)) w) := by
  have HK := hid (fun X => r_Known 11 X)
  have HRo := hid (fun X => r_rooms 11 X)
  have HH := hid (fun m X => r_Holds g 11 n (⟨xw, xr⟩ : Sp) (⟨yw, yr⟩ : Sp) m hx hy X)
  rw [show knB 11 = true from rfl] at HK
  rw [show roB 11 = true from rfl] at HRo
  have Hr := hid (show prN g 11 n (⟨xw, xr⟩ : Sp) (⟨yw, yr⟩ : Sp) walk = !(prH g 11 n (⟨xw, xr⟩ : Sp) (⟨yw, yr⟩ : Sp) walk) by show (plB (⟨xw, xr⟩ : Sp) (⟨yw, yr⟩ : Sp) && !(prH g 11 n (⟨xw, xr⟩ : Sp) (⟨yw, yr⟩ : Sp) walk)) = _; unfold plB; simp [h1, h2])
  generalize prN g 11 n (⟨xw, xr⟩ : Sp) (⟨yw, yr⟩ : Sp) walk = q at *
  have p1 := ne_no h1
  have p2 := ne_no h2
  obtain ⟨P, W, hP, hW, K, hb0⟩ := (Mem.nil w).one (gc g) 23
  obtain ⟨Q, V, hQ, hV, K1, hb1⟩ := K.out.one (spc (⟨xw, xr⟩ : Sp)) 29
  obtain ⟨R, U, hR, hU, K2, hb2⟩ := K1.out.one (spc (⟨yw, yr⟩ : Sp)) 29
  clear K K1 hb0 hb1 hb2
  obtain ⟨g0, g1, g2⟩ := K2.out.gr (B := P) (g := g) (by simp)
  obtain ⟨c0, c1, c2, c3, c4⟩ := K2.out.sp (B := Q) (x := (⟨xw, xr⟩ : Sp)) (by simp)
  obtain ⟨d0, d1, d2, d3, d4⟩ := K2.out.sp (B := R) (x := (⟨yw, yr⟩ : Sp)) (by simp)
  go_enter Tryd.func16, Tryd.ntmps16
  go_wp2_with fail
  refine (HK.out _).mono ?_
  rintro e w1 ⟨rfl, rfl⟩
  go_wp2_with fail
  refine (HRo.out _).mono ?_
  rintro e w2 ⟨rfl, rfl⟩
  go_wp2_with fail
  refine (HH.out walk _).mono ?_
  rintro e Y3 ⟨rfl, bz⟩
  have K3 := hid (K2.out.next bz)
  clear g0 g1 g2 c0 c1 c2 c3 c4 d0 d1 d2 d3 d4 bz
  go_wp2_with fail
  go_ret
  exact Did.mk (by rw [Hr.out]; rfl) K3.out.2
set_option maxRecDepth 20000 in
set_option maxHeartbeats 2000000 in
theorem nv14ax (g : Gr) (n walk : Int) (xd : Nat) (xs xl : Int) (yw : Wh) (yr : Int)  (hx : Wok (⟨⟨0, xd, xs, xl⟩, (-2)⟩ : Sp).w) (hy : Wok (⟨yw, yr⟩ : Sp).w) (w : World) : Calls Tryd.prog 16 #[gv g, .int .i64 14, .int .i64 n, spv (⟨⟨0, xd, xs, xl⟩, (-2)⟩ : Sp), spv (⟨yw, yr⟩ : Sp), .int .i64 walk] w (Did (.bool (prN g 14 n (⟨⟨0, xd, xs, xl⟩, (-2)⟩ : Sp) (⟨yw, yr⟩ : Sp) walk)) w) := by
  have HK := hid (fun X => r_Known 14 X)
  have HRo := hid (fun X => r_rooms 14 X)
  have HH := hid (fun m X => r_Holds g 14 n (⟨⟨0, xd, xs, xl⟩, (-2)⟩ : Sp) (⟨yw, yr⟩ : Sp) m hx hy X)
  rw [show knB 14 = true from rfl] at HK
  rw [show roB 14 = false from rfl] at HRo
  have Hr := hid (show prN g 14 n (⟨⟨0, xd, xs, xl⟩, (-2)⟩ : Sp) (⟨yw, yr⟩ : Sp) walk = false by unfold prN; simp)
  generalize prN g 14 n (⟨⟨0, xd, xs, xl⟩, (-2)⟩ : Sp) (⟨yw, yr⟩ : Sp) walk = q at *
  obtain ⟨P, W, hP, hW, K, hb0⟩ := (Mem.nil w).one (gc g) 23
  obtain ⟨Q, V, hQ, hV, K1, hb1⟩ := K.out.one [.int .u32 0, .int .u8 (xd : Int), .int .i64 xs, .int .i64 xl, .int .i64 (-2)] 29
  obtain ⟨R, U, hR, hU, K2, hb2⟩ := K1.out.one (spc (⟨yw, yr⟩ : Sp)) 29
  clear K K1 hb0 hb1 hb2
  obtain ⟨g0, g1, g2⟩ := K2.out.gr (B := P) (g := g) (by simp)
  obtain ⟨c0, c1, c2, c3, c4⟩ := K2.out.sp (B := Q) (x := (⟨⟨0, xd, xs, xl⟩, (-2)⟩ : Sp)) (by simp)
  obtain ⟨d0, d1, d2, d3, d4⟩ := K2.out.sp (B := R) (x := (⟨yw, yr⟩ : Sp)) (by simp)
  go_enter Tryd.func16, Tryd.ntmps16
  go_wp2_with fail
  refine (HK.out _).mono ?_
  rintro e w1 ⟨rfl, rfl⟩
  go_wp2_with fail
  refine (HRo.out _).mono ?_
  rintro e w2 ⟨rfl, rfl⟩
  go_wp2_with fail
  go_ret
  exact Did.mk (by rw [Hr.out]; rfl) K2.out.2
set_option maxRecDepth 20000 in
set_option maxHeartbeats 2000000 in
theorem nv14ay (g : Gr) (n walk : Int) (xw : Wh) (yd : Nat) (ys yl : Int) (yr : Int)  (hxw : ¬ xw.w = 0) (hx : Wok (⟨xw, (-2)⟩ : Sp).w) (hy : Wok (⟨⟨0, yd, ys, yl⟩, yr⟩ : Sp).w) (w : World) : Calls Tryd.prog 16 #[gv g, .int .i64 14, .int .i64 n, spv (⟨xw, (-2)⟩ : Sp), spv (⟨⟨0, yd, ys, yl⟩, yr⟩ : Sp), .int .i64 walk] w (Did (.bool (prN g 14 n (⟨xw, (-2)⟩ : Sp) (⟨⟨0, yd, ys, yl⟩, yr⟩ : Sp) walk)) w) := by
  have HK := hid (fun X => r_Known 14 X)
  have HRo := hid (fun X => r_rooms 14 X)
  have HH := hid (fun m X => r_Holds g 14 n (⟨xw, (-2)⟩ : Sp) (⟨⟨0, yd, ys, yl⟩, yr⟩ : Sp) m hx hy X)
  rw [show knB 14 = true from rfl] at HK
  rw [show roB 14 = false from rfl] at HRo
  have z1 : ((xw.w : Int) == 0) = false := by rw [beq_eq_false_iff_ne]; omega
  have z1b : ((xw.w : Int) != 0) = true := by rw [bne_iff_ne]; omega
  have Hr := hid (show prN g 14 n (⟨xw, (-2)⟩ : Sp) (⟨⟨0, yd, ys, yl⟩, yr⟩ : Sp) walk = false by unfold prN; simp)
  generalize prN g 14 n (⟨xw, (-2)⟩ : Sp) (⟨⟨0, yd, ys, yl⟩, yr⟩ : Sp) walk = q at *
  obtain ⟨P, W, hP, hW, K, hb0⟩ := (Mem.nil w).one (gc g) 23
  obtain ⟨Q, V, hQ, hV, K1, hb1⟩ := K.out.one (spc (⟨xw, (-2)⟩ : Sp)) 29
  obtain ⟨R, U, hR, hU, K2, hb2⟩ := K1.out.one [.int .u32 0, .int .u8 (yd : Int), .int .i64 ys, .int .i64 yl, .int .i64 yr] 29
  clear K K1 hb0 hb1 hb2
  obtain ⟨g0, g1, g2⟩ := K2.out.gr (B := P) (g := g) (by simp)
  obtain ⟨c0, c1, c2, c3, c4⟩ := K2.out.sp (B := Q) (x := (⟨xw, (-2)⟩ : Sp)) (by simp)
  obtain ⟨d0, d1, d2, d3, d4⟩ := K2.out.sp (B := R) (x := (⟨⟨0, yd, ys, yl⟩, yr⟩ : Sp)) (by simp)
  go_enter Tryd.func16, Tryd.ntmps16
  go_wp2_with fail
  refine (HK.out _).mono ?_
  rintro e w1 ⟨rfl, rfl⟩
  go_wp2_with fail
  refine (HRo.out _).mono ?_
  rintro e w2 ⟨rfl, rfl⟩
  go_wp2_with fail
  go_ret
  exact Did.mk (by rw [Hr.out]; rfl) K2.out.2
set_option maxRecDepth 20000 in
set_option maxHeartbeats 2000000 in
theorem nv14an (g : Gr) (n walk : Int) (xw : Wh) (yw : Wh) (yr : Int)  (hxw : ¬ xw.w = 0) (hyw : ¬ yw.w = 0) (hx : Wok (⟨xw, (-2)⟩ : Sp).w) (hy : Wok (⟨yw, yr⟩ : Sp).w) (w : World) : Calls Tryd.prog 16 #[gv g, .int .i64 14, .int .i64 n, spv (⟨xw, (-2)⟩ : Sp), spv (⟨yw, yr⟩ : Sp), .int .i64 walk] w (Did (.bool (prN g 14 n (⟨xw, (-2)⟩ : Sp) (⟨yw, yr⟩ : Sp) walk)) w) := by
  have HK := hid (fun X => r_Known 14 X)
  have HRo := hid (fun X => r_rooms 14 X)
  have HH := hid (fun m X => r_Holds g 14 n (⟨xw, (-2)⟩ : Sp) (⟨yw, yr⟩ : Sp) m hx hy X)
  rw [show knB 14 = true from rfl] at HK
  rw [show roB 14 = false from rfl] at HRo
  have z1 : ((xw.w : Int) == 0) = false := by rw [beq_eq_false_iff_ne]; omega
  have z1b : ((xw.w : Int) != 0) = true := by rw [bne_iff_ne]; omega
  have z2 : ((yw.w : Int) == 0) = false := by rw [beq_eq_false_iff_ne]; omega
  have z2b : ((yw.w : Int) != 0) = true := by rw [bne_iff_ne]; omega
  have Hr := hid (show prN g 14 n (⟨xw, (-2)⟩ : Sp) (⟨yw, yr⟩ : Sp) walk = (!(prH g 14 n (⟨xw, (-2)⟩ : Sp) (⟨yw, yr⟩ : Sp) 0) || false) by show ((!decide (xw.w = 0) && !decide (yw.w = 0)) && (!(prH g 14 n (⟨xw, (-2)⟩ : Sp) (⟨yw, yr⟩ : Sp) 0) || (plB (⟨xw, (-2)⟩ : Sp) (⟨yw, yr⟩ : Sp) && !(prH g 14 n (⟨xw, (-2)⟩ : Sp) (⟨yw, yr⟩ : Sp) walk)))) = _; unfold plB; simp [hxw, hyw])
  generalize prN g 14 n (⟨xw, (-2)⟩ : Sp) (⟨yw, yr⟩ : Sp) walk = q at *
  have HHw := hid (fun X => HH.out walk X)
  have HH0 := hid (fun X => HH.out 0 X)
  obtain ⟨hw1, ehw⟩ : ∃ b, prH g 14 n (⟨xw, (-2)⟩ : Sp) (⟨yw, yr⟩ : Sp) walk = b := ⟨_, rfl⟩
  obtain ⟨h0, eh0⟩ : ∃ b, prH g 14 n (⟨xw, (-2)⟩ : Sp) (⟨yw, yr⟩ : Sp) 0 = b := ⟨_, rfl⟩
  rw [ehw] at HHw
  rw [eh0] at HH0
  rw [eh0] at Hr
  clear HH ehw eh0
  obtain ⟨P, W, hP, hW, K, hb0⟩ := (Mem.nil w).one (gc g) 23
  obtain ⟨Q, V, hQ, hV, K1, hb1⟩ := K.out.one (spc (⟨xw, (-2)⟩ : Sp)) 29
  obtain ⟨R, U, hR, hU, K2, hb2⟩ := K1.out.one (spc (⟨yw, yr⟩ : Sp)) 29
  clear K K1 hb0 hb1 hb2
  obtain ⟨g0, g1, g2⟩ := K2.out.gr (B := P) (g := g) (by simp)
  obtain ⟨c0, c1, c2, c3, c4⟩ := K2.out.sp (B := Q) (x := (⟨xw, (-2)⟩ : Sp)) (by simp)
  obtain ⟨d0, d1, d2, d3, d4⟩ := K2.out.sp (B := R) (x := (⟨yw, yr⟩ : Sp)) (by simp)
  go_enter Tryd.func16, Tryd.ntmps16
  go_wp2_with fail
  refine (HK.out _).mono ?_
  rintro e w1 ⟨rfl, rfl⟩
  go_wp2_with fail
  refine (HRo.out _).mono ?_
  rintro e w2 ⟨rfl, rfl⟩
  go_wp2_with fail
  refine (HHw.out _).mono ?_
  rintro e Y3 ⟨rfl, bz⟩
  have K3 := hid (K2.out.next bz)
  clear g0 g1 g2 c0 c1 c2 c3 c4 d0 d1 d2 d3 d4 bz hP hW hQ hV hR hU K2
  obtain ⟨g0, g1, g2⟩ := K3.out.gr (B := P) (g := g) (by simp)
  obtain ⟨c0, c1, c2, c3, c4⟩ := K3.out.sp (B := Q) (x := (⟨xw, (-2)⟩ : Sp)) (by simp)
  obtain ⟨d0, d1, d2, d3, d4⟩ := K3.out.sp (B := R) (x := (⟨yw, yr⟩ : Sp)) (by simp)
  cases hw1 with
  | true =>
    go_wp2_with fail
    refine (HH0.out _).mono ?_
    rintro e Y4 ⟨rfl, bz⟩
    have K4 := hid (K3.out.next bz)
    clear g0 g1 g2 c0 c1 c2 c3 c4 d0 d1 d2 d3 d4 bz
    go_wp2_with fail
    go_ret
    exact Did.mk (by rw [Hr.out]; cases h0 <;> rfl) K4.out.2
  | false =>
    go_wp2_with fail
    refine (HH0.out _).mono ?_
    rintro e Y4 ⟨rfl, bz⟩
    have K4 := hid (K3.out.next bz)
    clear g0 g1 g2 c0 c1 c2 c3 c4 d0 d1 d2 d3 d4 bz
    go_wp2_with fail
    go_ret
    exact Did.mk (by rw [Hr.out]; cases h0 <;> rfl) K4.out.2
set_option maxRecDepth 20000 in
set_option maxHeartbeats 2000000 in
theorem nvkax (g : Gr) (k : Int) (n walk : Int) (xd : Nat) (xs xl : Int) (yw : Wh) (yr : Int) (hk : knB k = true) (h10 : ¬ k = 10) (h11 : ¬ k = 11) (h14 : ¬ k = 14)  (hx : Wok (⟨⟨0, xd, xs, xl⟩, (-2)⟩ : Sp).w) (hy : Wok (⟨yw, yr⟩ : Sp).w) (w : World) : Calls Tryd.prog 16 #[gv g, .int .i64 k, .int .i64 n, spv (⟨⟨0, xd, xs, xl⟩, (-2)⟩ : Sp), spv (⟨yw, yr⟩ : Sp), .int .i64 walk] w (Did (.bool (prN g k n (⟨⟨0, xd, xs, xl⟩, (-2)⟩ : Sp) (⟨yw, yr⟩ : Sp) walk)) w) := by
  have HK := hid (fun X => r_Known k X)
  have HRo := hid (fun X => r_rooms k X)
  have HH := hid (fun m X => r_Holds g k n (⟨⟨0, xd, xs, xl⟩, (-2)⟩ : Sp) (⟨yw, yr⟩ : Sp) m hx hy X)
  have q10 := eq_no h10
  have q11 := eq_no h11
  have hro : roB k = false := by unfold roB; rw [decide_eq_false h10, decide_eq_false h11]; rfl
  rw [hro] at HRo
  rw [hk] at HK
  have q14 := eq_no h14
  have q14b := ne_no h14
  have Hr := hid (show prN g k n (⟨⟨0, xd, xs, xl⟩, (-2)⟩ : Sp) (⟨yw, yr⟩ : Sp) walk = false by unfold prN; rw [hk, Bool.true_and, if_neg h10, if_neg h11, if_neg h14]; simp)
  generalize prN g k n (⟨⟨0, xd, xs, xl⟩, (-2)⟩ : Sp) (⟨yw, yr⟩ : Sp) walk = q at *
  obtain ⟨P, W, hP, hW, K, hb0⟩ := (Mem.nil w).one (gc g) 23
  obtain ⟨Q, V, hQ, hV, K1, hb1⟩ := K.out.one [.int .u32 0, .int .u8 (xd : Int), .int .i64 xs, .int .i64 xl, .int .i64 (-2)] 29
  obtain ⟨R, U, hR, hU, K2, hb2⟩ := K1.out.one (spc (⟨yw, yr⟩ : Sp)) 29
  clear K K1 hb0 hb1 hb2
  obtain ⟨g0, g1, g2⟩ := K2.out.gr (B := P) (g := g) (by simp)
  obtain ⟨c0, c1, c2, c3, c4⟩ := K2.out.sp (B := Q) (x := (⟨⟨0, xd, xs, xl⟩, (-2)⟩ : Sp)) (by simp)
  obtain ⟨d0, d1, d2, d3, d4⟩ := K2.out.sp (B := R) (x := (⟨yw, yr⟩ : Sp)) (by simp)
  go_enter Tryd.func16, Tryd.ntmps16
  go_wp2_with fail
  refine (HK.out _).mono ?_
  rintro e w1 ⟨rfl, rfl⟩
  go_wp2_with fail
  refine (HRo.out _).mono ?_
  rintro e w2 ⟨rfl, rfl⟩
  go_wp2_with fail
  go_ret
  exact Did.mk (by rw [Hr.out]; rfl) K2.out.2
set_option maxRecDepth 20000 in
set_option maxHeartbeats 2000000 in
theorem nvkay (g : Gr) (k : Int) (n walk : Int) (xw : Wh) (yd : Nat) (ys yl : Int) (yr : Int) (hk : knB k = true) (h10 : ¬ k = 10) (h11 : ¬ k = 11) (h14 : ¬ k = 14)  (hxw : ¬ xw.w = 0) (hx : Wok (⟨xw, (-2)⟩ : Sp).w) (hy : Wok (⟨⟨0, yd, ys, yl⟩, yr⟩ : Sp).w) (w : World) : Calls Tryd.prog 16 #[gv g, .int .i64 k, .int .i64 n, spv (⟨xw, (-2)⟩ : Sp), spv (⟨⟨0, yd, ys, yl⟩, yr⟩ : Sp), .int .i64 walk] w (Did (.bool (prN g k n (⟨xw, (-2)⟩ : Sp) (⟨⟨0, yd, ys, yl⟩, yr⟩ : Sp) walk)) w) := by
  have HK := hid (fun X => r_Known k X)
  have HRo := hid (fun X => r_rooms k X)
  have HH := hid (fun m X => r_Holds g k n (⟨xw, (-2)⟩ : Sp) (⟨⟨0, yd, ys, yl⟩, yr⟩ : Sp) m hx hy X)
  have q10 := eq_no h10
  have q11 := eq_no h11
  have hro : roB k = false := by unfold roB; rw [decide_eq_false h10, decide_eq_false h11]; rfl
  rw [hro] at HRo
  rw [hk] at HK
  have q14 := eq_no h14
  have q14b := ne_no h14
  have z1 : ((xw.w : Int) == 0) = false := by rw [beq_eq_false_iff_ne]; omega
  have z1b : ((xw.w : Int) != 0) = true := by rw [bne_iff_ne]; omega
  have Hr := hid (show prN g k n (⟨xw, (-2)⟩ : Sp) (⟨⟨0, yd, ys, yl⟩, yr⟩ : Sp) walk = false by unfold prN; rw [hk, Bool.true_and, if_neg h10, if_neg h11, if_neg h14]; simp)
  generalize prN g k n (⟨xw, (-2)⟩ : Sp) (⟨⟨0, yd, ys, yl⟩, yr⟩ : Sp) walk = q at *
  obtain ⟨P, W, hP, hW, K, hb0⟩ := (Mem.nil w).one (gc g) 23
  obtain ⟨Q, V, hQ, hV, K1, hb1⟩ := K.out.one (spc (⟨xw, (-2)⟩ : Sp)) 29
  obtain ⟨R, U, hR, hU, K2, hb2⟩ := K1.out.one [.int .u32 0, .int .u8 (yd : Int), .int .i64 ys, .int .i64 yl, .int .i64 yr] 29
  clear K K1 hb0 hb1 hb2
  obtain ⟨g0, g1, g2⟩ := K2.out.gr (B := P) (g := g) (by simp)
  obtain ⟨c0, c1, c2, c3, c4⟩ := K2.out.sp (B := Q) (x := (⟨xw, (-2)⟩ : Sp)) (by simp)
  obtain ⟨d0, d1, d2, d3, d4⟩ := K2.out.sp (B := R) (x := (⟨⟨0, yd, ys, yl⟩, yr⟩ : Sp)) (by simp)
  go_enter Tryd.func16, Tryd.ntmps16
  go_wp2_with fail
  refine (HK.out _).mono ?_
  rintro e w1 ⟨rfl, rfl⟩
  go_wp2_with fail
  refine (HRo.out _).mono ?_
  rintro e w2 ⟨rfl, rfl⟩
  go_wp2_with fail
  go_ret
  exact Did.mk (by rw [Hr.out]; rfl) K2.out.2
set_option maxRecDepth 20000 in
set_option maxHeartbeats 2000000 in
theorem nvkan (g : Gr) (k : Int) (n walk : Int) (xw : Wh) (yw : Wh) (yr : Int) (hk : knB k = true) (h10 : ¬ k = 10) (h11 : ¬ k = 11) (h14 : ¬ k = 14)  (hxw : ¬ xw.w = 0) (hyw : ¬ yw.w = 0) (hx : Wok (⟨xw, (-2)⟩ : Sp).w) (hy : Wok (⟨yw, yr⟩ : Sp).w) (w : World) : Calls Tryd.prog 16 #[gv g, .int .i64 k, .int .i64 n, spv (⟨xw, (-2)⟩ : Sp), spv (⟨yw, yr⟩ : Sp), .int .i64 walk] w (Did (.bool (prN g k n (⟨xw, (-2)⟩ : Sp) (⟨yw, yr⟩ : Sp) walk)) w) := by
  have HK := hid (fun X => r_Known k X)
  have HRo := hid (fun X => r_rooms k X)
  have HH := hid (fun m X => r_Holds g k n (⟨xw, (-2)⟩ : Sp) (⟨yw, yr⟩ : Sp) m hx hy X)
  have q10 := eq_no h10
  have q11 := eq_no h11
  have hro : roB k = false := by unfold roB; rw [decide_eq_false h10, decide_eq_false h11]; rfl
  rw [hro] at HRo
  rw [hk] at HK
  have q14 := eq_no h14
  have q14b := ne_no h14
  have z1 : ((xw.w : Int) == 0) = false := by rw [beq_eq_false_iff_ne]; omega
  have z1b : ((xw.w : Int) != 0) = true := by rw [bne_iff_ne]; omega
  have z2 : ((yw.w : Int) == 0) = false := by rw [beq_eq_false_iff_ne]; omega
  have z2b : ((yw.w : Int) != 0) = true := by rw [bne_iff_ne]; omega
  have Hr := hid (show prN g k n (⟨xw, (-2)⟩ : Sp) (⟨yw, yr⟩ : Sp) walk = !(prH g k n (⟨xw, (-2)⟩ : Sp) (⟨yw, yr⟩ : Sp) walk) by unfold prN; rw [hk, Bool.true_and, if_neg h10, if_neg h11, if_neg h14]; simp [hxw, hyw])
  generalize prN g k n (⟨xw, (-2)⟩ : Sp) (⟨yw, yr⟩ : Sp) walk = q at *
  have HHw := hid (fun X => HH.out walk X)
  have HH0 := hid (fun X => HH.out 0 X)
  obtain ⟨hw1, ehw⟩ : ∃ b, prH g k n (⟨xw, (-2)⟩ : Sp) (⟨yw, yr⟩ : Sp) walk = b := ⟨_, rfl⟩
  obtain ⟨h0, eh0⟩ : ∃ b, prH g k n (⟨xw, (-2)⟩ : Sp) (⟨yw, yr⟩ : Sp) 0 = b := ⟨_, rfl⟩
  rw [ehw] at HHw
  rw [eh0] at HH0
  rw [ehw] at Hr
  clear HH ehw eh0
  obtain ⟨P, W, hP, hW, K, hb0⟩ := (Mem.nil w).one (gc g) 23
  obtain ⟨Q, V, hQ, hV, K1, hb1⟩ := K.out.one (spc (⟨xw, (-2)⟩ : Sp)) 29
  obtain ⟨R, U, hR, hU, K2, hb2⟩ := K1.out.one (spc (⟨yw, yr⟩ : Sp)) 29
  clear K K1 hb0 hb1 hb2
  obtain ⟨g0, g1, g2⟩ := K2.out.gr (B := P) (g := g) (by simp)
  obtain ⟨c0, c1, c2, c3, c4⟩ := K2.out.sp (B := Q) (x := (⟨xw, (-2)⟩ : Sp)) (by simp)
  obtain ⟨d0, d1, d2, d3, d4⟩ := K2.out.sp (B := R) (x := (⟨yw, yr⟩ : Sp)) (by simp)
  go_enter Tryd.func16, Tryd.ntmps16
  go_wp2_with fail
  refine (HK.out _).mono ?_
  rintro e w1 ⟨rfl, rfl⟩
  go_wp2_with fail
  refine (HRo.out _).mono ?_
  rintro e w2 ⟨rfl, rfl⟩
  go_wp2_with fail
  refine (HHw.out _).mono ?_
  rintro e Y3 ⟨rfl, bz⟩
  have K3 := hid (K2.out.next bz)
  clear g0 g1 g2 c0 c1 c2 c3 c4 d0 d1 d2 d3 d4 bz hP hW hQ hV hR hU K2
  obtain ⟨g0, g1, g2⟩ := K3.out.gr (B := P) (g := g) (by simp)
  obtain ⟨c0, c1, c2, c3, c4⟩ := K3.out.sp (B := Q) (x := (⟨xw, (-2)⟩ : Sp)) (by simp)
  obtain ⟨d0, d1, d2, d3, d4⟩ := K3.out.sp (B := R) (x := (⟨yw, yr⟩ : Sp)) (by simp)
  cases hw1 with
  | true =>
    go_wp2_with fail
    go_ret
    exact Did.mk (by rw [Hr.out]; first | rfl | (cases h0 <;> rfl)) K3.out.2
  | false =>
    go_wp2_with fail
    go_ret
    exact Did.mk (by rw [Hr.out]; first | rfl | (cases h0 <;> rfl)) K3.out.2
set_option maxRecDepth 20000 in
set_option maxHeartbeats 2000000 in
theorem nv14bx (g : Gr) (n walk : Int) (xd : Nat) (xs xl : Int) (yw : Wh) (xr : Int)  (h1 : ¬ xr = -2) (hx : Wok (⟨⟨0, xd, xs, xl⟩, xr⟩ : Sp).w) (hy : Wok (⟨yw, (-2)⟩ : Sp).w) (w : World) : Calls Tryd.prog 16 #[gv g, .int .i64 14, .int .i64 n, spv (⟨⟨0, xd, xs, xl⟩, xr⟩ : Sp), spv (⟨yw, (-2)⟩ : Sp), .int .i64 walk] w (Did (.bool (prN g 14 n (⟨⟨0, xd, xs, xl⟩, xr⟩ : Sp) (⟨yw, (-2)⟩ : Sp) walk)) w) := by
  have HK := hid (fun X => r_Known 14 X)
  have HRo := hid (fun X => r_rooms 14 X)
  have HH := hid (fun m X => r_Holds g 14 n (⟨⟨0, xd, xs, xl⟩, xr⟩ : Sp) (⟨yw, (-2)⟩ : Sp) m hx hy X)
  rw [show knB 14 = true from rfl] at HK
  rw [show roB 14 = false from rfl] at HRo
  have p1 := ne_no h1
  have Hr := hid (show prN g 14 n (⟨⟨0, xd, xs, xl⟩, xr⟩ : Sp) (⟨yw, (-2)⟩ : Sp) walk = false by unfold prN; simp)
  generalize prN g 14 n (⟨⟨0, xd, xs, xl⟩, xr⟩ : Sp) (⟨yw, (-2)⟩ : Sp) walk = q at *
  obtain ⟨P, W, hP, hW, K, hb0⟩ := (Mem.nil w).one (gc g) 23
  obtain ⟨Q, V, hQ, hV, K1, hb1⟩ := K.out.one [.int .u32 0, .int .u8 (xd : Int), .int .i64 xs, .int .i64 xl, .int .i64 xr] 29
  obtain ⟨R, U, hR, hU, K2, hb2⟩ := K1.out.one (spc (⟨yw, (-2)⟩ : Sp)) 29
  clear K K1 hb0 hb1 hb2
  obtain ⟨g0, g1, g2⟩ := K2.out.gr (B := P) (g := g) (by simp)
  obtain ⟨c0, c1, c2, c3, c4⟩ := K2.out.sp (B := Q) (x := (⟨⟨0, xd, xs, xl⟩, xr⟩ : Sp)) (by simp)
  obtain ⟨d0, d1, d2, d3, d4⟩ := K2.out.sp (B := R) (x := (⟨yw, (-2)⟩ : Sp)) (by simp)
  go_enter Tryd.func16, Tryd.ntmps16
  go_wp2_with fail
  refine (HK.out _).mono ?_
  rintro e w1 ⟨rfl, rfl⟩
  go_wp2_with fail
  refine (HRo.out _).mono ?_
  rintro e w2 ⟨rfl, rfl⟩
  go_wp2_with fail
  go_ret
  exact Did.mk (by rw [Hr.out]; rfl) K2.out.2
set_option maxRecDepth 20000 in
set_option maxHeartbeats 2000000 in
theorem nv14by (g : Gr) (n walk : Int) (xw : Wh) (yd : Nat) (ys yl : Int) (xr : Int)  (h1 : ¬ xr = -2) (hxw : ¬ xw.w = 0) (hx : Wok (⟨xw, xr⟩ : Sp).w) (hy : Wok (⟨⟨0, yd, ys, yl⟩, (-2)⟩ : Sp).w) (w : World) : Calls Tryd.prog 16 #[gv g, .int .i64 14, .int .i64 n, spv (⟨xw, xr⟩ : Sp), spv (⟨⟨0, yd, ys, yl⟩, (-2)⟩ : Sp), .int .i64 walk] w (Did (.bool (prN g 14 n (⟨xw, xr⟩ : Sp) (⟨⟨0, yd, ys, yl⟩, (-2)⟩ : Sp) walk)) w) := by
  have HK := hid (fun X => r_Known 14 X)
  have HRo := hid (fun X => r_rooms 14 X)
  have HH := hid (fun m X => r_Holds g 14 n (⟨xw, xr⟩ : Sp) (⟨⟨0, yd, ys, yl⟩, (-2)⟩ : Sp) m hx hy X)
  rw [show knB 14 = true from rfl] at HK
  rw [show roB 14 = false from rfl] at HRo
  have p1 := ne_no h1
  have z1 : ((xw.w : Int) == 0) = false := by rw [beq_eq_false_iff_ne]; omega
  have z1b : ((xw.w : Int) != 0) = true := by rw [bne_iff_ne]; omega
  have Hr := hid (show prN g 14 n (⟨xw, xr⟩ : Sp) (⟨⟨0, yd, ys, yl⟩, (-2)⟩ : Sp) walk = false by unfold prN; simp)
  generalize prN g 14 n (⟨xw, xr⟩ : Sp) (⟨⟨0, yd, ys, yl⟩, (-2)⟩ : Sp) walk = q at *
  obtain ⟨P, W, hP, hW, K, hb0⟩ := (Mem.nil w).one (gc g) 23
  obtain ⟨Q, V, hQ, hV, K1, hb1⟩ := K.out.one (spc (⟨xw, xr⟩ : Sp)) 29
  obtain ⟨R, U, hR, hU, K2, hb2⟩ := K1.out.one [.int .u32 0, .int .u8 (yd : Int), .int .i64 ys, .int .i64 yl, .int .i64 (-2)] 29
  clear K K1 hb0 hb1 hb2
  obtain ⟨g0, g1, g2⟩ := K2.out.gr (B := P) (g := g) (by simp)
  obtain ⟨c0, c1, c2, c3, c4⟩ := K2.out.sp (B := Q) (x := (⟨xw, xr⟩ : Sp)) (by simp)
  obtain ⟨d0, d1, d2, d3, d4⟩ := K2.out.sp (B := R) (x := (⟨⟨0, yd, ys, yl⟩, (-2)⟩ : Sp)) (by simp)
  go_enter Tryd.func16, Tryd.ntmps16
  go_wp2_with fail
  refine (HK.out _).mono ?_
  rintro e w1 ⟨rfl, rfl⟩
  go_wp2_with fail
  refine (HRo.out _).mono ?_
  rintro e w2 ⟨rfl, rfl⟩
  go_wp2_with fail
  go_ret
  exact Did.mk (by rw [Hr.out]; rfl) K2.out.2
set_option maxRecDepth 20000 in
set_option maxHeartbeats 2000000 in
theorem nv14bn (g : Gr) (n walk : Int) (xw : Wh) (yw : Wh) (xr : Int)  (h1 : ¬ xr = -2) (hxw : ¬ xw.w = 0) (hyw : ¬ yw.w = 0) (hx : Wok (⟨xw, xr⟩ : Sp).w) (hy : Wok (⟨yw, (-2)⟩ : Sp).w) (w : World) : Calls Tryd.prog 16 #[gv g, .int .i64 14, .int .i64 n, spv (⟨xw, xr⟩ : Sp), spv (⟨yw, (-2)⟩ : Sp), .int .i64 walk] w (Did (.bool (prN g 14 n (⟨xw, xr⟩ : Sp) (⟨yw, (-2)⟩ : Sp) walk)) w) := by
  have HK := hid (fun X => r_Known 14 X)
  have HRo := hid (fun X => r_rooms 14 X)
  have HH := hid (fun m X => r_Holds g 14 n (⟨xw, xr⟩ : Sp) (⟨yw, (-2)⟩ : Sp) m hx hy X)
  rw [show knB 14 = true from rfl] at HK
  rw [show roB 14 = false from rfl] at HRo
  have p1 := ne_no h1
  have z1 : ((xw.w : Int) == 0) = false := by rw [beq_eq_false_iff_ne]; omega
  have z1b : ((xw.w : Int) != 0) = true := by rw [bne_iff_ne]; omega
  have z2 : ((yw.w : Int) == 0) = false := by rw [beq_eq_false_iff_ne]; omega
  have z2b : ((yw.w : Int) != 0) = true := by rw [bne_iff_ne]; omega
  have Hr := hid (show prN g 14 n (⟨xw, xr⟩ : Sp) (⟨yw, (-2)⟩ : Sp) walk = (!(prH g 14 n (⟨xw, xr⟩ : Sp) (⟨yw, (-2)⟩ : Sp) 0) || false) by show ((!decide (xw.w = 0) && !decide (yw.w = 0)) && (!(prH g 14 n (⟨xw, xr⟩ : Sp) (⟨yw, (-2)⟩ : Sp) 0) || (plB (⟨xw, xr⟩ : Sp) (⟨yw, (-2)⟩ : Sp) && !(prH g 14 n (⟨xw, xr⟩ : Sp) (⟨yw, (-2)⟩ : Sp) walk)))) = _; unfold plB; simp [hxw, hyw])
  generalize prN g 14 n (⟨xw, xr⟩ : Sp) (⟨yw, (-2)⟩ : Sp) walk = q at *
  have HHw := hid (fun X => HH.out walk X)
  have HH0 := hid (fun X => HH.out 0 X)
  obtain ⟨hw1, ehw⟩ : ∃ b, prH g 14 n (⟨xw, xr⟩ : Sp) (⟨yw, (-2)⟩ : Sp) walk = b := ⟨_, rfl⟩
  obtain ⟨h0, eh0⟩ : ∃ b, prH g 14 n (⟨xw, xr⟩ : Sp) (⟨yw, (-2)⟩ : Sp) 0 = b := ⟨_, rfl⟩
  rw [ehw] at HHw
  rw [eh0] at HH0
  rw [eh0] at Hr
  clear HH ehw eh0
  obtain ⟨P, W, hP, hW, K, hb0⟩ := (Mem.nil w).one (gc g) 23
  obtain ⟨Q, V, hQ, hV, K1, hb1⟩ := K.out.one (spc (⟨xw, xr⟩ : Sp)) 29
  obtain ⟨R, U, hR, hU, K2, hb2⟩ := K1.out.one (spc (⟨yw, (-2)⟩ : Sp)) 29
  clear K K1 hb0 hb1 hb2
  obtain ⟨g0, g1, g2⟩ := K2.out.gr (B := P) (g := g) (by simp)
  obtain ⟨c0, c1, c2, c3, c4⟩ := K2.out.sp (B := Q) (x := (⟨xw, xr⟩ : Sp)) (by simp)
  obtain ⟨d0, d1, d2, d3, d4⟩ := K2.out.sp (B := R) (x := (⟨yw, (-2)⟩ : Sp)) (by simp)
  go_enter Tryd.func16, Tryd.ntmps16
  go_wp2_with fail
  refine (HK.out _).mono ?_
  rintro e w1 ⟨rfl, rfl⟩
  go_wp2_with fail
  refine (HRo.out _).mono ?_
  rintro e w2 ⟨rfl, rfl⟩
  go_wp2_with fail
  refine (HHw.out _).mono ?_
  rintro e Y3 ⟨rfl, bz⟩
  have K3 := hid (K2.out.next bz)
  clear g0 g1 g2 c0 c1 c2 c3 c4 d0 d1 d2 d3 d4 bz hP hW hQ hV hR hU K2
  obtain ⟨g0, g1, g2⟩ := K3.out.gr (B := P) (g := g) (by simp)
  obtain ⟨c0, c1, c2, c3, c4⟩ := K3.out.sp (B := Q) (x := (⟨xw, xr⟩ : Sp)) (by simp)
  obtain ⟨d0, d1, d2, d3, d4⟩ := K3.out.sp (B := R) (x := (⟨yw, (-2)⟩ : Sp)) (by simp)
  cases hw1 with
  | true =>
    go_wp2_with fail
    refine (HH0.out _).mono ?_
    rintro e Y4 ⟨rfl, bz⟩
    have K4 := hid (K3.out.next bz)
    clear g0 g1 g2 c0 c1 c2 c3 c4 d0 d1 d2 d3 d4 bz
    go_wp2_with fail
    go_ret
    exact Did.mk (by rw [Hr.out]; cases h0 <;> rfl) K4.out.2
  | false =>
    go_wp2_with fail
    refine (HH0.out _).mono ?_
    rintro e Y4 ⟨rfl, bz⟩
    have K4 := hid (K3.out.next bz)
    clear g0 g1 g2 c0 c1 c2 c3 c4 d0 d1 d2 d3 d4 bz
    go_wp2_with fail
    go_ret
    exact Did.mk (by rw [Hr.out]; cases h0 <;> rfl) K4.out.2
set_option maxRecDepth 20000 in
set_option maxHeartbeats 2000000 in
theorem nvkbx (g : Gr) (k : Int) (n walk : Int) (xd : Nat) (xs xl : Int) (yw : Wh) (xr : Int) (hk : knB k = true) (h10 : ¬ k = 10) (h11 : ¬ k = 11) (h14 : ¬ k = 14)  (h1 : ¬ xr = -2) (hx : Wok (⟨⟨0, xd, xs, xl⟩, xr⟩ : Sp).w) (hy : Wok (⟨yw, (-2)⟩ : Sp).w) (w : World) : Calls Tryd.prog 16 #[gv g, .int .i64 k, .int .i64 n, spv (⟨⟨0, xd, xs, xl⟩, xr⟩ : Sp), spv (⟨yw, (-2)⟩ : Sp), .int .i64 walk] w (Did (.bool (prN g k n (⟨⟨0, xd, xs, xl⟩, xr⟩ : Sp) (⟨yw, (-2)⟩ : Sp) walk)) w) := by
  have HK := hid (fun X => r_Known k X)
  have HRo := hid (fun X => r_rooms k X)
  have HH := hid (fun m X => r_Holds g k n (⟨⟨0, xd, xs, xl⟩, xr⟩ : Sp) (⟨yw, (-2)⟩ : Sp) m hx hy X)
  have q10 := eq_no h10
  have q11 := eq_no h11
  have hro : roB k = false := by unfold roB; rw [decide_eq_false h10, decide_eq_false h11]; rfl
  rw [hro] at HRo
  rw [hk] at HK
  have q14 := eq_no h14
  have q14b := ne_no h14
  have p1 := ne_no h1
  have Hr := hid (show prN g k n (⟨⟨0, xd, xs, xl⟩, xr⟩ : Sp) (⟨yw, (-2)⟩ : Sp) walk = false by unfold prN; rw [hk, Bool.true_and, if_neg h10, if_neg h11, if_neg h14]; simp)
  generalize prN g k n (⟨⟨0, xd, xs, xl⟩, xr⟩ : Sp) (⟨yw, (-2)⟩ : Sp) walk = q at *
  obtain ⟨P, W, hP, hW, K, hb0⟩ := (Mem.nil w).one (gc g) 23
  obtain ⟨Q, V, hQ, hV, K1, hb1⟩ := K.out.one [.int .u32 0, .int .u8 (xd : Int), .int .i64 xs, .int .i64 xl, .int .i64 xr] 29
  obtain ⟨R, U, hR, hU, K2, hb2⟩ := K1.out.one (spc (⟨yw, (-2)⟩ : Sp)) 29
  clear K K1 hb0 hb1 hb2
  obtain ⟨g0, g1, g2⟩ := K2.out.gr (B := P) (g := g) (by simp)
  obtain ⟨c0, c1, c2, c3, c4⟩ := K2.out.sp (B := Q) (x := (⟨⟨0, xd, xs, xl⟩, xr⟩ : Sp)) (by simp)
  obtain ⟨d0, d1, d2, d3, d4⟩ := K2.out.sp (B := R) (x := (⟨yw, (-2)⟩ : Sp)) (by simp)
  go_enter Tryd.func16, Tryd.ntmps16
  go_wp2_with fail
  refine (HK.out _).mono ?_
  rintro e w1 ⟨rfl, rfl⟩
  go_wp2_with fail
  refine (HRo.out _).mono ?_
  rintro e w2 ⟨rfl, rfl⟩
  go_wp2_with fail
  go_ret
  exact Did.mk (by rw [Hr.out]; rfl) K2.out.2
set_option maxRecDepth 20000 in
set_option maxHeartbeats 2000000 in
theorem nvkby (g : Gr) (k : Int) (n walk : Int) (xw : Wh) (yd : Nat) (ys yl : Int) (xr : Int) (hk : knB k = true) (h10 : ¬ k = 10) (h11 : ¬ k = 11) (h14 : ¬ k = 14)  (h1 : ¬ xr = -2) (hxw : ¬ xw.w = 0) (hx : Wok (⟨xw, xr⟩ : Sp).w) (hy : Wok (⟨⟨0, yd, ys, yl⟩, (-2)⟩ : Sp).w) (w : World) : Calls Tryd.prog 16 #[gv g, .int .i64 k, .int .i64 n, spv (⟨xw, xr⟩ : Sp), spv (⟨⟨0, yd, ys, yl⟩, (-2)⟩ : Sp), .int .i64 walk] w (Did (.bool (prN g k n (⟨xw, xr⟩ : Sp) (⟨⟨0, yd, ys, yl⟩, (-2)⟩ : Sp) walk)) w) := by
  have HK := hid (fun X => r_Known k X)
  have HRo := hid (fun X => r_rooms k X)
  have HH := hid (fun m X => r_Holds g k n (⟨xw, xr⟩ : Sp) (⟨⟨0, yd, ys, yl⟩, (-2)⟩ : Sp) m hx hy X)
  have q10 := eq_no h10
  have q11 := eq_no h11
  have hro : roB k = false := by unfold roB; rw [decide_eq_false h10, decide_eq_false h11]; rfl
  rw [hro] at HRo
  rw [hk] at HK
  have q14 := eq_no h14
  have q14b := ne_no h14
  have p1 := ne_no h1
  have z1 : ((xw.w : Int) == 0) = false := by rw [beq_eq_false_iff_ne]; omega
  have z1b : ((xw.w : Int) != 0) = true := by rw [bne_iff_ne]; omega
  have Hr := hid (show prN g k n (⟨xw, xr⟩ : Sp) (⟨⟨0, yd, ys, yl⟩, (-2)⟩ : Sp) walk = false by unfold prN; rw [hk, Bool.true_and, if_neg h10, if_neg h11, if_neg h14]; simp)
  generalize prN g k n (⟨xw, xr⟩ : Sp) (⟨⟨0, yd, ys, yl⟩, (-2)⟩ : Sp) walk = q at *
  obtain ⟨P, W, hP, hW, K, hb0⟩ := (Mem.nil w).one (gc g) 23
  obtain ⟨Q, V, hQ, hV, K1, hb1⟩ := K.out.one (spc (⟨xw, xr⟩ : Sp)) 29
  obtain ⟨R, U, hR, hU, K2, hb2⟩ := K1.out.one [.int .u32 0, .int .u8 (yd : Int), .int .i64 ys, .int .i64 yl, .int .i64 (-2)] 29
  clear K K1 hb0 hb1 hb2
  obtain ⟨g0, g1, g2⟩ := K2.out.gr (B := P) (g := g) (by simp)
  obtain ⟨c0, c1, c2, c3, c4⟩ := K2.out.sp (B := Q) (x := (⟨xw, xr⟩ : Sp)) (by simp)
  obtain ⟨d0, d1, d2, d3, d4⟩ := K2.out.sp (B := R) (x := (⟨⟨0, yd, ys, yl⟩, (-2)⟩ : Sp)) (by simp)
  go_enter Tryd.func16, Tryd.ntmps16
  go_wp2_with fail
  refine (HK.out _).mono ?_
  rintro e w1 ⟨rfl, rfl⟩
  go_wp2_with fail
  refine (HRo.out _).mono ?_
  rintro e w2 ⟨rfl, rfl⟩
  go_wp2_with fail
  go_ret
  exact Did.mk (by rw [Hr.out]; rfl) K2.out.2
set_option maxRecDepth 20000 in
set_option maxHeartbeats 2000000 in
theorem nvkbn (g : Gr) (k : Int) (n walk : Int) (xw : Wh) (yw : Wh) (xr : Int) (hk : knB k = true) (h10 : ¬ k = 10) (h11 : ¬ k = 11) (h14 : ¬ k = 14)  (h1 : ¬ xr = -2) (hxw : ¬ xw.w = 0) (hyw : ¬ yw.w = 0) (hx : Wok (⟨xw, xr⟩ : Sp).w) (hy : Wok (⟨yw, (-2)⟩ : Sp).w) (w : World) : Calls Tryd.prog 16 #[gv g, .int .i64 k, .int .i64 n, spv (⟨xw, xr⟩ : Sp), spv (⟨yw, (-2)⟩ : Sp), .int .i64 walk] w (Did (.bool (prN g k n (⟨xw, xr⟩ : Sp) (⟨yw, (-2)⟩ : Sp) walk)) w) := by
  have HK := hid (fun X => r_Known k X)
  have HRo := hid (fun X => r_rooms k X)
  have HH := hid (fun m X => r_Holds g k n (⟨xw, xr⟩ : Sp) (⟨yw, (-2)⟩ : Sp) m hx hy X)
  have q10 := eq_no h10
  have q11 := eq_no h11
  have hro : roB k = false := by unfold roB; rw [decide_eq_false h10, decide_eq_false h11]; rfl
  rw [hro] at HRo
  rw [hk] at HK
  have q14 := eq_no h14
  have q14b := ne_no h14
  have p1 := ne_no h1
  have z1 : ((xw.w : Int) == 0) = false := by rw [beq_eq_false_iff_ne]; omega
  have z1b : ((xw.w : Int) != 0) = true := by rw [bne_iff_ne]; omega
  have z2 : ((yw.w : Int) == 0) = false := by rw [beq_eq_false_iff_ne]; omega
  have z2b : ((yw.w : Int) != 0) = true := by rw [bne_iff_ne]; omega
  have Hr := hid (show prN g k n (⟨xw, xr⟩ : Sp) (⟨yw, (-2)⟩ : Sp) walk = !(prH g k n (⟨xw, xr⟩ : Sp) (⟨yw, (-2)⟩ : Sp) walk) by unfold prN; rw [hk, Bool.true_and, if_neg h10, if_neg h11, if_neg h14]; simp [hxw, hyw])
  generalize prN g k n (⟨xw, xr⟩ : Sp) (⟨yw, (-2)⟩ : Sp) walk = q at *
  have HHw := hid (fun X => HH.out walk X)
  have HH0 := hid (fun X => HH.out 0 X)
  obtain ⟨hw1, ehw⟩ : ∃ b, prH g k n (⟨xw, xr⟩ : Sp) (⟨yw, (-2)⟩ : Sp) walk = b := ⟨_, rfl⟩
  obtain ⟨h0, eh0⟩ : ∃ b, prH g k n (⟨xw, xr⟩ : Sp) (⟨yw, (-2)⟩ : Sp) 0 = b := ⟨_, rfl⟩
  rw [ehw] at HHw
  rw [eh0] at HH0
  rw [ehw] at Hr
  clear HH ehw eh0
  obtain ⟨P, W, hP, hW, K, hb0⟩ := (Mem.nil w).one (gc g) 23
  obtain ⟨Q, V, hQ, hV, K1, hb1⟩ := K.out.one (spc (⟨xw, xr⟩ : Sp)) 29
  obtain ⟨R, U, hR, hU, K2, hb2⟩ := K1.out.one (spc (⟨yw, (-2)⟩ : Sp)) 29
  clear K K1 hb0 hb1 hb2
  obtain ⟨g0, g1, g2⟩ := K2.out.gr (B := P) (g := g) (by simp)
  obtain ⟨c0, c1, c2, c3, c4⟩ := K2.out.sp (B := Q) (x := (⟨xw, xr⟩ : Sp)) (by simp)
  obtain ⟨d0, d1, d2, d3, d4⟩ := K2.out.sp (B := R) (x := (⟨yw, (-2)⟩ : Sp)) (by simp)
  go_enter Tryd.func16, Tryd.ntmps16
  go_wp2_with fail
  refine (HK.out _).mono ?_
  rintro e w1 ⟨rfl, rfl⟩
  go_wp2_with fail
  refine (HRo.out _).mono ?_
  rintro e w2 ⟨rfl, rfl⟩
  go_wp2_with fail
  refine (HHw.out _).mono ?_
  rintro e Y3 ⟨rfl, bz⟩
  have K3 := hid (K2.out.next bz)
  clear g0 g1 g2 c0 c1 c2 c3 c4 d0 d1 d2 d3 d4 bz hP hW hQ hV hR hU K2
  obtain ⟨g0, g1, g2⟩ := K3.out.gr (B := P) (g := g) (by simp)
  obtain ⟨c0, c1, c2, c3, c4⟩ := K3.out.sp (B := Q) (x := (⟨xw, xr⟩ : Sp)) (by simp)
  obtain ⟨d0, d1, d2, d3, d4⟩ := K3.out.sp (B := R) (x := (⟨yw, (-2)⟩ : Sp)) (by simp)
  cases hw1 with
  | true =>
    go_wp2_with fail
    go_ret
    exact Did.mk (by rw [Hr.out]; first | rfl | (cases h0 <;> rfl)) K3.out.2
  | false =>
    go_wp2_with fail
    go_ret
    exact Did.mk (by rw [Hr.out]; first | rfl | (cases h0 <;> rfl)) K3.out.2
set_option maxRecDepth 20000 in
set_option maxHeartbeats 2000000 in
theorem nv14cx (g : Gr) (n walk : Int) (xd : Nat) (xs xl : Int) (yw : Wh) (xr : Int) (yr : Int)  (h1 : ¬ xr = -2) (h2 : ¬ yr = -2) (hx : Wok (⟨⟨0, xd, xs, xl⟩, xr⟩ : Sp).w) (hy : Wok (⟨yw, yr⟩ : Sp).w) (w : World) : Calls Tryd.prog 16 #[gv g, .int .i64 14, .int .i64 n, spv (⟨⟨0, xd, xs, xl⟩, xr⟩ : Sp), spv (⟨yw, yr⟩ : Sp), .int .i64 walk] w (Did (.bool (prN g 14 n (⟨⟨0, xd, xs, xl⟩, xr⟩ : Sp) (⟨yw, yr⟩ : Sp) walk)) w) := by
  have HK := hid (fun X => r_Known 14 X)
  have HRo := hid (fun X => r_rooms 14 X)
  have HH := hid (fun m X => r_Holds g 14 n (⟨⟨0, xd, xs, xl⟩, xr⟩ : Sp) (⟨yw, yr⟩ : Sp) m hx hy X)
  rw [show knB 14 = true from rfl] at HK
  rw [show roB 14 = false from rfl] at HRo
  have p1 := ne_no h1
  have p2 := ne_no h2
  have Hr := hid (show prN g 14 n (⟨⟨0, xd, xs, xl⟩, xr⟩ : Sp) (⟨yw, yr⟩ : Sp) walk = false by unfold prN; simp)
  generalize prN g 14 n (⟨⟨0, xd, xs, xl⟩, xr⟩ : Sp) (⟨yw, yr⟩ : Sp) walk = q at *
  obtain ⟨P, W, hP, hW, K, hb0⟩ := (Mem.nil w).one (gc g) 23
  obtain ⟨Q, V, hQ, hV, K1, hb1⟩ := K.out.one [.int .u32 0, .int .u8 (xd : Int), .int .i64 xs, .int .i64 xl, .int .i64 xr] 29
  obtain ⟨R, U, hR, hU, K2, hb2⟩ := K1.out.one (spc (⟨yw, yr⟩ : Sp)) 29
  clear K K1 hb0 hb1 hb2
  obtain ⟨g0, g1, g2⟩ := K2.out.gr (B := P) (g := g) (by simp)
  obtain ⟨c0, c1, c2, c3, c4⟩ := K2.out.sp (B := Q) (x := (⟨⟨0, xd, xs, xl⟩, xr⟩ : Sp)) (by simp)
  obtain ⟨d0, d1, d2, d3, d4⟩ := K2.out.sp (B := R) (x := (⟨yw, yr⟩ : Sp)) (by simp)
  go_enter Tryd.func16, Tryd.ntmps16
  go_wp2_with fail
  refine (HK.out _).mono ?_
  rintro e w1 ⟨rfl, rfl⟩
  go_wp2_with fail
  refine (HRo.out _).mono ?_
  rintro e w2 ⟨rfl, rfl⟩
  go_wp2_with fail
  go_ret
  exact Did.mk (by rw [Hr.out]; rfl) K2.out.2
set_option maxRecDepth 20000 in
set_option maxHeartbeats 2000000 in
theorem nv14cy (g : Gr) (n walk : Int) (xw : Wh) (yd : Nat) (ys yl : Int) (xr : Int) (yr : Int)  (h1 : ¬ xr = -2) (h2 : ¬ yr = -2) (hxw : ¬ xw.w = 0) (hx : Wok (⟨xw, xr⟩ : Sp).w) (hy : Wok (⟨⟨0, yd, ys, yl⟩, yr⟩ : Sp).w) (w : World) : Calls Tryd.prog 16 #[gv g, .int .i64 14, .int .i64 n, spv (⟨xw, xr⟩ : Sp), spv (⟨⟨0, yd, ys, yl⟩, yr⟩ : Sp), .int .i64 walk] w (Did (.bool (prN g 14 n (⟨xw, xr⟩ : Sp) (⟨⟨0, yd, ys, yl⟩, yr⟩ : Sp) walk)) w) := by
  have HK := hid (fun X => r_Known 14 X)
  have HRo := hid (fun X => r_rooms 14 X)
  have HH := hid (fun m X => r_Holds g 14 n (⟨xw, xr⟩ : Sp) (⟨⟨0, yd, ys, yl⟩, yr⟩ : Sp) m hx hy X)
  rw [show knB 14 = true from rfl] at HK
  rw [show roB 14 = false from rfl] at HRo
  have p1 := ne_no h1
  have p2 := ne_no h2
  have z1 : ((xw.w : Int) == 0) = false := by rw [beq_eq_false_iff_ne]; omega
  have z1b : ((xw.w : Int) != 0) = true := by rw [bne_iff_ne]; omega
  have Hr := hid (show prN g 14 n (⟨xw, xr⟩ : Sp) (⟨⟨0, yd, ys, yl⟩, yr⟩ : Sp) walk = false by unfold prN; simp)
  generalize prN g 14 n (⟨xw, xr⟩ : Sp) (⟨⟨0, yd, ys, yl⟩, yr⟩ : Sp) walk = q at *
  obtain ⟨P, W, hP, hW, K, hb0⟩ := (Mem.nil w).one (gc g) 23
  obtain ⟨Q, V, hQ, hV, K1, hb1⟩ := K.out.one (spc (⟨xw, xr⟩ : Sp)) 29
  obtain ⟨R, U, hR, hU, K2, hb2⟩ := K1.out.one [.int .u32 0, .int .u8 (yd : Int), .int .i64 ys, .int .i64 yl, .int .i64 yr] 29
  clear K K1 hb0 hb1 hb2
  obtain ⟨g0, g1, g2⟩ := K2.out.gr (B := P) (g := g) (by simp)
  obtain ⟨c0, c1, c2, c3, c4⟩ := K2.out.sp (B := Q) (x := (⟨xw, xr⟩ : Sp)) (by simp)
  obtain ⟨d0, d1, d2, d3, d4⟩ := K2.out.sp (B := R) (x := (⟨⟨0, yd, ys, yl⟩, yr⟩ : Sp)) (by simp)
  go_enter Tryd.func16, Tryd.ntmps16
  go_wp2_with fail
  refine (HK.out _).mono ?_
  rintro e w1 ⟨rfl, rfl⟩
  go_wp2_with fail
  refine (HRo.out _).mono ?_
  rintro e w2 ⟨rfl, rfl⟩
  go_wp2_with fail
  go_ret
  exact Did.mk (by rw [Hr.out]; rfl) K2.out.2
set_option maxRecDepth 20000 in
set_option maxHeartbeats 2000000 in
theorem nv14cn (g : Gr) (n walk : Int) (xw : Wh) (yw : Wh) (xr : Int) (yr : Int)  (h1 : ¬ xr = -2) (h2 : ¬ yr = -2) (hxw : ¬ xw.w = 0) (hyw : ¬ yw.w = 0) (hx : Wok (⟨xw, xr⟩ : Sp).w) (hy : Wok (⟨yw, yr⟩ : Sp).w) (w : World) : Calls Tryd.prog 16 #[gv g, .int .i64 14, .int .i64 n, spv (⟨xw, xr⟩ : Sp), spv (⟨yw, yr⟩ : Sp), .int .i64 walk] w (Did (.bool (prN g 14 n (⟨xw, xr⟩ : Sp) (⟨yw, yr⟩ : Sp) walk)) w) := by
  have HK := hid (fun X => r_Known 14 X)
  have HRo := hid (fun X => r_rooms 14 X)
  have HH := hid (fun m X => r_Holds g 14 n (⟨xw, xr⟩ : Sp) (⟨yw, yr⟩ : Sp) m hx hy X)
  rw [show knB 14 = true from rfl] at HK
  rw [show roB 14 = false from rfl] at HRo
  have p1 := ne_no h1
  have p2 := ne_no h2
  have z1 : ((xw.w : Int) == 0) = false := by rw [beq_eq_false_iff_ne]; omega
  have z1b : ((xw.w : Int) != 0) = true := by rw [bne_iff_ne]; omega
  have z2 : ((yw.w : Int) == 0) = false := by rw [beq_eq_false_iff_ne]; omega
  have z2b : ((yw.w : Int) != 0) = true := by rw [bne_iff_ne]; omega
  have Hr := hid (show prN g 14 n (⟨xw, xr⟩ : Sp) (⟨yw, yr⟩ : Sp) walk = (!(prH g 14 n (⟨xw, xr⟩ : Sp) (⟨yw, yr⟩ : Sp) 0) || !(prH g 14 n (⟨xw, xr⟩ : Sp) (⟨yw, yr⟩ : Sp) walk)) by show ((!decide (xw.w = 0) && !decide (yw.w = 0)) && (!(prH g 14 n (⟨xw, xr⟩ : Sp) (⟨yw, yr⟩ : Sp) 0) || (plB (⟨xw, xr⟩ : Sp) (⟨yw, yr⟩ : Sp) && !(prH g 14 n (⟨xw, xr⟩ : Sp) (⟨yw, yr⟩ : Sp) walk)))) = _; unfold plB; simp [hxw, hyw, h1, h2])
  generalize prN g 14 n (⟨xw, xr⟩ : Sp) (⟨yw, yr⟩ : Sp) walk = q at *
  have HHw := hid (fun X => HH.out walk X)
  have HH0 := hid (fun X => HH.out 0 X)
  obtain ⟨hw1, ehw⟩ : ∃ b, prH g 14 n (⟨xw, xr⟩ : Sp) (⟨yw, yr⟩ : Sp) walk = b := ⟨_, rfl⟩
  obtain ⟨h0, eh0⟩ : ∃ b, prH g 14 n (⟨xw, xr⟩ : Sp) (⟨yw, yr⟩ : Sp) 0 = b := ⟨_, rfl⟩
  rw [ehw] at HHw
  rw [eh0] at HH0
  rw [eh0, ehw] at Hr
  clear HH ehw eh0
  obtain ⟨P, W, hP, hW, K, hb0⟩ := (Mem.nil w).one (gc g) 23
  obtain ⟨Q, V, hQ, hV, K1, hb1⟩ := K.out.one (spc (⟨xw, xr⟩ : Sp)) 29
  obtain ⟨R, U, hR, hU, K2, hb2⟩ := K1.out.one (spc (⟨yw, yr⟩ : Sp)) 29
  clear K K1 hb0 hb1 hb2
  obtain ⟨g0, g1, g2⟩ := K2.out.gr (B := P) (g := g) (by simp)
  obtain ⟨c0, c1, c2, c3, c4⟩ := K2.out.sp (B := Q) (x := (⟨xw, xr⟩ : Sp)) (by simp)
  obtain ⟨d0, d1, d2, d3, d4⟩ := K2.out.sp (B := R) (x := (⟨yw, yr⟩ : Sp)) (by simp)
  go_enter Tryd.func16, Tryd.ntmps16
  go_wp2_with fail
  refine (HK.out _).mono ?_
  rintro e w1 ⟨rfl, rfl⟩
  go_wp2_with fail
  refine (HRo.out _).mono ?_
  rintro e w2 ⟨rfl, rfl⟩
  go_wp2_with fail
  refine (HHw.out _).mono ?_
  rintro e Y3 ⟨rfl, bz⟩
  have K3 := hid (K2.out.next bz)
  clear g0 g1 g2 c0 c1 c2 c3 c4 d0 d1 d2 d3 d4 bz hP hW hQ hV hR hU K2
  obtain ⟨g0, g1, g2⟩ := K3.out.gr (B := P) (g := g) (by simp)
  obtain ⟨c0, c1, c2, c3, c4⟩ := K3.out.sp (B := Q) (x := (⟨xw, xr⟩ : Sp)) (by simp)
  obtain ⟨d0, d1, d2, d3, d4⟩ := K3.out.sp (B := R) (x := (⟨yw, yr⟩ : Sp)) (by simp)
  cases hw1 with
  | true =>
    go_wp2_with fail
    refine (HH0.out _).mono ?_
    rintro e Y4 ⟨rfl, bz⟩
    have K4 := hid (K3.out.next bz)
    clear g0 g1 g2 c0 c1 c2 c3 c4 d0 d1 d2 d3 d4 bz
    go_wp2_with fail
    go_ret
    exact Did.mk (by rw [Hr.out]; cases h0 <;> rfl) K4.out.2
  | false =>
    go_wp2_with fail
    go_ret
    exact Did.mk (by rw [Hr.out]; first | rfl | (cases h0 <;> rfl)) K3.out.2
set_option maxRecDepth 20000 in
set_option maxHeartbeats 2000000 in
theorem nvkcx (g : Gr) (k : Int) (n walk : Int) (xd : Nat) (xs xl : Int) (yw : Wh) (xr : Int) (yr : Int) (hk : knB k = true) (h10 : ¬ k = 10) (h11 : ¬ k = 11) (h14 : ¬ k = 14)  (h1 : ¬ xr = -2) (h2 : ¬ yr = -2) (hx : Wok (⟨⟨0, xd, xs, xl⟩, xr⟩ : Sp).w) (hy : Wok (⟨yw, yr⟩ : Sp).w) (w : World) : Calls Tryd.prog 16 #[gv g, .int .i64 k, .int .i64 n, spv (⟨⟨0, xd, xs, xl⟩, xr⟩ : Sp), spv (⟨yw, yr⟩ : Sp), .int .i64 walk] w (Did (.bool (prN g k n (⟨⟨0, xd, xs, xl⟩, xr⟩ : Sp) (⟨yw, yr⟩ : Sp) walk)) w) := by
  have HK := hid (fun X => r_Known k X)
  have HRo := hid (fun X => r_rooms k X)
  have HH := hid (fun m X => r_Holds g k n (⟨⟨0, xd, xs, xl⟩, xr⟩ : Sp) (⟨yw, yr⟩ : Sp) m hx hy X)
  have q10 := eq_no h10
  have q11 := eq_no h11
  have hro : roB k = false := by unfold roB; rw [decide_eq_false h10, decide_eq_false h11]; rfl
  rw [hro] at HRo
  rw [hk] at HK
  have q14 := eq_no h14
  have q14b := ne_no h14
  have p1 := ne_no h1
  have p2 := ne_no h2
  have Hr := hid (show prN g k n (⟨⟨0, xd, xs, xl⟩, xr⟩ : Sp) (⟨yw, yr⟩ : Sp) walk = false by unfold prN; rw [hk, Bool.true_and, if_neg h10, if_neg h11, if_neg h14]; simp)
  generalize prN g k n (⟨⟨0, xd, xs, xl⟩, xr⟩ : Sp) (⟨yw, yr⟩ : Sp) walk = q at *
  obtain ⟨P, W, hP, hW, K, hb0⟩ := (Mem.nil w).one (gc g) 23
  obtain ⟨Q, V, hQ, hV, K1, hb1⟩ := K.out.one [.int .u32 0, .int .u8 (xd : Int), .int .i64 xs, .int .i64 xl, .int .i64 xr] 29
  obtain ⟨R, U, hR, hU, K2, hb2⟩ := K1.out.one (spc (⟨yw, yr⟩ : Sp)) 29
  clear K K1 hb0 hb1 hb2
  obtain ⟨g0, g1, g2⟩ := K2.out.gr (B := P) (g := g) (by simp)
  obtain ⟨c0, c1, c2, c3, c4⟩ := K2.out.sp (B := Q) (x := (⟨⟨0, xd, xs, xl⟩, xr⟩ : Sp)) (by simp)
  obtain ⟨d0, d1, d2, d3, d4⟩ := K2.out.sp (B := R) (x := (⟨yw, yr⟩ : Sp)) (by simp)
  go_enter Tryd.func16, Tryd.ntmps16
  go_wp2_with fail
  refine (HK.out _).mono ?_
  rintro e w1 ⟨rfl, rfl⟩
  go_wp2_with fail
  refine (HRo.out _).mono ?_
  rintro e w2 ⟨rfl, rfl⟩
  go_wp2_with fail
  go_ret
  exact Did.mk (by rw [Hr.out]; rfl) K2.out.2
set_option maxRecDepth 20000 in
set_option maxHeartbeats 2000000 in
theorem nvkcy (g : Gr) (k : Int) (n walk : Int) (xw : Wh) (yd : Nat) (ys yl : Int) (xr : Int) (yr : Int) (hk : knB k = true) (h10 : ¬ k = 10) (h11 : ¬ k = 11) (h14 : ¬ k = 14)  (h1 : ¬ xr = -2) (h2 : ¬ yr = -2) (hxw : ¬ xw.w = 0) (hx : Wok (⟨xw, xr⟩ : Sp).w) (hy : Wok (⟨⟨0, yd, ys, yl⟩, yr⟩ : Sp).w) (w : World) : Calls Tryd.prog 16 #[gv g, .int .i64 k, .int .i64 n, spv (⟨xw, xr⟩ : Sp), spv (⟨⟨0, yd, ys, yl⟩, yr⟩ : Sp), .int .i64 walk] w (Did (.bool (prN g k n (⟨xw, xr⟩ : Sp) (⟨⟨0, yd, ys, yl⟩, yr⟩ : Sp) walk)) w) := by
  have HK := hid (fun X => r_Known k X)
  have HRo := hid (fun X => r_rooms k X)
  have HH := hid (fun m X => r_Holds g k n (⟨xw, xr⟩ : Sp) (⟨⟨0, yd, ys, yl⟩, yr⟩ : Sp) m hx hy X)
  have q10 := eq_no h10
  have q11 := eq_no h11
  have hro : roB k = false := by unfold roB; rw [decide_eq_false h10, decide_eq_false h11]; rfl
  rw [hro] at HRo
  rw [hk] at HK
  have q14 := eq_no h14
  have q14b := ne_no h14
  have p1 := ne_no h1
  have p2 := ne_no h2
  have z1 : ((xw.w : Int) == 0) = false := by rw [beq_eq_false_iff_ne]; omega
  have z1b : ((xw.w : Int) != 0) = true := by rw [bne_iff_ne]; omega
  have Hr := hid (show prN g k n (⟨xw, xr⟩ : Sp) (⟨⟨0, yd, ys, yl⟩, yr⟩ : Sp) walk = false by unfold prN; rw [hk, Bool.true_and, if_neg h10, if_neg h11, if_neg h14]; simp)
  generalize prN g k n (⟨xw, xr⟩ : Sp) (⟨⟨0, yd, ys, yl⟩, yr⟩ : Sp) walk = q at *
  obtain ⟨P, W, hP, hW, K, hb0⟩ := (Mem.nil w).one (gc g) 23
  obtain ⟨Q, V, hQ, hV, K1, hb1⟩ := K.out.one (spc (⟨xw, xr⟩ : Sp)) 29
  obtain ⟨R, U, hR, hU, K2, hb2⟩ := K1.out.one [.int .u32 0, .int .u8 (yd : Int), .int .i64 ys, .int .i64 yl, .int .i64 yr] 29
  clear K K1 hb0 hb1 hb2
  obtain ⟨g0, g1, g2⟩ := K2.out.gr (B := P) (g := g) (by simp)
  obtain ⟨c0, c1, c2, c3, c4⟩ := K2.out.sp (B := Q) (x := (⟨xw, xr⟩ : Sp)) (by simp)
  obtain ⟨d0, d1, d2, d3, d4⟩ := K2.out.sp (B := R) (x := (⟨⟨0, yd, ys, yl⟩, yr⟩ : Sp)) (by simp)
  go_enter Tryd.func16, Tryd.ntmps16
  go_wp2_with fail
  refine (HK.out _).mono ?_
  rintro e w1 ⟨rfl, rfl⟩
  go_wp2_with fail
  refine (HRo.out _).mono ?_
  rintro e w2 ⟨rfl, rfl⟩
  go_wp2_with fail
  go_ret
  exact Did.mk (by rw [Hr.out]; rfl) K2.out.2
set_option maxRecDepth 20000 in
set_option maxHeartbeats 2000000 in
theorem nvkcn (g : Gr) (k : Int) (n walk : Int) (xw : Wh) (yw : Wh) (xr : Int) (yr : Int) (hk : knB k = true) (h10 : ¬ k = 10) (h11 : ¬ k = 11) (h14 : ¬ k = 14)  (h1 : ¬ xr = -2) (h2 : ¬ yr = -2) (hxw : ¬ xw.w = 0) (hyw : ¬ yw.w = 0) (hx : Wok (⟨xw, xr⟩ : Sp).w) (hy : Wok (⟨yw, yr⟩ : Sp).w) (w : World) : Calls Tryd.prog 16 #[gv g, .int .i64 k, .int .i64 n, spv (⟨xw, xr⟩ : Sp), spv (⟨yw, yr⟩ : Sp), .int .i64 walk] w (Did (.bool (prN g k n (⟨xw, xr⟩ : Sp) (⟨yw, yr⟩ : Sp) walk)) w) := by
  have HK := hid (fun X => r_Known k X)
  have HRo := hid (fun X => r_rooms k X)
  have HH := hid (fun m X => r_Holds g k n (⟨xw, xr⟩ : Sp) (⟨yw, yr⟩ : Sp) m hx hy X)
  have q10 := eq_no h10
  have q11 := eq_no h11
  have hro : roB k = false := by unfold roB; rw [decide_eq_false h10, decide_eq_false h11]; rfl
  rw [hro] at HRo
  rw [hk] at HK
  have q14 := eq_no h14
  have q14b := ne_no h14
  have p1 := ne_no h1
  have p2 := ne_no h2
  have z1 : ((xw.w : Int) == 0) = false := by rw [beq_eq_false_iff_ne]; omega
  have z1b : ((xw.w : Int) != 0) = true := by rw [bne_iff_ne]; omega
  have z2 : ((yw.w : Int) == 0) = false := by rw [beq_eq_false_iff_ne]; omega
  have z2b : ((yw.w : Int) != 0) = true := by rw [bne_iff_ne]; omega
  have Hr := hid (show prN g k n (⟨xw, xr⟩ : Sp) (⟨yw, yr⟩ : Sp) walk = !(prH g k n (⟨xw, xr⟩ : Sp) (⟨yw, yr⟩ : Sp) walk) by unfold prN; rw [hk, Bool.true_and, if_neg h10, if_neg h11, if_neg h14]; simp [hxw, hyw])
  generalize prN g k n (⟨xw, xr⟩ : Sp) (⟨yw, yr⟩ : Sp) walk = q at *
  have HHw := hid (fun X => HH.out walk X)
  have HH0 := hid (fun X => HH.out 0 X)
  obtain ⟨hw1, ehw⟩ : ∃ b, prH g k n (⟨xw, xr⟩ : Sp) (⟨yw, yr⟩ : Sp) walk = b := ⟨_, rfl⟩
  obtain ⟨h0, eh0⟩ : ∃ b, prH g k n (⟨xw, xr⟩ : Sp) (⟨yw, yr⟩ : Sp) 0 = b := ⟨_, rfl⟩
  rw [ehw] at HHw
  rw [eh0] at HH0
  rw [ehw] at Hr
  clear HH ehw eh0
  obtain ⟨P, W, hP, hW, K, hb0⟩ := (Mem.nil w).one (gc g) 23
  obtain ⟨Q, V, hQ, hV, K1, hb1⟩ := K.out.one (spc (⟨xw, xr⟩ : Sp)) 29
  obtain ⟨R, U, hR, hU, K2, hb2⟩ := K1.out.one (spc (⟨yw, yr⟩ : Sp)) 29
  clear K K1 hb0 hb1 hb2
  obtain ⟨g0, g1, g2⟩ := K2.out.gr (B := P) (g := g) (by simp)
  obtain ⟨c0, c1, c2, c3, c4⟩ := K2.out.sp (B := Q) (x := (⟨xw, xr⟩ : Sp)) (by simp)
  obtain ⟨d0, d1, d2, d3, d4⟩ := K2.out.sp (B := R) (x := (⟨yw, yr⟩ : Sp)) (by simp)
  go_enter Tryd.func16, Tryd.ntmps16
  go_wp2_with fail
  refine (HK.out _).mono ?_
  rintro e w1 ⟨rfl, rfl⟩
  go_wp2_with fail
  refine (HRo.out _).mono ?_
  rintro e w2 ⟨rfl, rfl⟩
  go_wp2_with fail
  refine (HHw.out _).mono ?_
  rintro e Y3 ⟨rfl, bz⟩
  have K3 := hid (K2.out.next bz)
  clear g0 g1 g2 c0 c1 c2 c3 c4 d0 d1 d2 d3 d4 bz hP hW hQ hV hR hU K2
  obtain ⟨g0, g1, g2⟩ := K3.out.gr (B := P) (g := g) (by simp)
  obtain ⟨c0, c1, c2, c3, c4⟩ := K3.out.sp (B := Q) (x := (⟨xw, xr⟩ : Sp)) (by simp)
  obtain ⟨d0, d1, d2, d3, d4⟩ := K3.out.sp (B := R) (x := (⟨yw, yr⟩ : Sp)) (by simp)
  cases hw1 with
  | true =>
    go_wp2_with fail
    go_ret
    exact Did.mk (by rw [Hr.out]; first | rfl | (cases h0 <;> rfl)) K3.out.2
  | false =>
    go_wp2_with fail
    go_ret
    exact Did.mk (by rw [Hr.out]; first | rfl | (cases h0 <;> rfl)) K3.out.2
set_option maxRecDepth 20000 in
set_option maxHeartbeats 2000000 in
theorem nv_none (g : Gr) (k n : Int) (x y : Sp) (walk : Int) (hk : knB k = false) (w : World) : Calls Tryd.prog 16 #[gv g, .int .i64 k, .int .i64 n, spv x, spv y, .int .i64 walk] w (Did (.bool (prN g k n x y walk)) w) := by
  have HK := hid (fun X => r_Known k X)
  have Hr := hid (show prN g k n x y walk = false by unfold prN; rw [hk, Bool.false_and])
  rw [hk] at HK
  generalize prN g k n x y walk = q at *
  obtain ⟨P, W, hP, hW, K, hb0⟩ := (Mem.nil w).one (gc g) 23
  obtain ⟨Q, V, hQ, hV, K1, hb1⟩ := K.out.one (spc x) 29
  obtain ⟨R, U, hR, hU, K2, hb2⟩ := K1.out.one (spc y) 29
  clear K K1 hb0 hb1 hb2
  obtain ⟨g0, g1, g2⟩ := K2.out.gr (B := P) (g := g) (by simp)
  obtain ⟨c0, c1, c2, c3, c4⟩ := K2.out.sp (B := Q) (x := x) (by simp)
  obtain ⟨d0, d1, d2, d3, d4⟩ := K2.out.sp (B := R) (x := y) (by simp)
  go_enter Tryd.func16, Tryd.ntmps16
  go_wp2_with fail
  refine (HK.out _).mono ?_
  rintro e w1 ⟨rfl, rfl⟩
  go_wp2_with fail
  go_ret
  exact Did.mk (by rw [Hr.out]; rfl) K2.out.2
theorem r_Never (g : Gr) (k n : Int) (x y : Sp) (walk : Int) (hx : Wok x.w) (hy : Wok y.w) (w : World) : Calls Tryd.prog 16 #[gv g, .int .i64 k, .int .i64 n, spv x, spv y, .int .i64 walk] w (Did (.bool (prN g k n x y walk)) w) := by
  by_cases hk : knB k = true
  · skip
    obtain ⟨xw, xr⟩ := x
    obtain ⟨yw, yr⟩ := y
    by_cases h10 : k = 10
    · subst h10
      by_cases h1 : xr = -2
      · subst h1
        by_cases h3 : yr = -1
        · subst h3
          exact nv10a1 g n walk xw yw hx hy w
        · exact nv10a2 g n walk xw yw yr h3 hx hy w
      by_cases h2 : yr = -2
      · subst h2
        by_cases h3 : xr = -1
        · subst h3
          exact nv10b1 g n walk xw yw hx hy w
        · exact nv10b2 g n walk xw yw xr h1 h3 hx hy w
      exact nv10c g n walk xw yw xr yr h1 h2 hx hy w
    by_cases h11 : k = 11
    · subst h11
      by_cases h1 : xr = -2
      · subst h1
        exact nv11a g n walk xw yw yr hx hy w
      by_cases h2 : yr = -2
      · subst h2
        exact nv11b g n walk xw yw xr h1 hx hy w
      exact nv11c g n walk xw yw xr yr h1 h2 hx hy w
    by_cases h14 : k = 14
    · subst h14
      by_cases h1 : xr = -2
      · subst h1
        by_cases hxw : xw.w = 0
        · obtain ⟨xv, xd, xs, xl⟩ := xw
          simp only at hxw
          subst hxw
          exact nv14ax g n walk xd xs xl yw yr hx hy w
        by_cases hyw : yw.w = 0
        · obtain ⟨yv, yd, ys, yl⟩ := yw
          simp only at hyw
          subst hyw
          exact nv14ay g n walk xw yd ys yl yr hxw hx hy w
        exact nv14an g n walk xw yw yr hxw hyw hx hy w
      by_cases h2 : yr = -2
      · subst h2
        by_cases hxw : xw.w = 0
        · obtain ⟨xv, xd, xs, xl⟩ := xw
          simp only at hxw
          subst hxw
          exact nv14bx g n walk xd xs xl yw xr h1 hx hy w
        by_cases hyw : yw.w = 0
        · obtain ⟨yv, yd, ys, yl⟩ := yw
          simp only at hyw
          subst hyw
          exact nv14by g n walk xw yd ys yl xr h1 hxw hx hy w
        exact nv14bn g n walk xw yw xr h1 hxw hyw hx hy w
      by_cases hxw : xw.w = 0
      · obtain ⟨xv, xd, xs, xl⟩ := xw
        simp only at hxw
        subst hxw
        exact nv14cx g n walk xd xs xl yw xr yr h1 h2 hx hy w
      by_cases hyw : yw.w = 0
      · obtain ⟨yv, yd, ys, yl⟩ := yw
        simp only at hyw
        subst hyw
        exact nv14cy g n walk xw yd ys yl xr yr h1 h2 hxw hx hy w
      exact nv14cn g n walk xw yw xr yr h1 h2 hxw hyw hx hy w
    by_cases h1 : xr = -2
    · subst h1
      by_cases hxw : xw.w = 0
      · obtain ⟨xv, xd, xs, xl⟩ := xw
        simp only at hxw
        subst hxw
        exact nvkax g k n walk xd xs xl yw yr hk h10 h11 h14 hx hy w
      by_cases hyw : yw.w = 0
      · obtain ⟨yv, yd, ys, yl⟩ := yw
        simp only at hyw
        subst hyw
        exact nvkay g k n walk xw yd ys yl yr hk h10 h11 h14 hxw hx hy w
      exact nvkan g k n walk xw yw yr hk h10 h11 h14 hxw hyw hx hy w
    by_cases h2 : yr = -2
    · subst h2
      by_cases hxw : xw.w = 0
      · obtain ⟨xv, xd, xs, xl⟩ := xw
        simp only at hxw
        subst hxw
        exact nvkbx g k n walk xd xs xl yw xr hk h10 h11 h14 h1 hx hy w
      by_cases hyw : yw.w = 0
      · obtain ⟨yv, yd, ys, yl⟩ := yw
        simp only at hyw
        subst hyw
        exact nvkby g k n walk xw yd ys yl xr hk h10 h11 h14 h1 hxw hx hy w
      exact nvkbn g k n walk xw yw xr hk h10 h11 h14 h1 hxw hyw hx hy w
    by_cases hxw : xw.w = 0
    · obtain ⟨xv, xd, xs, xl⟩ := xw
      simp only at hxw
      subst hxw
      exact nvkcx g k n walk xd xs xl yw xr yr hk h10 h11 h14 h1 h2 hx hy w
    by_cases hyw : yw.w = 0
    · obtain ⟨yv, yd, ys, yl⟩ := yw
      simp only at hyw
      subst hyw
      exact nvkcy g k n walk xw yd ys yl xr yr hk h10 h11 h14 h1 h2 hxw hx hy w
    exact nvkcn g k n walk xw yw xr yr hk h10 h11 h14 h1 h2 hxw hyw hx hy w
  · exact nv_none g k n x y walk (by simpa using hk) w
end Go.Proofs.YtnhniajfnmdnnaaDoor

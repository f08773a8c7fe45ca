/- What the proof of ProblemCopies stands on, part 20. -/
import Derived.Test.YtgmgccepmalahaaGreatCpAS
namespace Go.Proofs.YtgmgccepmalahaaGreat
open Go.RowKit
open Whn (Gr Wh)
set_option maxRecDepth 20000 in
set_option maxHeartbeats 4000000 in
theorem p_copyRoomG (n : List UInt8) (s g : Int) (B0 : Option Addr) (m0 e0 : Nat) (w : World) (Q0 : CpQ) (S0 : CpOk Q0)
    (H0 : ∀ X, Below w.heap.size w X → Calls Tryz.prog 150 #[.slice B0 m0 e0] X (CpRet Q0 X))
    : Calls Tryz.prog 70 #[.agg #[txt n, .int .i64 s, .int .u16 g, .slice B0 m0 e0]] w (fun e w' => ∃ A0 n0 d0, e = .returned (.agg #[txt n, .int .i64 s, .int .u16 g, .slice A0 n0 d0]) ∧ Q0 w.heap.size A0 n0 d0 w' ∧ Below w.heap.size w w') := by
 have H0 := hid H0
 obtain ⟨G, W, hG, hW, K, hb0⟩ := (Mem.nil w).one [txt n, .int .i64 s, .int .u16 g, .slice B0 m0 e0] 52
 obtain ⟨Z, V, hZ, hV, K0, hb1⟩ := K.out.one [.string ⟨#[]⟩, .int .i64 0, .int .u16 0, .slice none 0 0] 52
 have HGw := hid (show w.heap.size ≤ G ∧ w.heap.size ≤ Z ∧ G ≠ Z from by
  have h1 := (K.out.at_ (b := G) (cs := [txt n, .int .i64 s, .int .u16 g, .slice B0 m0 e0]) (t := 52) (by simp)).lt
  omega)
 obtain ⟨B, hB⟩ : ∃ B, V.heap.size = B := ⟨_, rfl⟩
 have HBd := hid (show G < B ∧ Z < B ∧ w.heap.size ≤ B from by
  have h1 := (K0.out.at_ (b := G) (cs := [txt n, .int .i64 s, .int .u16 g, .slice B0 m0 e0]) (t := 52) (by simp)).lt
  have h2 := (K0.out.at_ (b := Z) (cs := [.string ⟨#[]⟩, .int .i64 0, .int .u16 0, .slice none 0 0]) (t := 52) (by simp)).lt
  have h3 := K0.out.2.size
  omega)
 have M0 := hid (K0.out.sub (l' := [(G, [txt n, .int .i64 s, .int .u16 g, .slice B0 m0 e0], 52), (Z, [.string ⟨#[]⟩, .int .i64 0, .int .u16 0, .slice none 0 0], 52)]) (by simp))
 have HV0 := hid (show B ≤ V.heap.size by omega)
 clear hb0 hb1 K K0 hB
 have c0 := M0.out.cell (b := G) (cs := [txt n, .int .i64 s, .int .u16 g, .slice B0 m0 e0]) (t := 52) (by simp) (k := 3) rfl
 go_enter Tryz.func70, Tryz.ntmps70
 go_wp2_with fail
 refine (H0.out _ M0.out.2).mono ?_
 rintro e Y0 ⟨A0, n0, d0, rfl, hq0, bz⟩
 have N0 := hid (M0.out.next bz)
 have hb0 := bz.size
 have Bz0 := hid (bz)
 clear c0 bz
 have g0 := (N0.out.at_ (b := G) (cs := [txt n, .int .i64 s, .int .u16 g, .slice B0 m0 e0]) (t := 52) (by simp)).free 3
 have y0 := N0.out.cell (b := G) (cs := [txt n, .int .i64 s, .int .u16 g, .slice B0 m0 e0]) (t := 52) (by simp) (k := 3) rfl
 obtain ⟨X0, hX0⟩ : ∃ X, Y0.setCell ⟨G, 3, none⟩ (.slice A0 n0 d0) = X := ⟨_, rfl⟩
 have M1 := hid (show Mem w X0 [(G, [txt n, .int .i64 s, .int .u16 g, .slice A0 n0 d0], 52), (Z, [.string ⟨#[]⟩, .int .i64 0, .int .u16 0, .slice none 0 0], 52)] from hX0 ▸ N0.out.set HGw.out.1 (by simp; exact fun e => HGw.out.2.2 e.symm) 3 _)
 have HV1 := hid (show B ≤ X0.heap.size by rw [← hX0]; simp [World.setCell]; have := HV0.out; omega)
 have U0 := hid (show Abv B V X0 from hX0 ▸ (Abv.of Bz0.out).trans (Abv.set _ _ _ HBd.out.1))
 have V0 := hid (show Q0 B A0 n0 d0 X0 from S0.keep _ _ _ _ _ _ (S0.low _ _ _ _ _ _ hq0 HV0.out) (hX0 ▸ Abv.set _ _ _ HBd.out.1))
 clear hq0 Bz0 N0 hb0
 have gz := (M1.out.at_ (b := Z) (cs := [.string ⟨#[]⟩, .int .i64 0, .int .u16 0, .slice none 0 0]) (t := 52) (by simp)).free
 have f0 := gz 0
 have e20 := M1.out.cell (b := G) (cs := [txt n, .int .i64 s, .int .u16 g, .slice A0 n0 d0]) (t := 52) (by simp) (k := 0) rfl
 have z0 := M1.out.cell (b := Z) (cs := [.string ⟨#[]⟩, .int .i64 0, .int .u16 0, .slice none 0 0]) (t := 52) (by simp) (k := 0) rfl
 have f1 := gz 1
 have e21 := M1.out.cell (b := G) (cs := [txt n, .int .i64 s, .int .u16 g, .slice A0 n0 d0]) (t := 52) (by simp) (k := 1) rfl
 have z1 := M1.out.cell (b := Z) (cs := [.string ⟨#[]⟩, .int .i64 0, .int .u16 0, .slice none 0 0]) (t := 52) (by simp) (k := 1) rfl
 have f2 := gz 2
 have e22 := M1.out.cell (b := G) (cs := [txt n, .int .i64 s, .int .u16 g, .slice A0 n0 d0]) (t := 52) (by simp) (k := 2) rfl
 have z2 := M1.out.cell (b := Z) (cs := [.string ⟨#[]⟩, .int .i64 0, .int .u16 0, .slice none 0 0]) (t := 52) (by simp) (k := 2) rfl
 have f3 := gz 3
 have e23 := M1.out.cell (b := G) (cs := [txt n, .int .i64 s, .int .u16 g, .slice A0 n0 d0]) (t := 52) (by simp) (k := 3) rfl
 have z3 := M1.out.cell (b := Z) (cs := [.string ⟨#[]⟩, .int .i64 0, .int .u16 0, .slice none 0 0]) (t := 52) (by simp) (k := 3) rfl
 clear gz
 have Ms := hid (M1.out.sub (l' := [(Z, [.string ⟨#[]⟩, .int .i64 0, .int .u16 0, .slice none 0 0], 52), (G, [txt n, .int .i64 s, .int .u16 g, .slice A0 n0 d0], 52)]) (by simp))
 have HGZ := hid (show ∀ p ∈ ([(G, [txt n, .int .i64 s, .int .u16 g, .slice A0 n0 d0], 52)] : Obs), p.1 ≠ Z from by simp; exact HGw.out.2.2)
 obtain ⟨R, hR⟩ : ∃ R, ((((X0.setCell ⟨Z, 0, none⟩ (txt n)).setCell ⟨Z, 1, none⟩ (.int .i64 s)).setCell ⟨Z, 2, none⟩ (.int .u16 g)).setCell ⟨Z, 3, none⟩ (.slice A0 n0 d0)) = R := ⟨_, rfl⟩
 have M9 := hid (show Mem w R [(Z, [txt n, .int .i64 s, .int .u16 g, .slice A0 n0 d0], 52), (G, [txt n, .int .i64 s, .int .u16 g, .slice A0 n0 d0], 52)] from hR ▸ ((((Ms.out.set HGw.out.2.1 HGZ.out 0 (txt n)).set HGw.out.2.1 HGZ.out 1 (.int .i64 s)).set HGw.out.2.1 HGZ.out 2 (.int .u16 g)).set HGw.out.2.1 HGZ.out 3 (.slice A0 n0 d0)))
 have UR := hid (show Abv B X0 R from hR ▸ ((((Abv.set _ _ _ HBd.out.2.1).trans (Abv.set _ _ _ HBd.out.2.1)).trans (Abv.set _ _ _ HBd.out.2.1)).trans (Abv.set _ _ _ HBd.out.2.1)))
 have E0 := hid (S0.low _ _ _ _ _ _ (S0.keep _ _ _ _ _ _ V0.out UR.out) HBd.out.2.2)
 have r0 := M9.out.cell (b := Z) (cs := [txt n, .int .i64 s, .int .u16 g, .slice A0 n0 d0]) (t := 52) (by simp) (k := 0) rfl
 have r1 := M9.out.cell (b := Z) (cs := [txt n, .int .i64 s, .int .u16 g, .slice A0 n0 d0]) (t := 52) (by simp) (k := 1) rfl
 have r2 := M9.out.cell (b := Z) (cs := [txt n, .int .i64 s, .int .u16 g, .slice A0 n0 d0]) (t := 52) (by simp) (k := 2) rfl
 have r3 := M9.out.cell (b := Z) (cs := [txt n, .int .i64 s, .int .u16 g, .slice A0 n0 d0]) (t := 52) (by simp) (k := 3) rfl
 clear M1 Ms UR
 go_wp2_with fail
 exact bodyPost_ret (v := .agg #[txt n, .int .i64 s, .int .u16 g, .slice A0 n0 d0]) (by simp [results, Tryz.results70, go_sem, r0, r1, r2, r3]) rfl ⟨A0, n0, d0, rfl, E0.out, M9.out.2⟩
set_option maxRecDepth 20000 in
set_option maxHeartbeats 4000000 in
theorem p_copyPersonG (n : List UInt8) (B0 : Option Addr) (m0 e0 : Nat) (w : World) (Q0 : CpQ) (S0 : CpOk Q0)
    (H0 : ∀ X, Below w.heap.size w X → Calls Tryz.prog 150 #[.slice B0 m0 e0] X (CpRet Q0 X))
    : Calls Tryz.prog 74 #[.agg #[txt n, .slice B0 m0 e0]] w (fun e w' => ∃ A0 n0 d0, e = .returned (.agg #[txt n, .slice A0 n0 d0]) ∧ Q0 w.heap.size A0 n0 d0 w' ∧ Below w.heap.size w w') := by
 have H0 := hid H0
 obtain ⟨G, W, hG, hW, K, hb0⟩ := (Mem.nil w).one [txt n, .slice B0 m0 e0] 57
 obtain ⟨Z, V, hZ, hV, K0, hb1⟩ := K.out.one [.string ⟨#[]⟩, .slice none 0 0] 57
 have HGw := hid (show w.heap.size ≤ G ∧ w.heap.size ≤ Z ∧ G ≠ Z from by
  have h1 := (K.out.at_ (b := G) (cs := [txt n, .slice B0 m0 e0]) (t := 57) (by simp)).lt
  omega)
 obtain ⟨B, hB⟩ : ∃ B, V.heap.size = B := ⟨_, rfl⟩
 have HBd := hid (show G < B ∧ Z < B ∧ w.heap.size ≤ B from by
  have h1 := (K0.out.at_ (b := G) (cs := [txt n, .slice B0 m0 e0]) (t := 57) (by simp)).lt
  have h2 := (K0.out.at_ (b := Z) (cs := [.string ⟨#[]⟩, .slice none 0 0]) (t := 57) (by simp)).lt
  have h3 := K0.out.2.size
  omega)
 have M0 := hid (K0.out.sub (l' := [(G, [txt n, .slice B0 m0 e0], 57), (Z, [.string ⟨#[]⟩, .slice none 0 0], 57)]) (by simp))
 have HV0 := hid (show B ≤ V.heap.size by omega)
 clear hb0 hb1 K K0 hB
 have c0 := M0.out.cell (b := G) (cs := [txt n, .slice B0 m0 e0]) (t := 57) (by simp) (k := 1) rfl
 go_enter Tryz.func74, Tryz.ntmps74
 go_wp2_with fail
 refine (H0.out _ M0.out.2).mono ?_
 rintro e Y0 ⟨A0, n0, d0, rfl, hq0, bz⟩
 have N0 := hid (M0.out.next bz)
 have hb0 := bz.size
 have Bz0 := hid (bz)
 clear c0 bz
 have g0 := (N0.out.at_ (b := G) (cs := [txt n, .slice B0 m0 e0]) (t := 57) (by simp)).free 1
 have y0 := N0.out.cell (b := G) (cs := [txt n, .slice B0 m0 e0]) (t := 57) (by simp) (k := 1) rfl
 obtain ⟨X0, hX0⟩ : ∃ X, Y0.setCell ⟨G, 1, none⟩ (.slice A0 n0 d0) = X := ⟨_, rfl⟩
 have M1 := hid (show Mem w X0 [(G, [txt n, .slice A0 n0 d0], 57), (Z, [.string ⟨#[]⟩, .slice none 0 0], 57)] from hX0 ▸ N0.out.set HGw.out.1 (by simp; exact fun e => HGw.out.2.2 e.symm) 1 _)
 have HV1 := hid (show B ≤ X0.heap.size by rw [← hX0]; simp [World.setCell]; have := HV0.out; omega)
 have U0 := hid (show Abv B V X0 from hX0 ▸ (Abv.of Bz0.out).trans (Abv.set _ _ _ HBd.out.1))
 have V0 := hid (show Q0 B A0 n0 d0 X0 from S0.keep _ _ _ _ _ _ (S0.low _ _ _ _ _ _ hq0 HV0.out) (hX0 ▸ Abv.set _ _ _ HBd.out.1))
 clear hq0 Bz0 N0 hb0
 have gz := (M1.out.at_ (b := Z) (cs := [.string ⟨#[]⟩, .slice none 0 0]) (t := 57) (by simp)).free
 have f0 := gz 0
 have e20 := M1.out.cell (b := G) (cs := [txt n, .slice A0 n0 d0]) (t := 57) (by simp) (k := 0) rfl
 have z0 := M1.out.cell (b := Z) (cs := [.string ⟨#[]⟩, .slice none 0 0]) (t := 57) (by simp) (k := 0) rfl
 have f1 := gz 1
 have e21 := M1.out.cell (b := G) (cs := [txt n, .slice A0 n0 d0]) (t := 57) (by simp) (k := 1) rfl
 have z1 := M1.out.cell (b := Z) (cs := [.string ⟨#[]⟩, .slice none 0 0]) (t := 57) (by simp) (k := 1) rfl
 clear gz
 have Ms := hid (M1.out.sub (l' := [(Z, [.string ⟨#[]⟩, .slice none 0 0], 57), (G, [txt n, .slice A0 n0 d0], 57)]) (by simp))
 have HGZ := hid (show ∀ p ∈ ([(G, [txt n, .slice A0 n0 d0], 57)] : Obs), p.1 ≠ Z from by simp; exact HGw.out.2.2)
 obtain ⟨R, hR⟩ : ∃ R, ((X0.setCell ⟨Z, 0, none⟩ (txt n)).setCell ⟨Z, 1, none⟩ (.slice A0 n0 d0)) = R := ⟨_, rfl⟩
 have M9 := hid (show Mem w R [(Z, [txt n, .slice A0 n0 d0], 57), (G, [txt n, .slice A0 n0 d0], 57)] from hR ▸ ((Ms.out.set HGw.out.2.1 HGZ.out 0 (txt n)).set HGw.out.2.1 HGZ.out 1 (.slice A0 n0 d0)))
 have UR := hid (show Abv B X0 R from hR ▸ ((Abv.set _ _ _ HBd.out.2.1).trans (Abv.set _ _ _ HBd.out.2.1)))
 have E0 := hid (S0.low _ _ _ _ _ _ (S0.keep _ _ _ _ _ _ V0.out UR.out) HBd.out.2.2)
 have r0 := M9.out.cell (b := Z) (cs := [txt n, .slice A0 n0 d0]) (t := 57) (by simp) (k := 0) rfl
 have r1 := M9.out.cell (b := Z) (cs := [txt n, .slice A0 n0 d0]) (t := 57) (by simp) (k := 1) rfl
 clear M1 Ms UR
 go_wp2_with fail
 exact bodyPost_ret (v := .agg #[txt n, .slice A0 n0 d0]) (by simp [results, Tryz.results74, go_sem, r0, r1]) rfl ⟨A0, n0, d0, rfl, E0.out, M9.out.2⟩
set_option maxRecDepth 20000 in
set_option maxHeartbeats 4000000 in
theorem p_copyClassG (n : List UInt8) (s g o : Int) (B0 : Option Addr) (m0 e0 : Nat) (B1 : Option Addr) (m1 e1 : Nat) (B2 : Option Addr) (m2 e2 : Nat) (w : World) (Q0 : CpQ) (S0 : CpOk Q0) (Q1 : CpQ) (S1 : CpOk Q1) (Q2 : CpQ) (S2 : CpOk Q2)
    (H0 : ∀ X, Below w.heap.size w X → Calls Tryz.prog 72 #[.slice B0 m0 e0] X (CpRet Q0 X))
    (H1 : ∀ X, Below w.heap.size w X → Calls Tryz.prog 151 #[.slice B1 m1 e1] X (CpRet Q1 X))
    (H2 : ∀ X, Below w.heap.size w X → Calls Tryz.prog 152 #[.slice B2 m2 e2] X (CpRet Q2 X))
    : Calls Tryz.prog 76 #[.agg #[txt n, .int .i64 s, .int .u16 g, .slice B0 m0 e0, .slice B1 m1 e1, .slice B2 m2 e2, .int .i64 o]] w (fun e w' => ∃ A0 n0 d0 A1 n1 d1 A2 n2 d2, e = .returned (.agg #[txt n, .int .i64 s, .int .u16 g, .slice A0 n0 d0, .slice A1 n1 d1, .slice A2 n2 d2, .int .i64 o]) ∧ Q0 w.heap.size A0 n0 d0 w' ∧ Q1 w.heap.size A1 n1 d1 w' ∧ Q2 w.heap.size A2 n2 d2 w' ∧ Below w.heap.size w w') := by
 have H0 := hid H0
 have H1 := hid H1
 have H2 := hid H2
 obtain ⟨G, W, hG, hW, K, hb0⟩ := (Mem.nil w).one [txt n, .int .i64 s, .int .u16 g, .slice B0 m0 e0, .slice B1 m1 e1, .slice B2 m2 e2, .int .i64 o] 62
 obtain ⟨Z, V, hZ, hV, K0, hb1⟩ := K.out.one [.string ⟨#[]⟩, .int .i64 0, .int .u16 0, .slice none 0 0, .slice none 0 0, .slice none 0 0, .int .i64 0] 62
 have HGw := hid (show w.heap.size ≤ G ∧ w.heap.size ≤ Z ∧ G ≠ Z from by
  have h1 := (K.out.at_ (b := G) (cs := [txt n, .int .i64 s, .int .u16 g, .slice B0 m0 e0, .slice B1 m1 e1, .slice B2 m2 e2, .int .i64 o]) (t := 62) (by simp)).lt
  omega)
 obtain ⟨B, hB⟩ : ∃ B, V.heap.size = B := ⟨_, rfl⟩
 have HBd := hid (show G < B ∧ Z < B ∧ w.heap.size ≤ B from by
  have h1 := (K0.out.at_ (b := G) (cs := [txt n, .int .i64 s, .int .u16 g, .slice B0 m0 e0, .slice B1 m1 e1, .slice B2 m2 e2, .int .i64 o]) (t := 62) (by simp)).lt
  have h2 := (K0.out.at_ (b := Z) (cs := [.string ⟨#[]⟩, .int .i64 0, .int .u16 0, .slice none 0 0, .slice none 0 0, .slice none 0 0, .int .i64 0]) (t := 62) (by simp)).lt
  have h3 := K0.out.2.size
  omega)
 have M0 := hid (K0.out.sub (l' := [(G, [txt n, .int .i64 s, .int .u16 g, .slice B0 m0 e0, .slice B1 m1 e1, .slice B2 m2 e2, .int .i64 o], 62), (Z, [.string ⟨#[]⟩, .int .i64 0, .int .u16 0, .slice none 0 0, .slice none 0 0, .slice none 0 0, .int .i64 0], 62)]) (by simp))
 have HV0 := hid (show B ≤ V.heap.size by omega)
 clear hb0 hb1 K K0 hB
 have c0 := M0.out.cell (b := G) (cs := [txt n, .int .i64 s, .int .u16 g, .slice B0 m0 e0, .slice B1 m1 e1, .slice B2 m2 e2, .int .i64 o]) (t := 62) (by simp) (k := 3) rfl
 go_enter Tryz.func76, Tryz.ntmps76
 go_wp2_with fail
 refine (H0.out _ M0.out.2).mono ?_
 rintro e Y0 ⟨A0, n0, d0, rfl, hq0, bz⟩
 have N0 := hid (M0.out.next bz)
 have hb0 := bz.size
 have Bz0 := hid (bz)
 clear c0 bz
 have g0 := (N0.out.at_ (b := G) (cs := [txt n, .int .i64 s, .int .u16 g, .slice B0 m0 e0, .slice B1 m1 e1, .slice B2 m2 e2, .int .i64 o]) (t := 62) (by simp)).free 3
 have y0 := N0.out.cell (b := G) (cs := [txt n, .int .i64 s, .int .u16 g, .slice B0 m0 e0, .slice B1 m1 e1, .slice B2 m2 e2, .int .i64 o]) (t := 62) (by simp) (k := 3) rfl
 obtain ⟨X0, hX0⟩ : ∃ X, Y0.setCell ⟨G, 3, none⟩ (.slice A0 n0 d0) = X := ⟨_, rfl⟩
 have M1 := hid (show Mem w X0 [(G, [txt n, .int .i64 s, .int .u16 g, .slice A0 n0 d0, .slice B1 m1 e1, .slice B2 m2 e2, .int .i64 o], 62), (Z, [.string ⟨#[]⟩, .int .i64 0, .int .u16 0, .slice none 0 0, .slice none 0 0, .slice none 0 0, .int .i64 0], 62)] from hX0 ▸ N0.out.set HGw.out.1 (by simp; exact fun e => HGw.out.2.2 e.symm) 3 _)
 have HV1 := hid (show B ≤ X0.heap.size by rw [← hX0]; simp [World.setCell]; have := HV0.out; omega)
 have U0 := hid (show Abv B V X0 from hX0 ▸ (Abv.of Bz0.out).trans (Abv.set _ _ _ HBd.out.1))
 have V0 := hid (show Q0 B A0 n0 d0 X0 from S0.keep _ _ _ _ _ _ (S0.low _ _ _ _ _ _ hq0 HV0.out) (hX0 ▸ Abv.set _ _ _ HBd.out.1))
 clear hq0 Bz0 N0 hb0
 have c1 := M1.out.cell (b := G) (cs := [txt n, .int .i64 s, .int .u16 g, .slice A0 n0 d0, .slice B1 m1 e1, .slice B2 m2 e2, .int .i64 o]) (t := 62) (by simp) (k := 4) rfl
 go_wp2_with fail
 clear hX0 g0 y0
 refine (H1.out _ M1.out.2).mono ?_
 rintro e Y1 ⟨A1, n1, d1, rfl, hq1, bz⟩
 have N1 := hid (M1.out.next bz)
 have hb1 := bz.size
 have Bz1 := hid (bz)
 clear c1 bz
 have g1 := (N1.out.at_ (b := G) (cs := [txt n, .int .i64 s, .int .u16 g, .slice A0 n0 d0, .slice B1 m1 e1, .slice B2 m2 e2, .int .i64 o]) (t := 62) (by simp)).free 4
 have y1 := N1.out.cell (b := G) (cs := [txt n, .int .i64 s, .int .u16 g, .slice A0 n0 d0, .slice B1 m1 e1, .slice B2 m2 e2, .int .i64 o]) (t := 62) (by simp) (k := 4) rfl
 obtain ⟨X1, hX1⟩ : ∃ X, Y1.setCell ⟨G, 4, none⟩ (.slice A1 n1 d1) = X := ⟨_, rfl⟩
 have M2 := hid (show Mem w X1 [(G, [txt n, .int .i64 s, .int .u16 g, .slice A0 n0 d0, .slice A1 n1 d1, .slice B2 m2 e2, .int .i64 o], 62), (Z, [.string ⟨#[]⟩, .int .i64 0, .int .u16 0, .slice none 0 0, .slice none 0 0, .slice none 0 0, .int .i64 0], 62)] from hX1 ▸ N1.out.set HGw.out.1 (by simp; exact fun e => HGw.out.2.2 e.symm) 4 _)
 have HV2 := hid (show B ≤ X1.heap.size by rw [← hX1]; simp [World.setCell]; have := HV1.out; omega)
 have U1 := hid (show Abv B X0 X1 from hX1 ▸ (Abv.of Bz1.out).trans (Abv.set _ _ _ HBd.out.1))
 have V1 := hid (show Q1 B A1 n1 d1 X1 from S1.keep _ _ _ _ _ _ (S1.low _ _ _ _ _ _ hq1 HV1.out) (hX1 ▸ Abv.set _ _ _ HBd.out.1))
 clear hq1 Bz1 N1 hb1
 have c2 := M2.out.cell (b := G) (cs := [txt n, .int .i64 s, .int .u16 g, .slice A0 n0 d0, .slice A1 n1 d1, .slice B2 m2 e2, .int .i64 o]) (t := 62) (by simp) (k := 5) rfl
 go_wp2_with fail
 clear hX1 g1 y1
 refine (H2.out _ M2.out.2).mono ?_
 rintro e Y2 ⟨A2, n2, d2, rfl, hq2, bz⟩
 have N2 := hid (M2.out.next bz)
 have hb2 := bz.size
 have Bz2 := hid (bz)
 clear c2 bz
 have g2 := (N2.out.at_ (b := G) (cs := [txt n, .int .i64 s, .int .u16 g, .slice A0 n0 d0, .slice A1 n1 d1, .slice B2 m2 e2, .int .i64 o]) (t := 62) (by simp)).free 5
 have y2 := N2.out.cell (b := G) (cs := [txt n, .int .i64 s, .int .u16 g, .slice A0 n0 d0, .slice A1 n1 d1, .slice B2 m2 e2, .int .i64 o]) (t := 62) (by simp) (k := 5) rfl
 obtain ⟨X2, hX2⟩ : ∃ X, Y2.setCell ⟨G, 5, none⟩ (.slice A2 n2 d2) = X := ⟨_, rfl⟩
 have M3 := hid (show Mem w X2 [(G, [txt n, .int .i64 s, .int .u16 g, .slice A0 n0 d0, .slice A1 n1 d1, .slice A2 n2 d2, .int .i64 o], 62), (Z, [.string ⟨#[]⟩, .int .i64 0, .int .u16 0, .slice none 0 0, .slice none 0 0, .slice none 0 0, .int .i64 0], 62)] from hX2 ▸ N2.out.set HGw.out.1 (by simp; exact fun e => HGw.out.2.2 e.symm) 5 _)
 have HV3 := hid (show B ≤ X2.heap.size by rw [← hX2]; simp [World.setCell]; have := HV2.out; omega)
 have U2 := hid (show Abv B X1 X2 from hX2 ▸ (Abv.of Bz2.out).trans (Abv.set _ _ _ HBd.out.1))
 have V2 := hid (show Q2 B A2 n2 d2 X2 from S2.keep _ _ _ _ _ _ (S2.low _ _ _ _ _ _ hq2 HV2.out) (hX2 ▸ Abv.set _ _ _ HBd.out.1))
 clear hq2 Bz2 N2 hb2
 have gz := (M3.out.at_ (b := Z) (cs := [.string ⟨#[]⟩, .int .i64 0, .int .u16 0, .slice none 0 0, .slice none 0 0, .slice none 0 0, .int .i64 0]) (t := 62) (by simp)).free
 have f0 := gz 0
 have e20 := M3.out.cell (b := G) (cs := [txt n, .int .i64 s, .int .u16 g, .slice A0 n0 d0, .slice A1 n1 d1, .slice A2 n2 d2, .int .i64 o]) (t := 62) (by simp) (k := 0) rfl
 have z0 := M3.out.cell (b := Z) (cs := [.string ⟨#[]⟩, .int .i64 0, .int .u16 0, .slice none 0 0, .slice none 0 0, .slice none 0 0, .int .i64 0]) (t := 62) (by simp) (k := 0) rfl
 have f1 := gz 1
 have e21 := M3.out.cell (b := G) (cs := [txt n, .int .i64 s, .int .u16 g, .slice A0 n0 d0, .slice A1 n1 d1, .slice A2 n2 d2, .int .i64 o]) (t := 62) (by simp) (k := 1) rfl
 have z1 := M3.out.cell (b := Z) (cs := [.string ⟨#[]⟩, .int .i64 0, .int .u16 0, .slice none 0 0, .slice none 0 0, .slice none 0 0, .int .i64 0]) (t := 62) (by simp) (k := 1) rfl
 have f2 := gz 2
 have e22 := M3.out.cell (b := G) (cs := [txt n, .int .i64 s, .int .u16 g, .slice A0 n0 d0, .slice A1 n1 d1, .slice A2 n2 d2, .int .i64 o]) (t := 62) (by simp) (k := 2) rfl
 have z2 := M3.out.cell (b := Z) (cs := [.string ⟨#[]⟩, .int .i64 0, .int .u16 0, .slice none 0 0, .slice none 0 0, .slice none 0 0, .int .i64 0]) (t := 62) (by simp) (k := 2) rfl
 have f3 := gz 3
 have e23 := M3.out.cell (b := G) (cs := [txt n, .int .i64 s, .int .u16 g, .slice A0 n0 d0, .slice A1 n1 d1, .slice A2 n2 d2, .int .i64 o]) (t := 62) (by simp) (k := 3) rfl
 have z3 := M3.out.cell (b := Z) (cs := [.string ⟨#[]⟩, .int .i64 0, .int .u16 0, .slice none 0 0, .slice none 0 0, .slice none 0 0, .int .i64 0]) (t := 62) (by simp) (k := 3) rfl
 have f4 := gz 4
 have e24 := M3.out.cell (b := G) (cs := [txt n, .int .i64 s, .int .u16 g, .slice A0 n0 d0, .slice A1 n1 d1, .slice A2 n2 d2, .int .i64 o]) (t := 62) (by simp) (k := 4) rfl
 have z4 := M3.out.cell (b := Z) (cs := [.string ⟨#[]⟩, .int .i64 0, .int .u16 0, .slice none 0 0, .slice none 0 0, .slice none 0 0, .int .i64 0]) (t := 62) (by simp) (k := 4) rfl
 have f5 := gz 5
 have e25 := M3.out.cell (b := G) (cs := [txt n, .int .i64 s, .int .u16 g, .slice A0 n0 d0, .slice A1 n1 d1, .slice A2 n2 d2, .int .i64 o]) (t := 62) (by simp) (k := 5) rfl
 have z5 := M3.out.cell (b := Z) (cs := [.string ⟨#[]⟩, .int .i64 0, .int .u16 0, .slice none 0 0, .slice none 0 0, .slice none 0 0, .int .i64 0]) (t := 62) (by simp) (k := 5) rfl
 have f6 := gz 6
 have e26 := M3.out.cell (b := G) (cs := [txt n, .int .i64 s, .int .u16 g, .slice A0 n0 d0, .slice A1 n1 d1, .slice A2 n2 d2, .int .i64 o]) (t := 62) (by simp) (k := 6) rfl
 have z6 := M3.out.cell (b := Z) (cs := [.string ⟨#[]⟩, .int .i64 0, .int .u16 0, .slice none 0 0, .slice none 0 0, .slice none 0 0, .int .i64 0]) (t := 62) (by simp) (k := 6) rfl
 clear gz
 have Ms := hid (M3.out.sub (l' := [(Z, [.string ⟨#[]⟩, .int .i64 0, .int .u16 0, .slice none 0 0, .slice none 0 0, .slice none 0 0, .int .i64 0], 62), (G, [txt n, .int .i64 s, .int .u16 g, .slice A0 n0 d0, .slice A1 n1 d1, .slice A2 n2 d2, .int .i64 o], 62)]) (by simp))
 have HGZ := hid (show ∀ p ∈ ([(G, [txt n, .int .i64 s, .int .u16 g, .slice A0 n0 d0, .slice A1 n1 d1, .slice A2 n2 d2, .int .i64 o], 62)] : Obs), p.1 ≠ Z from by simp; exact HGw.out.2.2)
 obtain ⟨R, hR⟩ : ∃ R, (((((((X2.setCell ⟨Z, 0, none⟩ (txt n)).setCell ⟨Z, 1, none⟩ (.int .i64 s)).setCell ⟨Z, 2, none⟩ (.int .u16 g)).setCell ⟨Z, 3, none⟩ (.slice A0 n0 d0)).setCell ⟨Z, 4, none⟩ (.slice A1 n1 d1)).setCell ⟨Z, 5, none⟩ (.slice A2 n2 d2)).setCell ⟨Z, 6, none⟩ (.int .i64 o)) = R := ⟨_, rfl⟩
 have M9 := hid (show Mem w R [(Z, [txt n, .int .i64 s, .int .u16 g, .slice A0 n0 d0, .slice A1 n1 d1, .slice A2 n2 d2, .int .i64 o], 62), (G, [txt n, .int .i64 s, .int .u16 g, .slice A0 n0 d0, .slice A1 n1 d1, .slice A2 n2 d2, .int .i64 o], 62)] from hR ▸ (((((((Ms.out.set HGw.out.2.1 HGZ.out 0 (txt n)).set HGw.out.2.1 HGZ.out 1 (.int .i64 s)).set HGw.out.2.1 HGZ.out 2 (.int .u16 g)).set HGw.out.2.1 HGZ.out 3 (.slice A0 n0 d0)).set HGw.out.2.1 HGZ.out 4 (.slice A1 n1 d1)).set HGw.out.2.1 HGZ.out 5 (.slice A2 n2 d2)).set HGw.out.2.1 HGZ.out 6 (.int .i64 o)))
 have UR := hid (show Abv B X2 R from hR ▸ (((((((Abv.set _ _ _ HBd.out.2.1).trans (Abv.set _ _ _ HBd.out.2.1)).trans (Abv.set _ _ _ HBd.out.2.1)).trans (Abv.set _ _ _ HBd.out.2.1)).trans (Abv.set _ _ _ HBd.out.2.1)).trans (Abv.set _ _ _ HBd.out.2.1)).trans (Abv.set _ _ _ HBd.out.2.1)))
 have E0 := hid (S0.low _ _ _ _ _ _ (S0.keep _ _ _ _ _ _ V0.out ((U1.out.trans U2.out).trans UR.out)) HBd.out.2.2)
 have E1 := hid (S1.low _ _ _ _ _ _ (S1.keep _ _ _ _ _ _ V1.out (U2.out.trans UR.out)) HBd.out.2.2)
 have E2 := hid (S2.low _ _ _ _ _ _ (S2.keep _ _ _ _ _ _ V2.out UR.out) HBd.out.2.2)
 have r0 := M9.out.cell (b := Z) (cs := [txt n, .int .i64 s, .int .u16 g, .slice A0 n0 d0, .slice A1 n1 d1, .slice A2 n2 d2, .int .i64 o]) (t := 62) (by simp) (k := 0) rfl
 have r1 := M9.out.cell (b := Z) (cs := [txt n, .int .i64 s, .int .u16 g, .slice A0 n0 d0, .slice A1 n1 d1, .slice A2 n2 d2, .int .i64 o]) (t := 62) (by simp) (k := 1) rfl
 have r2 := M9.out.cell (b := Z) (cs := [txt n, .int .i64 s, .int .u16 g, .slice A0 n0 d0, .slice A1 n1 d1, .slice A2 n2 d2, .int .i64 o]) (t := 62) (by simp) (k := 2) rfl
 have r3 := M9.out.cell (b := Z) (cs := [txt n, .int .i64 s, .int .u16 g, .slice A0 n0 d0, .slice A1 n1 d1, .slice A2 n2 d2, .int .i64 o]) (t := 62) (by simp) (k := 3) rfl
 have r4 := M9.out.cell (b := Z) (cs := [txt n, .int .i64 s, .int .u16 g, .slice A0 n0 d0, .slice A1 n1 d1, .slice A2 n2 d2, .int .i64 o]) (t := 62) (by simp) (k := 4) rfl
 have r5 := M9.out.cell (b := Z) (cs := [txt n, .int .i64 s, .int .u16 g, .slice A0 n0 d0, .slice A1 n1 d1, .slice A2 n2 d2, .int .i64 o]) (t := 62) (by simp) (k := 5) rfl
 have r6 := M9.out.cell (b := Z) (cs := [txt n, .int .i64 s, .int .u16 g, .slice A0 n0 d0, .slice A1 n1 d1, .slice A2 n2 d2, .int .i64 o]) (t := 62) (by simp) (k := 6) rfl
 clear M3 Ms UR
 go_wp2_with fail
 exact bodyPost_ret (v := .agg #[txt n, .int .i64 s, .int .u16 g, .slice A0 n0 d0, .slice A1 n1 d1, .slice A2 n2 d2, .int .i64 o]) (by simp [results, Tryz.results76, go_sem, r0, r1, r2, r3, r4, r5, r6]) rfl ⟨A0, n0, d0, A1, n1, d1, A2, n2, d2, rfl, E0.out, E1.out, E2.out, M9.out.2⟩
set_option maxRecDepth 20000 in
set_option maxHeartbeats 4000000 in
theorem p_copyWayG  (B0 : Option Addr) (m0 e0 : Nat) (w : World) (Q0 : CpQ) (S0 : CpOk Q0)
    (H0 : ∀ X, Below w.heap.size w X → Calls Tryz.prog 71 #[.slice B0 m0 e0, .func (.func 72) #[] #[]] X (CpRet Q0 X))
    : Calls Tryz.prog 154 #[.agg #[.slice B0 m0 e0]] w (fun e w' => ∃ A0 n0 d0, e = .returned (.agg #[.slice A0 n0 d0]) ∧ Q0 w.heap.size A0 n0 d0 w' ∧ Below w.heap.size w w') := by
 have H0 := hid H0
 obtain ⟨G, W, hG, hW, K, hb0⟩ := (Mem.nil w).one [.slice B0 m0 e0] 67
 obtain ⟨Z, V, hZ, hV, K0, hb1⟩ := K.out.one [.slice none 0 0] 67
 have HGw := hid (show w.heap.size ≤ G ∧ w.heap.size ≤ Z ∧ G ≠ Z from by
  have h1 := (K.out.at_ (b := G) (cs := [.slice B0 m0 e0]) (t := 67) (by simp)).lt
  omega)
 obtain ⟨B, hB⟩ : ∃ B, V.heap.size = B := ⟨_, rfl⟩
 have HBd := hid (show G < B ∧ Z < B ∧ w.heap.size ≤ B from by
  have h1 := (K0.out.at_ (b := G) (cs := [.slice B0 m0 e0]) (t := 67) (by simp)).lt
  have h2 := (K0.out.at_ (b := Z) (cs := [.slice none 0 0]) (t := 67) (by simp)).lt
  have h3 := K0.out.2.size
  omega)
 have M0 := hid (K0.out.sub (l' := [(G, [.slice B0 m0 e0], 67), (Z, [.slice none 0 0], 67)]) (by simp))
 have HV0 := hid (show B ≤ V.heap.size by omega)
 clear hb0 hb1 K K0 hB
 have c0 := M0.out.cell (b := G) (cs := [.slice B0 m0 e0]) (t := 67) (by simp) (k := 0) rfl
 go_enter Tryz.func154, Tryz.ntmps154
 go_wp2_with fail
 refine (H0.out _ M0.out.2).mono ?_
 rintro e Y0 ⟨A0, n0, d0, rfl, hq0, bz⟩
 have N0 := hid (M0.out.next bz)
 have hb0 := bz.size
 have Bz0 := hid (bz)
 clear c0 bz
 have g0 := (N0.out.at_ (b := G) (cs := [.slice B0 m0 e0]) (t := 67) (by simp)).free 0
 have y0 := N0.out.cell (b := G) (cs := [.slice B0 m0 e0]) (t := 67) (by simp) (k := 0) rfl
 obtain ⟨X0, hX0⟩ : ∃ X, Y0.setCell ⟨G, 0, none⟩ (.slice A0 n0 d0) = X := ⟨_, rfl⟩
 have M1 := hid (show Mem w X0 [(G, [.slice A0 n0 d0], 67), (Z, [.slice none 0 0], 67)] from hX0 ▸ N0.out.set HGw.out.1 (by simp; exact fun e => HGw.out.2.2 e.symm) 0 _)
 have HV1 := hid (show B ≤ X0.heap.size by rw [← hX0]; simp [World.setCell]; have := HV0.out; omega)
 have U0 := hid (show Abv B V X0 from hX0 ▸ (Abv.of Bz0.out).trans (Abv.set _ _ _ HBd.out.1))
 have V0 := hid (show Q0 B A0 n0 d0 X0 from S0.keep _ _ _ _ _ _ (S0.low _ _ _ _ _ _ hq0 HV0.out) (hX0 ▸ Abv.set _ _ _ HBd.out.1))
 clear hq0 Bz0 N0 hb0
 have gz := (M1.out.at_ (b := Z) (cs := [.slice none 0 0]) (t := 67) (by simp)).free
 have f0 := gz 0
 have e20 := M1.out.cell (b := G) (cs := [.slice A0 n0 d0]) (t := 67) (by simp) (k := 0) rfl
 have z0 := M1.out.cell (b := Z) (cs := [.slice none 0 0]) (t := 67) (by simp) (k := 0) rfl
 clear gz
 have Ms := hid (M1.out.sub (l' := [(Z, [.slice none 0 0], 67), (G, [.slice A0 n0 d0], 67)]) (by simp))
 have HGZ := hid (show ∀ p ∈ ([(G, [.slice A0 n0 d0], 67)] : Obs), p.1 ≠ Z from by simp; exact HGw.out.2.2)
 obtain ⟨R, hR⟩ : ∃ R, (X0.setCell ⟨Z, 0, none⟩ (.slice A0 n0 d0)) = R := ⟨_, rfl⟩
 have M9 := hid (show Mem w R [(Z, [.slice A0 n0 d0], 67), (G, [.slice A0 n0 d0], 67)] from hR ▸ (Ms.out.set HGw.out.2.1 HGZ.out 0 (.slice A0 n0 d0)))
 have UR := hid (show Abv B X0 R from hR ▸ (Abv.set _ _ _ HBd.out.2.1))
 have E0 := hid (S0.low _ _ _ _ _ _ (S0.keep _ _ _ _ _ _ V0.out UR.out) HBd.out.2.2)
 have r0 := M9.out.cell (b := Z) (cs := [.slice A0 n0 d0]) (t := 67) (by simp) (k := 0) rfl
 clear M1 Ms UR
 go_wp2_with fail
 exact bodyPost_ret (v := .agg #[.slice A0 n0 d0]) (by simp [results, Tryz.results154, go_sem, r0]) rfl ⟨A0, n0, d0, rfl, E0.out, M9.out.2⟩
set_option maxRecDepth 20000 in
set_option maxHeartbeats 4000000 in
theorem p_copyCourseG (n : List UInt8) (B0 : Option Addr) (m0 e0 : Nat) (w : World) (Q0 : CpQ) (S0 : CpOk Q0)
    (H0 : ∀ X, Below w.heap.size w X → Calls Tryz.prog 153 #[.slice B0 m0 e0, .func (.func 154) #[] #[]] X (CpRet Q0 X))
    : Calls Tryz.prog 78 #[.agg #[txt n, .slice B0 m0 e0]] w (fun e w' => ∃ A0 n0 d0, e = .returned (.agg #[txt n, .slice A0 n0 d0]) ∧ Q0 w.heap.size A0 n0 d0 w' ∧ Below w.heap.size w w') := by
 have H0 := hid H0
 obtain ⟨G, W, hG, hW, K, hb0⟩ := (Mem.nil w).one [txt n, .slice B0 m0 e0] 65
 obtain ⟨Z, V, hZ, hV, K0, hb1⟩ := K.out.one [.string ⟨#[]⟩, .slice none 0 0] 65
 have HGw := hid (show w.heap.size ≤ G ∧ w.heap.size ≤ Z ∧ G ≠ Z from by
  have h1 := (K.out.at_ (b := G) (cs := [txt n, .slice B0 m0 e0]) (t := 65) (by simp)).lt
  omega)
 obtain ⟨B, hB⟩ : ∃ B, V.heap.size = B := ⟨_, rfl⟩
 have HBd := hid (show G < B ∧ Z < B ∧ w.heap.size ≤ B from by
  have h1 := (K0.out.at_ (b := G) (cs := [txt n, .slice B0 m0 e0]) (t := 65) (by simp)).lt
  have h2 := (K0.out.at_ (b := Z) (cs := [.string ⟨#[]⟩, .slice none 0 0]) (t := 65) (by simp)).lt
  have h3 := K0.out.2.size
  omega)
 have M0 := hid (K0.out.sub (l' := [(G, [txt n, .slice B0 m0 e0], 65), (Z, [.string ⟨#[]⟩, .slice none 0 0], 65)]) (by simp))
 have HV0 := hid (show B ≤ V.heap.size by omega)
 clear hb0 hb1 K K0 hB
 have c0 := M0.out.cell (b := G) (cs := [txt n, .slice B0 m0 e0]) (t := 65) (by simp) (k := 1) rfl
 go_enter Tryz.func78, Tryz.ntmps78
 go_wp2_with fail
 refine (H0.out _ M0.out.2).mono ?_
 rintro e Y0 ⟨A0, n0, d0, rfl, hq0, bz⟩
 have N0 := hid (M0.out.next bz)
 have hb0 := bz.size
 have Bz0 := hid (bz)
 clear c0 bz
 have g0 := (N0.out.at_ (b := G) (cs := [txt n, .slice B0 m0 e0]) (t := 65) (by simp)).free 1
 have y0 := N0.out.cell (b := G) (cs := [txt n, .slice B0 m0 e0]) (t := 65) (by simp) (k := 1) rfl
 obtain ⟨X0, hX0⟩ : ∃ X, Y0.setCell ⟨G, 1, none⟩ (.slice A0 n0 d0) = X := ⟨_, rfl⟩
 have M1 := hid (show Mem w X0 [(G, [txt n, .slice A0 n0 d0], 65), (Z, [.string ⟨#[]⟩, .slice none 0 0], 65)] from hX0 ▸ N0.out.set HGw.out.1 (by simp; exact fun e => HGw.out.2.2 e.symm) 1 _)
 have HV1 := hid (show B ≤ X0.heap.size by rw [← hX0]; simp [World.setCell]; have := HV0.out; omega)
 have U0 := hid (show Abv B V X0 from hX0 ▸ (Abv.of Bz0.out).trans (Abv.set _ _ _ HBd.out.1))
 have V0 := hid (show Q0 B A0 n0 d0 X0 from S0.keep _ _ _ _ _ _ (S0.low _ _ _ _ _ _ hq0 HV0.out) (hX0 ▸ Abv.set _ _ _ HBd.out.1))
 clear hq0 Bz0 N0 hb0
 have gz := (M1.out.at_ (b := Z) (cs := [.string ⟨#[]⟩, .slice none 0 0]) (t := 65) (by simp)).free
 have f0 := gz 0
 have e20 := M1.out.cell (b := G) (cs := [txt n, .slice A0 n0 d0]) (t := 65) (by simp) (k := 0) rfl
 have z0 := M1.out.cell (b := Z) (cs := [.string ⟨#[]⟩, .slice none 0 0]) (t := 65) (by simp) (k := 0) rfl
 have f1 := gz 1
 have e21 := M1.out.cell (b := G) (cs := [txt n, .slice A0 n0 d0]) (t := 65) (by simp) (k := 1) rfl
 have z1 := M1.out.cell (b := Z) (cs := [.string ⟨#[]⟩, .slice none 0 0]) (t := 65) (by simp) (k := 1) rfl
 clear gz
 have Ms := hid (M1.out.sub (l' := [(Z, [.string ⟨#[]⟩, .slice none 0 0], 65), (G, [txt n, .slice A0 n0 d0], 65)]) (by simp))
 have HGZ := hid (show ∀ p ∈ ([(G, [txt n, .slice A0 n0 d0], 65)] : Obs), p.1 ≠ Z from by simp; exact HGw.out.2.2)
 obtain ⟨R, hR⟩ : ∃ R, ((X0.setCell ⟨Z, 0, none⟩ (txt n)).setCell ⟨Z, 1, none⟩ (.slice A0 n0 d0)) = R := ⟨_, rfl⟩
 have M9 := hid (show Mem w R [(Z, [txt n, .slice A0 n0 d0], 65), (G, [txt n, .slice A0 n0 d0], 65)] from hR ▸ ((Ms.out.set HGw.out.2.1 HGZ.out 0 (txt n)).set HGw.out.2.1 HGZ.out 1 (.slice A0 n0 d0)))
 have UR := hid (show Abv B X0 R from hR ▸ ((Abv.set _ _ _ HBd.out.2.1).trans (Abv.set _ _ _ HBd.out.2.1)))
 have E0 := hid (S0.low _ _ _ _ _ _ (S0.keep _ _ _ _ _ _ V0.out UR.out) HBd.out.2.2)
 have r0 := M9.out.cell (b := Z) (cs := [txt n, .slice A0 n0 d0]) (t := 65) (by simp) (k := 0) rfl
 have r1 := M9.out.cell (b := Z) (cs := [txt n, .slice A0 n0 d0]) (t := 65) (by simp) (k := 1) rfl
 clear M1 Ms UR
 go_wp2_with fail
 exact bodyPost_ret (v := .agg #[txt n, .slice A0 n0 d0]) (by simp [results, Tryz.results78, go_sem, r0, r1]) rfl ⟨A0, n0, d0, rfl, E0.out, M9.out.2⟩
set_option maxRecDepth 20000 in
set_option maxHeartbeats 4000000 in
theorem p_copyStudentG (n : List UInt8) (B0 : Option Addr) (m0 e0 : Nat) (w : World) (Q0 : CpQ) (S0 : CpOk Q0)
    (H0 : ∀ X, Below w.heap.size w X → Calls Tryz.prog 72 #[.slice B0 m0 e0] X (CpRet Q0 X))
    : Calls Tryz.prog 80 #[.agg #[txt n, .slice B0 m0 e0]] w (fun e w' => ∃ A0 n0 d0, e = .returned (.agg #[txt n, .slice A0 n0 d0]) ∧ Q0 w.heap.size A0 n0 d0 w' ∧ Below w.heap.size w w') := by
 have H0 := hid H0
 obtain ⟨G, W, hG, hW, K, hb0⟩ := (Mem.nil w).one [txt n, .slice B0 m0 e0] 70
 obtain ⟨Z, V, hZ, hV, K0, hb1⟩ := K.out.one [.string ⟨#[]⟩, .slice none 0 0] 70
 have HGw := hid (show w.heap.size ≤ G ∧ w.heap.size ≤ Z ∧ G ≠ Z from by
  have h1 := (K.out.at_ (b := G) (cs := [txt n, .slice B0 m0 e0]) (t := 70) (by simp)).lt
  omega)
 obtain ⟨B, hB⟩ : ∃ B, V.heap.size = B := ⟨_, rfl⟩
 have HBd := hid (show G < B ∧ Z < B ∧ w.heap.size ≤ B from by
  have h1 := (K0.out.at_ (b := G) (cs := [txt n, .slice B0 m0 e0]) (t := 70) (by simp)).lt
  have h2 := (K0.out.at_ (b := Z) (cs := [.string ⟨#[]⟩, .slice none 0 0]) (t := 70) (by simp)).lt
  have h3 := K0.out.2.size
  omega)
 have M0 := hid (K0.out.sub (l' := [(G, [txt n, .slice B0 m0 e0], 70), (Z, [.string ⟨#[]⟩, .slice none 0 0], 70)]) (by simp))
 have HV0 := hid (show B ≤ V.heap.size by omega)
 clear hb0 hb1 K K0 hB
 have c0 := M0.out.cell (b := G) (cs := [txt n, .slice B0 m0 e0]) (t := 70) (by simp) (k := 1) rfl
 go_enter Tryz.func80, Tryz.ntmps80
 go_wp2_with fail
 refine (H0.out _ M0.out.2).mono ?_
 rintro e Y0 ⟨A0, n0, d0, rfl, hq0, bz⟩
 have N0 := hid (M0.out.next bz)
 have hb0 := bz.size
 have Bz0 := hid (bz)
 clear c0 bz
 have g0 := (N0.out.at_ (b := G) (cs := [txt n, .slice B0 m0 e0]) (t := 70) (by simp)).free 1
 have y0 := N0.out.cell (b := G) (cs := [txt n, .slice B0 m0 e0]) (t := 70) (by simp) (k := 1) rfl
 obtain ⟨X0, hX0⟩ : ∃ X, Y0.setCell ⟨G, 1, none⟩ (.slice A0 n0 d0) = X := ⟨_, rfl⟩
 have M1 := hid (show Mem w X0 [(G, [txt n, .slice A0 n0 d0], 70), (Z, [.string ⟨#[]⟩, .slice none 0 0], 70)] from hX0 ▸ N0.out.set HGw.out.1 (by simp; exact fun e => HGw.out.2.2 e.symm) 1 _)
 have HV1 := hid (show B ≤ X0.heap.size by rw [← hX0]; simp [World.setCell]; have := HV0.out; omega)
 have U0 := hid (show Abv B V X0 from hX0 ▸ (Abv.of Bz0.out).trans (Abv.set _ _ _ HBd.out.1))
 have V0 := hid (show Q0 B A0 n0 d0 X0 from S0.keep _ _ _ _ _ _ (S0.low _ _ _ _ _ _ hq0 HV0.out) (hX0 ▸ Abv.set _ _ _ HBd.out.1))
 clear hq0 Bz0 N0 hb0
 have gz := (M1.out.at_ (b := Z) (cs := [.string ⟨#[]⟩, .slice none 0 0]) (t := 70) (by simp)).free
 have f0 := gz 0
 have e20 := M1.out.cell (b := G) (cs := [txt n, .slice A0 n0 d0]) (t := 70) (by simp) (k := 0) rfl
 have z0 := M1.out.cell (b := Z) (cs := [.string ⟨#[]⟩, .slice none 0 0]) (t := 70) (by simp) (k := 0) rfl
 have f1 := gz 1
 have e21 := M1.out.cell (b := G) (cs := [txt n, .slice A0 n0 d0]) (t := 70) (by simp) (k := 1) rfl
 have z1 := M1.out.cell (b := Z) (cs := [.string ⟨#[]⟩, .slice none 0 0]) (t := 70) (by simp) (k := 1) rfl
 clear gz
 have Ms := hid (M1.out.sub (l' := [(Z, [.string ⟨#[]⟩, .slice none 0 0], 70), (G, [txt n, .slice A0 n0 d0], 70)]) (by simp))
 have HGZ := hid (show ∀ p ∈ ([(G, [txt n, .slice A0 n0 d0], 70)] : Obs), p.1 ≠ Z from by simp; exact HGw.out.2.2)
 obtain ⟨R, hR⟩ : ∃ R, ((X0.setCell ⟨Z, 0, none⟩ (txt n)).setCell ⟨Z, 1, none⟩ (.slice A0 n0 d0)) = R := ⟨_, rfl⟩
 have M9 := hid (show Mem w R [(Z, [txt n, .slice A0 n0 d0], 70), (G, [txt n, .slice A0 n0 d0], 70)] from hR ▸ ((Ms.out.set HGw.out.2.1 HGZ.out 0 (txt n)).set HGw.out.2.1 HGZ.out 1 (.slice A0 n0 d0)))
 have UR := hid (show Abv B X0 R from hR ▸ ((Abv.set _ _ _ HBd.out.2.1).trans (Abv.set _ _ _ HBd.out.2.1)))
 have E0 := hid (S0.low _ _ _ _ _ _ (S0.keep _ _ _ _ _ _ V0.out UR.out) HBd.out.2.2)
 have r0 := M9.out.cell (b := Z) (cs := [txt n, .slice A0 n0 d0]) (t := 70) (by simp) (k := 0) rfl
 have r1 := M9.out.cell (b := Z) (cs := [txt n, .slice A0 n0 d0]) (t := 70) (by simp) (k := 1) rfl
 clear M1 Ms UR
 go_wp2_with fail
 exact bodyPost_ret (v := .agg #[txt n, .slice A0 n0 d0]) (by simp [results, Tryz.results80, go_sem, r0, r1]) rfl ⟨A0, n0, d0, rfl, E0.out, M9.out.2⟩
set_option maxRecDepth 20000 in
set_option maxHeartbeats 4000000 in
theorem p_copyRuleG (k a b : Int) (h : Bool) (c : Int) (B0 : Option Addr) (m0 e0 : Nat) (w : World) (Q0 : CpQ) (S0 : CpOk Q0)
    (H0 : ∀ X, Below w.heap.size w X → Calls Tryz.prog 72 #[.slice B0 m0 e0] X (CpRet Q0 X))
    : Calls Tryz.prog 82 #[.agg #[.int .i64 k, .slice B0 m0 e0, .int .i64 a, .int .i64 b, .bool h, .int .i64 c]] w (fun e w' => ∃ A0 n0 d0, e = .returned (.agg #[.int .i64 k, .slice A0 n0 d0, .int .i64 a, .int .i64 b, .bool h, .int .i64 c]) ∧ Q0 w.heap.size A0 n0 d0 w' ∧ Below w.heap.size w w') := by
 have H0 := hid H0
 obtain ⟨G, W, hG, hW, K, hb0⟩ := (Mem.nil w).one [.int .i64 k, .slice B0 m0 e0, .int .i64 a, .int .i64 b, .bool h, .int .i64 c] 45
 obtain ⟨Z, V, hZ, hV, K0, hb1⟩ := K.out.one [.int .i64 0, .slice none 0 0, .int .i64 0, .int .i64 0, .bool false, .int .i64 0] 45
 have HGw := hid (show w.heap.size ≤ G ∧ w.heap.size ≤ Z ∧ G ≠ Z from by
  have h1 := (K.out.at_ (b := G) (cs := [.int .i64 k, .slice B0 m0 e0, .int .i64 a, .int .i64 b, .bool h, .int .i64 c]) (t := 45) (by simp)).lt
  omega)
 obtain ⟨B, hB⟩ : ∃ B, V.heap.size = B := ⟨_, rfl⟩
 have HBd := hid (show G < B ∧ Z < B ∧ w.heap.size ≤ B from by
  have h1 := (K0.out.at_ (b := G) (cs := [.int .i64 k, .slice B0 m0 e0, .int .i64 a, .int .i64 b, .bool h, .int .i64 c]) (t := 45) (by simp)).lt
  have h2 := (K0.out.at_ (b := Z) (cs := [.int .i64 0, .slice none 0 0, .int .i64 0, .int .i64 0, .bool false, .int .i64 0]) (t := 45) (by simp)).lt
  have h3 := K0.out.2.size
  omega)
 have M0 := hid (K0.out.sub (l' := [(G, [.int .i64 k, .slice B0 m0 e0, .int .i64 a, .int .i64 b, .bool h, .int .i64 c], 45), (Z, [.int .i64 0, .slice none 0 0, .int .i64 0, .int .i64 0, .bool false, .int .i64 0], 45)]) (by simp))
 have HV0 := hid (show B ≤ V.heap.size by omega)
 clear hb0 hb1 K K0 hB
 have c0 := M0.out.cell (b := G) (cs := [.int .i64 k, .slice B0 m0 e0, .int .i64 a, .int .i64 b, .bool h, .int .i64 c]) (t := 45) (by simp) (k := 1) rfl
 go_enter Tryz.func82, Tryz.ntmps82
 go_wp2_with fail
 refine (H0.out _ M0.out.2).mono ?_
 rintro e Y0 ⟨A0, n0, d0, rfl, hq0, bz⟩
 have N0 := hid (M0.out.next bz)
 have hb0 := bz.size
 have Bz0 := hid (bz)
 clear c0 bz
 have g0 := (N0.out.at_ (b := G) (cs := [.int .i64 k, .slice B0 m0 e0, .int .i64 a, .int .i64 b, .bool h, .int .i64 c]) (t := 45) (by simp)).free 1
 have y0 := N0.out.cell (b := G) (cs := [.int .i64 k, .slice B0 m0 e0, .int .i64 a, .int .i64 b, .bool h, .int .i64 c]) (t := 45) (by simp) (k := 1) rfl
 obtain ⟨X0, hX0⟩ : ∃ X, Y0.setCell ⟨G, 1, none⟩ (.slice A0 n0 d0) = X := ⟨_, rfl⟩
 have M1 := hid (show Mem w X0 [(G, [.int .i64 k, .slice A0 n0 d0, .int .i64 a, .int .i64 b, .bool h, .int .i64 c], 45), (Z, [.int .i64 0, .slice none 0 0, .int .i64 0, .int .i64 0, .bool false, .int .i64 0], 45)] from hX0 ▸ N0.out.set HGw.out.1 (by simp; exact fun e => HGw.out.2.2 e.symm) 1 _)
 have HV1 := hid (show B ≤ X0.heap.size by rw [← hX0]; simp [World.setCell]; have := HV0.out; omega)
 have U0 := hid (show Abv B V X0 from hX0 ▸ (Abv.of Bz0.out).trans (Abv.set _ _ _ HBd.out.1))
 have V0 := hid (show Q0 B A0 n0 d0 X0 from S0.keep _ _ _ _ _ _ (S0.low _ _ _ _ _ _ hq0 HV0.out) (hX0 ▸ Abv.set _ _ _ HBd.out.1))
 clear hq0 Bz0 N0 hb0
 have gz := (M1.out.at_ (b := Z) (cs := [.int .i64 0, .slice none 0 0, .int .i64 0, .int .i64 0, .bool false, .int .i64 0]) (t := 45) (by simp)).free
 have f0 := gz 0
 have e20 := M1.out.cell (b := G) (cs := [.int .i64 k, .slice A0 n0 d0, .int .i64 a, .int .i64 b, .bool h, .int .i64 c]) (t := 45) (by simp) (k := 0) rfl
 have z0 := M1.out.cell (b := Z) (cs := [.int .i64 0, .slice none 0 0, .int .i64 0, .int .i64 0, .bool false, .int .i64 0]) (t := 45) (by simp) (k := 0) rfl
 have f1 := gz 1
 have e21 := M1.out.cell (b := G) (cs := [.int .i64 k, .slice A0 n0 d0, .int .i64 a, .int .i64 b, .bool h, .int .i64 c]) (t := 45) (by simp) (k := 1) rfl
 have z1 := M1.out.cell (b := Z) (cs := [.int .i64 0, .slice none 0 0, .int .i64 0, .int .i64 0, .bool false, .int .i64 0]) (t := 45) (by simp) (k := 1) rfl
 have f2 := gz 2
 have e22 := M1.out.cell (b := G) (cs := [.int .i64 k, .slice A0 n0 d0, .int .i64 a, .int .i64 b, .bool h, .int .i64 c]) (t := 45) (by simp) (k := 2) rfl
 have z2 := M1.out.cell (b := Z) (cs := [.int .i64 0, .slice none 0 0, .int .i64 0, .int .i64 0, .bool false, .int .i64 0]) (t := 45) (by simp) (k := 2) rfl
 have f3 := gz 3
 have e23 := M1.out.cell (b := G) (cs := [.int .i64 k, .slice A0 n0 d0, .int .i64 a, .int .i64 b, .bool h, .int .i64 c]) (t := 45) (by simp) (k := 3) rfl
 have z3 := M1.out.cell (b := Z) (cs := [.int .i64 0, .slice none 0 0, .int .i64 0, .int .i64 0, .bool false, .int .i64 0]) (t := 45) (by simp) (k := 3) rfl
 have f4 := gz 4
 have e24 := M1.out.cell (b := G) (cs := [.int .i64 k, .slice A0 n0 d0, .int .i64 a, .int .i64 b, .bool h, .int .i64 c]) (t := 45) (by simp) (k := 4) rfl
 have z4 := M1.out.cell (b := Z) (cs := [.int .i64 0, .slice none 0 0, .int .i64 0, .int .i64 0, .bool false, .int .i64 0]) (t := 45) (by simp) (k := 4) rfl
 have f5 := gz 5
 have e25 := M1.out.cell (b := G) (cs := [.int .i64 k, .slice A0 n0 d0, .int .i64 a, .int .i64 b, .bool h, .int .i64 c]) (t := 45) (by simp) (k := 5) rfl
 have z5 := M1.out.cell (b := Z) (cs := [.int .i64 0, .slice none 0 0, .int .i64 0, .int .i64 0, .bool false, .int .i64 0]) (t := 45) (by simp) (k := 5) rfl
 clear gz
 have Ms := hid (M1.out.sub (l' := [(Z, [.int .i64 0, .slice none 0 0, .int .i64 0, .int .i64 0, .bool false, .int .i64 0], 45), (G, [.int .i64 k, .slice A0 n0 d0, .int .i64 a, .int .i64 b, .bool h, .int .i64 c], 45)]) (by simp))
 have HGZ := hid (show ∀ p ∈ ([(G, [.int .i64 k, .slice A0 n0 d0, .int .i64 a, .int .i64 b, .bool h, .int .i64 c], 45)] : Obs), p.1 ≠ Z from by simp; exact HGw.out.2.2)
 obtain ⟨R, hR⟩ : ∃ R, ((((((X0.setCell ⟨Z, 0, none⟩ (.int .i64 k)).setCell ⟨Z, 1, none⟩ (.slice A0 n0 d0)).setCell ⟨Z, 2, none⟩ (.int .i64 a)).setCell ⟨Z, 3, none⟩ (.int .i64 b)).setCell ⟨Z, 4, none⟩ (.bool h)).setCell ⟨Z, 5, none⟩ (.int .i64 c)) = R := ⟨_, rfl⟩
 have M9 := hid (show Mem w R [(Z, [.int .i64 k, .slice A0 n0 d0, .int .i64 a, .int .i64 b, .bool h, .int .i64 c], 45), (G, [.int .i64 k, .slice A0 n0 d0, .int .i64 a, .int .i64 b, .bool h, .int .i64 c], 45)] from hR ▸ ((((((Ms.out.set HGw.out.2.1 HGZ.out 0 (.int .i64 k)).set HGw.out.2.1 HGZ.out 1 (.slice A0 n0 d0)).set HGw.out.2.1 HGZ.out 2 (.int .i64 a)).set HGw.out.2.1 HGZ.out 3 (.int .i64 b)).set HGw.out.2.1 HGZ.out 4 (.bool h)).set HGw.out.2.1 HGZ.out 5 (.int .i64 c)))
 have UR := hid (show Abv B X0 R from hR ▸ ((((((Abv.set _ _ _ HBd.out.2.1).trans (Abv.set _ _ _ HBd.out.2.1)).trans (Abv.set _ _ _ HBd.out.2.1)).trans (Abv.set _ _ _ HBd.out.2.1)).trans (Abv.set _ _ _ HBd.out.2.1)).trans (Abv.set _ _ _ HBd.out.2.1)))
 have E0 := hid (S0.low _ _ _ _ _ _ (S0.keep _ _ _ _ _ _ V0.out UR.out) HBd.out.2.2)
 have r0 := M9.out.cell (b := Z) (cs := [.int .i64 k, .slice A0 n0 d0, .int .i64 a, .int .i64 b, .bool h, .int .i64 c]) (t := 45) (by simp) (k := 0) rfl
 have r1 := M9.out.cell (b := Z) (cs := [.int .i64 k, .slice A0 n0 d0, .int .i64 a, .int .i64 b, .bool h, .int .i64 c]) (t := 45) (by simp) (k := 1) rfl
 have r2 := M9.out.cell (b := Z) (cs := [.int .i64 k, .slice A0 n0 d0, .int .i64 a, .int .i64 b, .bool h, .int .i64 c]) (t := 45) (by simp) (k := 2) rfl
 have r3 := M9.out.cell (b := Z) (cs := [.int .i64 k, .slice A0 n0 d0, .int .i64 a, .int .i64 b, .bool h, .int .i64 c]) (t := 45) (by simp) (k := 3) rfl
 have r4 := M9.out.cell (b := Z) (cs := [.int .i64 k, .slice A0 n0 d0, .int .i64 a, .int .i64 b, .bool h, .int .i64 c]) (t := 45) (by simp) (k := 4) rfl
 have r5 := M9.out.cell (b := Z) (cs := [.int .i64 k, .slice A0 n0 d0, .int .i64 a, .int .i64 b, .bool h, .int .i64 c]) (t := 45) (by simp) (k := 5) rfl
 clear M1 Ms UR
 go_wp2_with fail
 exact bodyPost_ret (v := .agg #[.int .i64 k, .slice A0 n0 d0, .int .i64 a, .int .i64 b, .bool h, .int .i64 c]) (by simp [results, Tryz.results82, go_sem, r0, r1, r2, r3, r4, r5]) rfl ⟨A0, n0, d0, rfl, E0.out, M9.out.2⟩
end Go.Proofs.YtgmgccepmalahaaGreat

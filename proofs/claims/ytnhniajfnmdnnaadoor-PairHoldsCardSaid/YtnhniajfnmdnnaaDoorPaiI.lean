/- What the laws of layer 15 ask of the program's own functions, and the heads (the chapter's examples) by it. -/
import Derived.Test.YtnhniajfnmdnnaaDoorPaiH
namespace Go.Proofs.YtnhniajfnmdnnaaDoor
open Go.RowKit
open Whn (Gr Wh)

/-- the contracts of the program's own functions, in the document's words -/
structure Own : Prop where
  holds : ∀ (g : Gr) (k n : Int) (x y : Sp) (walk : Int) (X : World), I64 k → I64 n → I64 walk → SpOk x → SpOk y → Tbn X → Calls Tryd.prog 9 #[gv g, .int .i64 k, .int .i64 n, spv x, spv y, .int .i64 walk] X (Did (.bool (prH g k n x y walk)) X)
  never : ∀ (g : Gr) (k n : Int) (x y : Sp) (walk : Int) (X : World), I64 k → I64 n → I64 walk → SpOk x → SpOk y → Tbn X → Calls Tryd.prog 14 #[gv g, .int .i64 k, .int .i64 n, spv x, spv y, .int .i64 walk] X (Did (.bool (prN g k n x y walk)) X)
  known : ∀ (k : Int) (X : World), I64 k → Calls Tryd.prog 15 #[.int .i64 k] X (Did (.bool (knB k)) X)
  needs : ∀ (k : Int) (X : World), I64 k → Calls Tryd.prog 17 #[.int .i64 k] X (Did (.tuple #[.bool (ndT k), .bool (ndR k)]) X)
  turns : ∀ (k : Int) (X : World), I64 k → Calls Tryd.prog 22 #[.int .i64 k] X (Did (.bool (knB k && !decide (k = 12))) X)
  name : ∀ (k : Int) (X : World), I64 k → Tbn X → Calls Tryd.prog 23 #[.int .i64 k] X (Did (txt (nmB k)) X)
  kind : ∀ (s : List UInt8) (X : World), s.length ≤ maxLen → Tbn X → Calls Tryd.prog 19 #[txt s] X (Did (kdV s) X)
abbrev atS (a b : Int) : Sp := ⟨⟨1, 1, a, b⟩, -1⟩
set_option maxRecDepth 20000 in
theorem l_at (a b : Int) (w : World) : Calls Tryd.prog 30 #[.int .i64 a, .int .i64 b] w (Did (spv (atS a b)) w) := by
  obtain ⟨R, U, hR, hU, K, z⟩ := (Mem.nil w).one [.int .u32 0, .int .u8 0, .int .i64 0, .int .i64 0, .int .i64 0] 29
  have ho := K.out.at_ (b := R) (cs := [.int .u32 0, .int .u8 0, .int .i64 0, .int .i64 0, .int .i64 0]) (t := 29) (by simp)
  have r0 := ho.cell (k := 0) rfl
  have r1 := ho.cell (k := 1) rfl
  have r2 := ho.cell (k := 2) rfl
  have r3 := ho.cell (k := 3) rfl
  have r4 := ho.cell (k := 4) rfl
  have s0 := ho.free 0
  have s1 := ho.free 1
  have s2 := ho.free 2
  have s3 := ho.free 3
  have s4 := ho.free 4
  have hRw : w.heap.size ≤ R := Nat.le_of_eq hR
  have KR := hid (((((K.out.set hRw (by intro p hp; cases hp) 0 (.int .u32 1)).set hRw (by intro p hp; cases hp) 1 (.int .u8 1)).set hRw (by intro p hp; cases hp) 2 (.int .i64 a)).set hRw (by intro p hp; cases hp) 3 (.int .i64 b)).set hRw (by intro p hp; cases hp) 4 (.int .i64 (-1)))
  clear ho z K hRw
  go_enter Tryd.func30, Tryd.ntmps30
  go_wp2_with fail
  have y0 := KR.out.cell (b := R) (cs := [.int .u32 1, .int .u8 1, .int .i64 a, .int .i64 b, .int .i64 (-1)]) (t := 29) (by simp) (k := 0) rfl
  have y1 := KR.out.cell (b := R) (cs := [.int .u32 1, .int .u8 1, .int .i64 a, .int .i64 b, .int .i64 (-1)]) (t := 29) (by simp) (k := 1) rfl
  have y2 := KR.out.cell (b := R) (cs := [.int .u32 1, .int .u8 1, .int .i64 a, .int .i64 b, .int .i64 (-1)]) (t := 29) (by simp) (k := 2) rfl
  have y3 := KR.out.cell (b := R) (cs := [.int .u32 1, .int .u8 1, .int .i64 a, .int .i64 b, .int .i64 (-1)]) (t := 29) (by simp) (k := 3) rfl
  have y4 := KR.out.cell (b := R) (cs := [.int .u32 1, .int .u8 1, .int .i64 a, .int .i64 b, .int .i64 (-1)]) (t := 29) (by simp) (k := 4) rfl
  exact bodyPost_ret (v := .agg #[.int .u32 1, .int .u8 1, .int .i64 a, .int .i64 b, .int .i64 (-1)]) (by simp [results, Tryd.results30, go_sem, y0, y1, y2, y3, y4]) rfl (Did.mk rfl KR.out.2)
abbrev g8 : Gr := ⟨1, 1, 8⟩
abbrev zS : Sp := ⟨⟨0, 0, 0, 0⟩, 0⟩
theorem at_ok (a b : Int) (ha : I64 a) (hb : I64 b) : SpOk (atS a b) := ⟨⟨by show 1 < 4294967296; omega, by show 1 < 256; omega, ha, hb⟩, by show I64 (-1); unfold I64; omega⟩
theorem z_ok : SpOk zS := ⟨⟨by show 0 < 4294967296; omega, by show 0 < 256; omega, by show I64 0; unfold I64; omega, by show I64 0; unfold I64; omega⟩, by show I64 0; unfold I64; omega⟩
theorem i64_of (k : Int) (h : -1000 ≤ k ∧ k ≤ 1000) : I64 k := by unfold I64; omega
set_option maxRecDepth 20000 in
set_option maxHeartbeats 16000000 in
theorem heads15 (O : Own) (w : World) (hT : Tbn w) : Calls Tryd.prog 11 #[] w (Did (.bool true) w) := by
  have ok := hid (fun a b ha hb => at_ok a b (i64_of a ha) (i64_of b hb))
  have HA := hid (fun a b X => l_at a b X)
  have HT := hid hT
  have HK := hid (fun X h => O.kind [102, 111, 108, 107] X (by show 4 ≤ maxLen; unfold maxLen; omega) h)
  rw [show kdV [102, 111, 108, 107] = .tuple #[.int .i64 14, .bool true] from by kernel_rfl] at HK
  have H1 := hid (fun X h => O.holds g8 2 0 (atS 0 4) (atS 1 2) 0 X (i64_of _ (by omega)) (i64_of _ (by omega)) (i64_of _ (by omega)) (ok.out 0 4 (by omega) (by omega)) (ok.out 1 2 (by omega) (by omega)) h)
  rw [show prH g8 2 0 (atS 0 4) (atS 1 2) 0 = true from by kernel_rfl] at H1
  have H2 := hid (fun X h => O.holds g8 13 4 (atS 0 2) (atS 3 2) 0 X (i64_of _ (by omega)) (i64_of _ (by omega)) (i64_of _ (by omega)) (ok.out 0 2 (by omega) (by omega)) (ok.out 3 2 (by omega) (by omega)) h)
  rw [show prH g8 13 4 (atS 0 2) (atS 3 2) 0 = false from by kernel_rfl] at H2
  have N1 := hid (fun X h => O.never g8 13 4 (atS 0 2) (atS 3 2) 0 X (i64_of _ (by omega)) (i64_of _ (by omega)) (i64_of _ (by omega)) (ok.out 0 2 (by omega) (by omega)) (ok.out 3 2 (by omega) (by omega)) h)
  rw [show prN g8 13 4 (atS 0 2) (atS 3 2) 0 = true from by kernel_rfl] at N1
  have N2 := hid (fun X h => O.never g8 8 0 zS (atS 0 1) 0 X (i64_of _ (by omega)) (i64_of _ (by omega)) (i64_of _ (by omega)) z_ok (ok.out 0 1 (by omega) (by omega)) h)
  rw [show prN g8 8 0 zS (atS 0 1) 0 = false from by kernel_rfl] at N2
  have NM := hid (fun X h => O.name 24 X (i64_of _ (by omega)) h)
  have T1 := hid (fun X => O.turns 12 X (i64_of _ (by omega)))
  rw [show (knB 12 && !decide ((12 : Int) = 12)) = false from rfl] at T1
  have T2 := hid (fun X => O.turns 14 X (i64_of _ (by omega)))
  rw [show (knB 14 && !decide ((14 : Int) = 12)) = true from rfl] at T2
  obtain ⟨B, W, hB, hW, K, hb0⟩ := (Mem.nil w).one (gc g8) 23
  clear hb0 hT
  go_enter Tryd.func11, Tryd.ntmps11
  go_wp2_with fail
  refine (HK.out _ (HT.out.next K.out.2)).mono ?_
  rintro e Y0 ⟨rfl, bz⟩
  have K0 := hid (K.out.next bz)
  clear bz hB hW K
  go_wp2_with fail
  refine wp_region_held_drew (S := fun X => Mem w X [(B, gc g8, 23)]) (by kernel_rfl) K0.out.drew (fun hHeld => ?_)
  have K1 := hid K0.out.drew
  clear K0
  refine takeH 0 10 (gv g8) rfl rfl (by kernel_rfl) (by kernel_rfl) (by kernel_rfl) (fun _ _ _ h => h) (by kernel_rfl) (fun X hX => by obtain ⟨q0, q1, q2⟩ := hX.gr (B := B) (g := g8) (by simp); clear hX; go_simp) hHeld ?_
  simp only [Act.put, List.setIfInBounds_toArray, List.set_cons_zero, List.set_cons_succ]
  refine takeH 1 11 (.func (.func 30) #[] #[]) rfl rfl (by kernel_rfl) (by kernel_rfl) (by kernel_rfl) (fun _ _ _ h => h) (by kernel_rfl) (fun X hX => by clear hX; first | rfl | go_simp) hHeld ?_
  simp only [Act.put, List.setIfInBounds_toArray, List.set_cons_zero, List.set_cons_succ]
  refine takeH 3 13 (.func (.func 30) #[] #[]) rfl rfl (by kernel_rfl) (by kernel_rfl) (by kernel_rfl) (fun _ _ _ h => h) (by kernel_rfl) (fun X hX => by clear hX; first | rfl | go_simp) hHeld ?_
  simp only [Act.put, List.setIfInBounds_toArray, List.set_cons_zero, List.set_cons_succ]
  refine wpAnyH_ready (rs := [2]) (by kernel_rfl) (by simp) ?_
  refine AllReadyH.cons rfl (fun KK hK => ?_) AllReadyH.nil
  simp only [List.getElem_toArray, List.getElem_cons_succ, List.getElem_cons_zero]
  go_simp
  refine (HA.out 0 4 _).mono ?_
  rintro e Y2 ⟨rfl, bz⟩
  have K2 := hid (K1.out.next bz)
  refine hK.out _ _ K2.out (fun hHeld => ?_)
  clear hK KK
  try simp only [Act.put, List.setIfInBounds_toArray, List.set_cons_zero, List.set_cons_succ]
  clear bz K1
  refine wpAnyH_ready (rs := [4]) (by kernel_rfl) (by simp) ?_
  refine AllReadyH.cons rfl (fun KK hK => ?_) AllReadyH.nil
  simp only [List.getElem_toArray, List.getElem_cons_succ, List.getElem_cons_zero]
  go_simp
  refine (HA.out 1 2 _).mono ?_
  rintro e Y3 ⟨rfl, bz⟩
  have K3 := hid (K2.out.next bz)
  refine hK.out _ _ K3.out (fun hHeld => ?_)
  clear hK KK
  try simp only [Act.put, List.setIfInBounds_toArray, List.set_cons_zero, List.set_cons_succ]
  clear bz K2
  refine wpAnyH_ready (rs := [5]) (by kernel_rfl) (by simp) ?_
  refine AllReadyH.cons rfl (fun KK hK => ?_) AllReadyH.nil
  simp only [List.getElem_toArray, List.getElem_cons_succ, List.getElem_cons_zero]
  go_simp
  refine (H1.out _ (HT.out.next K3.out.2)).mono ?_
  rintro e Y4 ⟨rfl, bz⟩
  have K4 := hid (K3.out.next bz)
  refine hK.out _ _ K4.out (fun hHeld => ?_)
  clear hK KK
  try simp only [Act.put, List.setIfInBounds_toArray, List.set_cons_zero, List.set_cons_succ]
  clear bz K3
  refine takeH 6 16 (.bool true) rfl rfl (by kernel_rfl) (by kernel_rfl) (by kernel_rfl) (fun _ _ _ h => h) (by kernel_rfl) (fun X hX => by clear hX; first | rfl | go_simp) hHeld ?_
  simp only [Act.put, List.setIfInBounds_toArray, List.set_cons_zero, List.set_cons_succ]
  refine takeH 7 17 (gv g8) rfl rfl (by kernel_rfl) (by kernel_rfl) (by kernel_rfl) (fun _ _ _ h => h) (by kernel_rfl) (fun X hX => by obtain ⟨q0, q1, q2⟩ := hX.gr (B := B) (g := g8) (by simp); clear hX; go_simp) hHeld ?_
  simp only [Act.put, List.setIfInBounds_toArray, List.set_cons_zero, List.set_cons_succ]
  refine takeH 8 18 (.func (.func 30) #[] #[]) rfl rfl (by kernel_rfl) (by kernel_rfl) (by kernel_rfl) (fun _ _ _ h => h) (by kernel_rfl) (fun X hX => by clear hX; first | rfl | go_simp) hHeld ?_
  simp only [Act.put, List.setIfInBounds_toArray, List.set_cons_zero, List.set_cons_succ]
  refine takeH 10 20 (.func (.func 30) #[] #[]) rfl rfl (by kernel_rfl) (by kernel_rfl) (by kernel_rfl) (fun _ _ _ h => h) (by kernel_rfl) (fun X hX => by clear hX; first | rfl | go_simp) hHeld ?_
  simp only [Act.put, List.setIfInBounds_toArray, List.set_cons_zero, List.set_cons_succ]
  refine wpAnyH_ready (rs := [9]) (by kernel_rfl) (by simp) ?_
  refine AllReadyH.cons rfl (fun KK hK => ?_) AllReadyH.nil
  simp only [List.getElem_toArray, List.getElem_cons_succ, List.getElem_cons_zero]
  go_simp
  refine (HA.out 0 2 _).mono ?_
  rintro e Y5 ⟨rfl, bz⟩
  have K5 := hid (K4.out.next bz)
  refine hK.out _ _ K5.out (fun hHeld => ?_)
  clear hK KK
  try simp only [Act.put, List.setIfInBounds_toArray, List.set_cons_zero, List.set_cons_succ]
  clear bz K4
  refine wpAnyH_ready (rs := [11]) (by kernel_rfl) (by simp) ?_
  refine AllReadyH.cons rfl (fun KK hK => ?_) AllReadyH.nil
  simp only [List.getElem_toArray, List.getElem_cons_succ, List.getElem_cons_zero]
  go_simp
  refine (HA.out 3 2 _).mono ?_
  rintro e Y6 ⟨rfl, bz⟩
  have K6 := hid (K5.out.next bz)
  refine hK.out _ _ K6.out (fun hHeld => ?_)
  clear hK KK
  try simp only [Act.put, List.setIfInBounds_toArray, List.set_cons_zero, List.set_cons_succ]
  clear bz K5
  refine wpAnyH_ready (rs := [12]) (by kernel_rfl) (by simp) ?_
  refine AllReadyH.cons rfl (fun KK hK => ?_) AllReadyH.nil
  simp only [List.getElem_toArray, List.getElem_cons_succ, List.getElem_cons_zero]
  go_simp
  refine (H2.out _ (HT.out.next K6.out.2)).mono ?_
  rintro e Y7 ⟨rfl, bz⟩
  have K7 := hid (K6.out.next bz)
  refine hK.out _ _ K7.out (fun hHeld => ?_)
  clear hK KK
  try simp only [Act.put, List.setIfInBounds_toArray, List.set_cons_zero, List.set_cons_succ]
  clear bz K6
  refine takeH 13 23 (.bool true) rfl rfl (by kernel_rfl) (by kernel_rfl) (by kernel_rfl) (fun _ _ _ h => h) (by kernel_rfl) (fun X hX => by clear hX; first | rfl | go_simp) hHeld ?_
  simp only [Act.put, List.setIfInBounds_toArray, List.set_cons_zero, List.set_cons_succ]
  refine takeH 14 24 (.bool true) rfl rfl (by kernel_rfl) (by kernel_rfl) (by kernel_rfl) (fun _ _ _ h => h) (by kernel_rfl) (fun X hX => by clear hX; first | rfl | go_simp) hHeld ?_
  simp only [Act.put, List.setIfInBounds_toArray, List.set_cons_zero, List.set_cons_succ]
  refine takeH 15 25 (.bool true) rfl rfl (by kernel_rfl) (by kernel_rfl) (by kernel_rfl) (fun _ _ _ h => h) (by kernel_rfl) (fun X hX => by clear hX; first | rfl | go_simp) hHeld ?_
  simp only [Act.put, List.setIfInBounds_toArray, List.set_cons_zero, List.set_cons_succ]
  refine takeH 16 26 (gv g8) rfl rfl (by kernel_rfl) (by kernel_rfl) (by kernel_rfl) (fun _ _ _ h => h) (by kernel_rfl) (fun X hX => by obtain ⟨q0, q1, q2⟩ := hX.gr (B := B) (g := g8) (by simp); clear hX; go_simp) hHeld ?_
  simp only [Act.put, List.setIfInBounds_toArray, List.set_cons_zero, List.set_cons_succ]
  refine takeH 17 27 (.func (.func 30) #[] #[]) rfl rfl (by kernel_rfl) (by kernel_rfl) (by kernel_rfl) (fun _ _ _ h => h) (by kernel_rfl) (fun X hX => by clear hX; first | rfl | go_simp) hHeld ?_
  simp only [Act.put, List.setIfInBounds_toArray, List.set_cons_zero, List.set_cons_succ]
  refine takeH 19 29 (.func (.func 30) #[] #[]) rfl rfl (by kernel_rfl) (by kernel_rfl) (by kernel_rfl) (fun _ _ _ h => h) (by kernel_rfl) (fun X hX => by clear hX; first | rfl | go_simp) hHeld ?_
  simp only [Act.put, List.setIfInBounds_toArray, List.set_cons_zero, List.set_cons_succ]
  refine wpAnyH_ready (rs := [18]) (by kernel_rfl) (by simp) ?_
  refine AllReadyH.cons rfl (fun KK hK => ?_) AllReadyH.nil
  simp only [List.getElem_toArray, List.getElem_cons_succ, List.getElem_cons_zero]
  go_simp
  refine (HA.out 0 2 _).mono ?_
  rintro e Y8 ⟨rfl, bz⟩
  have K8 := hid (K7.out.next bz)
  refine hK.out _ _ K8.out (fun hHeld => ?_)
  clear hK KK
  try simp only [Act.put, List.setIfInBounds_toArray, List.set_cons_zero, List.set_cons_succ]
  clear bz K7
  refine wpAnyH_ready (rs := [20]) (by kernel_rfl) (by simp) ?_
  refine AllReadyH.cons rfl (fun KK hK => ?_) AllReadyH.nil
  simp only [List.getElem_toArray, List.getElem_cons_succ, List.getElem_cons_zero]
  go_simp
  refine (HA.out 3 2 _).mono ?_
  rintro e Y9 ⟨rfl, bz⟩
  have K9 := hid (K8.out.next bz)
  refine hK.out _ _ K9.out (fun hHeld => ?_)
  clear hK KK
  try simp only [Act.put, List.setIfInBounds_toArray, List.set_cons_zero, List.set_cons_succ]
  clear bz K8
  refine wpAnyH_ready (rs := [21]) (by kernel_rfl) (by simp) ?_
  refine AllReadyH.cons rfl (fun KK hK => ?_) AllReadyH.nil
  simp only [List.getElem_toArray, List.getElem_cons_succ, List.getElem_cons_zero]
  go_simp
  refine (N1.out _ (HT.out.next K9.out.2)).mono ?_
  rintro e Y10 ⟨rfl, bz⟩
  have K10 := hid (K9.out.next bz)
  refine hK.out _ _ K10.out (fun hHeld => ?_)
  clear hK KK
  try simp only [Act.put, List.setIfInBounds_toArray, List.set_cons_zero, List.set_cons_succ]
  clear bz K9
  refine takeH 22 32 (.bool true) rfl rfl (by kernel_rfl) (by kernel_rfl) (by kernel_rfl) (fun _ _ _ h => h) (by kernel_rfl) (fun X hX => by clear hX; first | rfl | go_simp) hHeld ?_
  simp only [Act.put, List.setIfInBounds_toArray, List.set_cons_zero, List.set_cons_succ]
  refine takeH 23 33 (.bool true) rfl rfl (by kernel_rfl) (by kernel_rfl) (by kernel_rfl) (fun _ _ _ h => h) (by kernel_rfl) (fun X hX => by clear hX; first | rfl | go_simp) hHeld ?_
  simp only [Act.put, List.setIfInBounds_toArray, List.set_cons_zero, List.set_cons_succ]
  refine takeH 24 34 (gv g8) rfl rfl (by kernel_rfl) (by kernel_rfl) (by kernel_rfl) (fun _ _ _ h => h) (by kernel_rfl) (fun X hX => by obtain ⟨q0, q1, q2⟩ := hX.gr (B := B) (g := g8) (by simp); clear hX; go_simp) hHeld ?_
  simp only [Act.put, List.setIfInBounds_toArray, List.set_cons_zero, List.set_cons_succ]
  refine takeH 25 35 (spv zS) rfl rfl (by kernel_rfl) (by kernel_rfl) (by kernel_rfl) (fun _ _ _ h => h) (by kernel_rfl) (fun X hX => by clear hX; first | rfl | go_simp) hHeld ?_
  simp only [Act.put, List.setIfInBounds_toArray, List.set_cons_zero, List.set_cons_succ]
  refine takeH 26 36 (.func (.func 30) #[] #[]) rfl rfl (by kernel_rfl) (by kernel_rfl) (by kernel_rfl) (fun _ _ _ h => h) (by kernel_rfl) (fun X hX => by clear hX; first | rfl | go_simp) hHeld ?_
  simp only [Act.put, List.setIfInBounds_toArray, List.set_cons_zero, List.set_cons_succ]
  refine wpAnyH_ready (rs := [27]) (by kernel_rfl) (by simp) ?_
  refine AllReadyH.cons rfl (fun KK hK => ?_) AllReadyH.nil
  simp only [List.getElem_toArray, List.getElem_cons_succ, List.getElem_cons_zero]
  go_simp
  refine (HA.out 0 1 _).mono ?_
  rintro e Y11 ⟨rfl, bz⟩
  have K11 := hid (K10.out.next bz)
  refine hK.out _ _ K11.out (fun hHeld => ?_)
  clear hK KK
  try simp only [Act.put, List.setIfInBounds_toArray, List.set_cons_zero, List.set_cons_succ]
  clear bz K10
  refine wpAnyH_ready (rs := [28]) (by kernel_rfl) (by simp) ?_
  refine AllReadyH.cons rfl (fun KK hK => ?_) AllReadyH.nil
  simp only [List.getElem_toArray, List.getElem_cons_succ, List.getElem_cons_zero]
  go_simp
  refine (N2.out _ (HT.out.next K11.out.2)).mono ?_
  rintro e Y12 ⟨rfl, bz⟩
  have K12 := hid (K11.out.next bz)
  refine hK.out _ _ K12.out (fun hHeld => ?_)
  clear hK KK
  try simp only [Act.put, List.setIfInBounds_toArray, List.set_cons_zero, List.set_cons_succ]
  clear bz K11
  refine takeH 29 39 (.bool true) rfl rfl (by kernel_rfl) (by kernel_rfl) (by kernel_rfl) (fun _ _ _ h => h) (by kernel_rfl) (fun X hX => by clear hX; first | rfl | go_simp) hHeld ?_
  simp only [Act.put, List.setIfInBounds_toArray, List.set_cons_zero, List.set_cons_succ]
  refine takeH 30 40 (.bool true) rfl rfl (by kernel_rfl) (by kernel_rfl) (by kernel_rfl) (fun _ _ _ h => h) (by kernel_rfl) (fun X hX => by clear hX; first | rfl | go_simp) hHeld ?_
  simp only [Act.put, List.setIfInBounds_toArray, List.set_cons_zero, List.set_cons_succ]
  refine takeH 31 41 (.bool true) rfl rfl (by kernel_rfl) (by kernel_rfl) (by kernel_rfl) (fun _ _ _ h => h) (by kernel_rfl) (fun X hX => by clear hX; first | rfl | go_simp) hHeld ?_
  simp only [Act.put, List.setIfInBounds_toArray, List.set_cons_zero, List.set_cons_succ]
  refine takeH 32 42 (.int .i64 14) rfl rfl (by kernel_rfl) (by kernel_rfl) (by kernel_rfl) (fun _ _ _ h => h) (by kernel_rfl) (fun X hX => by clear hX; first | rfl | go_simp) hHeld ?_
  simp only [Act.put, List.setIfInBounds_toArray, List.set_cons_zero, List.set_cons_succ]
  refine takeH 33 43 (.bool true) rfl rfl (by kernel_rfl) (by kernel_rfl) (by kernel_rfl) (fun _ _ _ h => h) (by kernel_rfl) (fun X hX => by clear hX; first | rfl | go_simp) hHeld ?_
  simp only [Act.put, List.setIfInBounds_toArray, List.set_cons_zero, List.set_cons_succ]
  refine takeH 34 44 (.bool true) rfl rfl (by kernel_rfl) (by kernel_rfl) (by kernel_rfl) (fun _ _ _ h => h) (by kernel_rfl) (fun X hX => by clear hX; first | rfl | go_simp) hHeld ?_
  simp only [Act.put, List.setIfInBounds_toArray, List.set_cons_zero, List.set_cons_succ]
  refine takeH 35 45 (.bool true) rfl rfl (by kernel_rfl) (by kernel_rfl) (by kernel_rfl) (fun _ _ _ h => h) (by kernel_rfl) (fun X hX => by clear hX; first | rfl | go_simp) hHeld ?_
  simp only [Act.put, List.setIfInBounds_toArray, List.set_cons_zero, List.set_cons_succ]
  refine takeH 36 46 (.bool true) rfl rfl (by kernel_rfl) (by kernel_rfl) (by kernel_rfl) (fun _ _ _ h => h) (by kernel_rfl) (fun X hX => by clear hX; first | rfl | go_simp) hHeld ?_
  simp only [Act.put, List.setIfInBounds_toArray, List.set_cons_zero, List.set_cons_succ]
  refine takeH 37 47 (.bool true) rfl rfl (by kernel_rfl) (by kernel_rfl) (by kernel_rfl) (fun _ _ _ h => h) (by kernel_rfl) (fun X hX => by clear hX; first | rfl | go_simp) hHeld ?_
  simp only [Act.put, List.setIfInBounds_toArray, List.set_cons_zero, List.set_cons_succ]
  refine takeH 38 48 (.bool true) rfl rfl (by kernel_rfl) (by kernel_rfl) (by kernel_rfl) (fun _ _ _ h => h) (by kernel_rfl) (fun X hX => by clear hX; first | rfl | go_simp) hHeld ?_
  simp only [Act.put, List.setIfInBounds_toArray, List.set_cons_zero, List.set_cons_succ]
  refine wpAnyH_ready (rs := [39]) (by kernel_rfl) (by simp) ?_
  refine AllReadyH.cons rfl (fun KK hK => ?_) AllReadyH.nil
  simp only [List.getElem_toArray, List.getElem_cons_succ, List.getElem_cons_zero]
  go_simp
  refine (NM.out _ (HT.out.next K12.out.2)).mono ?_
  rintro e Y13 ⟨rfl, bz⟩
  have K13 := hid (K12.out.next bz)
  refine hK.out _ _ K13.out (fun hHeld => ?_)
  clear hK KK
  try simp only [Act.put, List.setIfInBounds_toArray, List.set_cons_zero, List.set_cons_succ]
  clear bz K12
  refine takeH 40 50 (.bool true) rfl rfl (by kernel_rfl) (by kernel_rfl) (by kernel_rfl) (fun _ _ _ h => h) (by kernel_rfl) (fun X hX => by clear hX; go_simp; rw [list_of, bs_data]; rfl) hHeld ?_
  simp only [Act.put, List.setIfInBounds_toArray, List.set_cons_zero, List.set_cons_succ]
  refine takeH 41 51 (.bool true) rfl rfl (by kernel_rfl) (by kernel_rfl) (by kernel_rfl) (fun _ _ _ h => h) (by kernel_rfl) (fun X hX => by clear hX; first | rfl | go_simp) hHeld ?_
  simp only [Act.put, List.setIfInBounds_toArray, List.set_cons_zero, List.set_cons_succ]
  refine takeH 42 52 (.bool true) rfl rfl (by kernel_rfl) (by kernel_rfl) (by kernel_rfl) (fun _ _ _ h => h) (by kernel_rfl) (fun X hX => by clear hX; first | rfl | go_simp) hHeld ?_
  simp only [Act.put, List.setIfInBounds_toArray, List.set_cons_zero, List.set_cons_succ]
  refine wpAnyH_ready (rs := [43]) (by kernel_rfl) (by simp) ?_
  refine AllReadyH.cons rfl (fun KK hK => ?_) AllReadyH.nil
  simp only [List.getElem_toArray, List.getElem_cons_succ, List.getElem_cons_zero]
  go_simp
  refine (T1.out _).mono ?_
  rintro e Y14 ⟨rfl, bz⟩
  have K14 := hid (K13.out.next bz)
  refine hK.out _ _ K14.out (fun hHeld => ?_)
  clear hK KK
  try simp only [Act.put, List.setIfInBounds_toArray, List.set_cons_zero, List.set_cons_succ]
  clear bz K13
  refine takeH 44 54 (.bool true) rfl rfl (by kernel_rfl) (by kernel_rfl) (by kernel_rfl) (fun _ _ _ h => h) (by kernel_rfl) (fun X hX => by clear hX; first | rfl | go_simp) hHeld ?_
  simp only [Act.put, List.setIfInBounds_toArray, List.set_cons_zero, List.set_cons_succ]
  refine takeH 45 55 (.bool true) rfl rfl (by kernel_rfl) (by kernel_rfl) (by kernel_rfl) (fun _ _ _ h => h) (by kernel_rfl) (fun X hX => by clear hX; first | rfl | go_simp) hHeld ?_
  simp only [Act.put, List.setIfInBounds_toArray, List.set_cons_zero, List.set_cons_succ]
  refine takeH 46 56 (.bool true) rfl rfl (by kernel_rfl) (by kernel_rfl) (by kernel_rfl) (fun _ _ _ h => h) (by kernel_rfl) (fun X hX => by clear hX; first | rfl | go_simp) hHeld ?_
  simp only [Act.put, List.setIfInBounds_toArray, List.set_cons_zero, List.set_cons_succ]
  refine wpAnyH_ready (rs := [47]) (by kernel_rfl) (by simp) ?_
  refine AllReadyH.cons rfl (fun KK hK => ?_) AllReadyH.nil
  simp only [List.getElem_toArray, List.getElem_cons_succ, List.getElem_cons_zero]
  go_simp
  refine (T2.out _).mono ?_
  rintro e Y15 ⟨rfl, bz⟩
  have K15 := hid (K14.out.next bz)
  refine hK.out _ _ K15.out (fun hHeld => ?_)
  clear hK KK
  try simp only [Act.put, List.setIfInBounds_toArray, List.set_cons_zero, List.set_cons_succ]
  clear bz K14
  refine takeH 48 58 (.bool true) rfl rfl (by kernel_rfl) (by kernel_rfl) (by kernel_rfl) (fun _ _ _ h => h) (by kernel_rfl) (fun X hX => by clear hX; first | rfl | go_simp) hHeld ?_
  simp only [Act.put, List.setIfInBounds_toArray, List.set_cons_zero, List.set_cons_succ]
  refine takeH 49 0 (.bool true) rfl rfl (by kernel_rfl) (by kernel_rfl) (by kernel_rfl) (fun _ _ _ h => h) (by kernel_rfl) (fun X hX => by clear hX; first | rfl | go_simp) hHeld ?_
  simp only [Act.put, List.setIfInBounds_toArray, List.set_cons_zero]
  refine wpAnyH_done (by kernel_rfl) ?_ _
  clear hHeld
  go_wp2_with fail
  go_ret
  exact ⟨rfl, K15.out.2⟩
end Go.Proofs.YtnhniajfnmdnnaaDoor

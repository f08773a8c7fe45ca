/- What the proof of ProblemCopies stands on, part 14. -/
import Derived.Test.YtgmgccepmalahaaGreatCpAA
import Derived.Test.YtgmgccepmalahaaGreatCpAF
import Derived.Test.YtgmgccepmalahaaGreatCpAK
import Derived.Test.YtgmgccepmalahaaGreatCpAM
namespace Go.Proofs.YtgmgccepmalahaaGreat
open Go.RowKit
open Whn (Gr Wh)
theorem fst17_ge (ns : List (List UInt8)) (rs : List Bool) (most : Int) : fst17 ns rs most = -1 ∨ 0 ≤ fst17 ns rs most := by
 unfold fst17
 split
 · right; omega
 · left; rfl
theorem frl17_ge (n : Int) (l : List Rl) : frl17 n l = -1 ∨ 0 ≤ frl17 n l := by
 unfold frl17
 split
 · right; omega
 · left; rfl
theorem Ob.pb {X : World} {B : Nat} {x : PbA} {t : TypeId} (h : Ob X B (pbc x) t) : X.cell? ⟨B, 0, none⟩ = some (txt x.n) ∧ X.cell? ⟨B, 1, none⟩ = some (.int .i64 x.g.w) ∧ X.cell? ⟨B, 2, none⟩ = some (.int .i64 x.g.d) ∧ X.cell? ⟨B, 3, none⟩ = some (.int .i64 x.g.s) ∧ X.cell? ⟨B, 4, none⟩ = some (.slice x.r0 x.rm.length x.c0) ∧ X.cell? ⟨B, 5, none⟩ = some (.slice x.r1 x.wk.length x.c1) ∧ X.cell? ⟨B, 6, none⟩ = some (.slice x.r2 x.ps.length x.c2) ∧ X.cell? ⟨B, 7, none⟩ = some (.slice x.r3 x.cl.length x.c3) ∧ X.cell? ⟨B, 8, none⟩ = some (.slice x.r4 x.cs.length x.c4) ∧ X.cell? ⟨B, 9, none⟩ = some (.slice x.r5 x.st.length x.c5) ∧ X.cell? ⟨B, 10, none⟩ = some (.slice x.r6 x.rl.length x.c6) :=
 ⟨h.cell rfl, h.cell rfl, h.cell rfl, h.cell rfl, h.cell rfl, h.cell rfl, h.cell rfl, h.cell rfl, h.cell rfl, h.cell rfl, h.cell rfl⟩
set_option maxRecDepth 20000 in
set_option maxHeartbeats 4000000 in
theorem wr1_R (x : PbA) (y : RmA) (P : Nat) (w : World) (_hp : PbIn w x) (hP : Ob w P (pbc x) 34) (hy : RmIn w y) :
 Calls Tryz.prog 122 #[rv y.r y.a y.c, .pointer (some ⟨P, 0, none⟩)] w (Did (.bool (rmRight x.g y.r)) w) := by
 have HC := hid (fun X (hb : Below w.heap.size w X) => show Calls Tryz.prog 123 #[gv x.g, rv y.r y.a y.c] X (Did (.bool (rmRight x.g y.r)) X) from p_RightRoom x.g y.r y.a y.c hy.1 (by have := hy.2.2; omega) X ((hy.2.1.below hb (Nat.le_refl _)).more hb.size))
 obtain ⟨R, W, hR, hW, K, hb0⟩ := (Mem.nil w).one (enR y) 52
 obtain ⟨e_0, e_1, e_2, e_3⟩ : W.cell? ⟨R, 0, none⟩ = some (txt y.r.n) ∧ W.cell? ⟨R, 1, none⟩ = some (.int .i64 y.r.s) ∧ W.cell? ⟨R, 2, none⟩ = some (.int .u16 (y.r.g : Int)) ∧ W.cell? ⟨R, 3, none⟩ = some (.slice y.a y.r.l.length y.c) := ⟨K.out.cell (b := R) (cs := enR y) (t := 52) (by simp) (k := 0) rfl, K.out.cell (b := R) (cs := enR y) (t := 52) (by simp) (k := 1) rfl, K.out.cell (b := R) (cs := enR y) (t := 52) (by simp) (k := 2) rfl, K.out.cell (b := R) (cs := enR y) (t := 52) (by simp) (k := 3) rfl⟩
 obtain ⟨p0, p1, p2, p3, p4, p5, p6, p7, p8, p9, p10⟩ := (hP.next K.out.2).pb
 have HC1 := hid (HC.out W K.out.2)
 generalize rmRight x.g y.r = q at *
 clear hP hy hb0 HC
 go_enter Tryz.func122, Tryz.ntmps122
 go_wp2_with fail
 refine (HC1.out).mono ?_
 rintro e w1 ⟨rfl, b1⟩
 have K1 := hid (K.out.next b1)
 clear b1 e_0 e_1 e_2 e_3 p0 p1 p2 p3 p4 p5 p6 p7 p8 p9 p10
 go_wp2_with fail
 go_ret
 exact Did.mk rfl K1.out.2
set_option maxRecDepth 20000 in
set_option maxHeartbeats 4000000 in
theorem wr_R (x : PbA) (w : World) (h : PbIn w x) (hf : PbFew x) : Calls Tryz.prog 40 #[pbv x] w (Did (.int .i64 (rmI x.p)) w) := by
 obtain ⟨G, W, hG, hW, K, hb0⟩ := (Mem.nil w).one (pbc x) 34
 have H := hid (h.next K.out.2)
 have HO := hid (K.out.at_ (b := G) (cs := pbc x) (t := 34) (by simp))
 have HW := hid (wn_R x.r0 x.c0 x.rm H.out.rmC (by have := hf.1; omega) 24 (fun y => rmRight x.g y.r) 122 G W H.out.rm (fun a b X => by go_simp)
  (fun y hy X hb => wr1_R x y G X (H.out.next hb) (HO.out.next hb) ((H.out.rmI y hy).next hb)))
 have Hr := hid (show rmI x.p = fst17 (x.rm.map fun y => y.r.n) (x.rm.map fun y => rmRight x.g y.r) 24 by
  unfold rmI PbA.p
  simp only [List.map_map]
  rfl)
 have c0 := HO.out.cell (k := 4) rfl
 generalize rmI x.p = v at *
 clear h hb0 hf H HO
 go_enter Tryz.func40, Tryz.ntmps40
 go_wp2_with fail
 refine (HW.out).mono ?_
 rintro e w1 ⟨rfl, b1⟩
 have K1 := hid (K.out.next b1)
 clear b1 c0
 go_wp2_with fail
 go_ret
 exact Did.mk (by rw [Hr.out]; rfl) K1.out.2
set_option maxRecDepth 20000 in
set_option maxHeartbeats 4000000 in
theorem wr1_P (x : PbA) (y : PsA) (P : Nat) (w : World) (_hp : PbIn w x) (hP : Ob w P (pbc x) 34) (hy : PsIn w y) :
 Calls Tryz.prog 126 #[pv y.r y.a y.c, .pointer (some ⟨P, 0, none⟩)] w (Did (.bool (rmRight x.g (rmOf y.r))) w) := by
 have HC := hid (fun X (hb : Below w.heap.size w X) => show Calls Tryz.prog 127 #[gv x.g, pv y.r y.a y.c] X (Did (.bool (rmRight x.g (rmOf y.r))) X) from p_RightP x.g y.r y.a y.c hy.1 (by have := hy.2.2; omega) X ((hy.2.1.below hb (Nat.le_refl _)).more hb.size))
 obtain ⟨R, W, hR, hW, K, hb0⟩ := (Mem.nil w).one (enQ y) 57
 obtain ⟨e_0, e_1⟩ : W.cell? ⟨R, 0, none⟩ = some (txt y.r.n) ∧ W.cell? ⟨R, 1, none⟩ = some (.slice y.a y.r.l.length y.c) := ⟨K.out.cell (b := R) (cs := enQ y) (t := 57) (by simp) (k := 0) rfl, K.out.cell (b := R) (cs := enQ y) (t := 57) (by simp) (k := 1) rfl⟩
 obtain ⟨p0, p1, p2, p3, p4, p5, p6, p7, p8, p9, p10⟩ := (hP.next K.out.2).pb
 have HC1 := hid (HC.out W K.out.2)
 generalize rmRight x.g (rmOf y.r) = q at *
 clear hP hy hb0 HC
 go_enter Tryz.func126, Tryz.ntmps126
 go_wp2_with fail
 refine (HC1.out).mono ?_
 rintro e w1 ⟨rfl, b1⟩
 have K1 := hid (K.out.next b1)
 clear b1 e_0 e_1 p0 p1 p2 p3 p4 p5 p6 p7 p8 p9 p10
 go_wp2_with fail
 go_ret
 exact Did.mk rfl K1.out.2
set_option maxRecDepth 20000 in
set_option maxHeartbeats 4000000 in
theorem wr_P (x : PbA) (w : World) (h : PbIn w x) (hf : PbFew x) : Calls Tryz.prog 42 #[pbv x] w (Did (.int .i64 (psI x.p)) w) := by
 obtain ⟨G, W, hG, hW, K, hb0⟩ := (Mem.nil w).one (pbc x) 34
 have H := hid (h.next K.out.2)
 have HO := hid (K.out.at_ (b := G) (cs := pbc x) (t := 34) (by simp))
 have HW := hid (wn_P x.r2 x.c2 x.ps H.out.psC (by have := hf.2.2.1; omega) 24 (fun y => rmRight x.g (rmOf y.r)) 126 G W H.out.ps (fun a b X => by go_simp)
  (fun y hy X hb => wr1_P x y G X (H.out.next hb) (HO.out.next hb) ((H.out.psI y hy).next hb)))
 have Hr := hid (show psI x.p = fst17 (x.ps.map fun y => y.r.n) (x.ps.map fun y => rmRight x.g (rmOf y.r)) 24 by
  unfold psI PbA.p
  simp only [List.map_map]
  rfl)
 have c0 := HO.out.cell (k := 6) rfl
 generalize psI x.p = v at *
 clear h hb0 hf H HO
 go_enter Tryz.func42, Tryz.ntmps42
 go_wp2_with fail
 refine (HW.out).mono ?_
 rintro e w1 ⟨rfl, b1⟩
 have K1 := hid (K.out.next b1)
 clear b1 c0
 go_wp2_with fail
 go_ret
 exact Did.mk (by rw [Hr.out]; rfl) K1.out.2
set_option maxRecDepth 20000 in
set_option maxHeartbeats 4000000 in
theorem wr1_C (x : PbA) (y : ClA) (P : Nat) (w : World) (hp : PbIn w x) (hP : Ob w P (pbc x) 34) (hy : ClIn w y) :
 Calls Tryz.prog 129 #[cv y.x y.r, .pointer (some ⟨P, 0, none⟩)] w (Did (.bool (clRight x.g (x.rm.length : Nat) (x.ps.length : Nat) (x.cl.length : Nat) y.x)) w) := by
 have HC := hid (fun X (hb : Below w.heap.size w X) => show Calls Tryz.prog 130 #[gv x.g, .int .i64 (x.rm.length : Nat), .int .i64 (x.ps.length : Nat), .int .i64 (x.cl.length : Nat), cv y.x y.r] X (Did (.bool (clRight x.g (x.rm.length : Nat) (x.ps.length : Nat) (x.cl.length : Nat) y.x)) X) from p_RightC x.g _ _ _ (by unfold I64; have := hp.psC; unfold maxLen at this; omega) y.x y.r hy.1 hy.2.2 X (hy.2.1.next2 hb))
 obtain ⟨R, W, hR, hW, K, hb0⟩ := (Mem.nil w).one (enC y) 62
 obtain ⟨e_0, e_1, e_2, e_3, e_4, e_5, e_6⟩ : W.cell? ⟨R, 0, none⟩ = some (txt y.x.n) ∧ W.cell? ⟨R, 1, none⟩ = some (.int .i64 y.x.s) ∧ W.cell? ⟨R, 2, none⟩ = some (.int .u16 (y.x.g : Int)) ∧ W.cell? ⟨R, 3, none⟩ = some (.slice y.r.a y.x.p.length y.r.ac) ∧ W.cell? ⟨R, 4, none⟩ = some (.slice y.r.b y.x.t.length y.r.bc) ∧ W.cell? ⟨R, 5, none⟩ = some (.slice y.r.c y.x.l.length y.r.cc) ∧ W.cell? ⟨R, 6, none⟩ = some (.int .i64 y.x.o) := ⟨K.out.cell (b := R) (cs := enC y) (t := 62) (by simp) (k := 0) rfl, K.out.cell (b := R) (cs := enC y) (t := 62) (by simp) (k := 1) rfl, K.out.cell (b := R) (cs := enC y) (t := 62) (by simp) (k := 2) rfl, K.out.cell (b := R) (cs := enC y) (t := 62) (by simp) (k := 3) rfl, K.out.cell (b := R) (cs := enC y) (t := 62) (by simp) (k := 4) rfl, K.out.cell (b := R) (cs := enC y) (t := 62) (by simp) (k := 5) rfl, K.out.cell (b := R) (cs := enC y) (t := 62) (by simp) (k := 6) rfl⟩
 obtain ⟨p0, p1, p2, p3, p4, p5, p6, p7, p8, p9, p10⟩ := (hP.next K.out.2).pb
 have HC1 := hid (HC.out W K.out.2)
 generalize clRight x.g (x.rm.length : Nat) (x.ps.length : Nat) (x.cl.length : Nat) y.x = q at *
 clear hp hP hy hb0 HC
 go_enter Tryz.func129, Tryz.ntmps129
 go_wp2_with fail
 refine (HC1.out).mono ?_
 rintro e w1 ⟨rfl, b1⟩
 have K1 := hid (K.out.next b1)
 clear b1 e_0 e_1 e_2 e_3 e_4 e_5 e_6 p0 p1 p2 p3 p4 p5 p6 p7 p8 p9 p10
 go_wp2_with fail
 go_ret
 exact Did.mk rfl K1.out.2
set_option maxRecDepth 20000 in
set_option maxHeartbeats 4000000 in
theorem wr_C (x : PbA) (w : World) (h : PbIn w x) (hf : PbFew x) : Calls Tryz.prog 43 #[pbv x] w (Did (.int .i64 (clI x.p)) w) := by
 obtain ⟨G, W, hG, hW, K, hb0⟩ := (Mem.nil w).one (pbc x) 34
 have H := hid (h.next K.out.2)
 have HO := hid (K.out.at_ (b := G) (cs := pbc x) (t := 34) (by simp))
 have HW := hid (wn_C x.r3 x.c3 x.cl H.out.clC (by have := hf.2.2.2.1; omega) 40 (fun y => clRight x.g (x.rm.length : Nat) (x.ps.length : Nat) (x.cl.length : Nat) y.x) 129 G W H.out.cl (fun a b X => by go_simp)
  (fun y hy X hb => wr1_C x y G X (H.out.next hb) (HO.out.next hb) ((H.out.clI y hy).next hb)))
 have Hr := hid (show clI x.p = fst17 (x.cl.map fun y => y.x.n) (x.cl.map fun y => clRight x.g (x.rm.length : Nat) (x.ps.length : Nat) (x.cl.length : Nat) y.x) 40 by
  unfold clI PbA.p
  simp only [List.map_map, List.length_map]
  rfl)
 have c0 := HO.out.cell (k := 7) rfl
 generalize clI x.p = v at *
 clear h hb0 hf H HO
 go_enter Tryz.func43, Tryz.ntmps43
 go_wp2_with fail
 refine (HW.out).mono ?_
 rintro e w1 ⟨rfl, b1⟩
 have K1 := hid (K.out.next b1)
 clear b1 c0
 go_wp2_with fail
 go_ret
 exact Did.mk (by rw [Hr.out]; rfl) K1.out.2
set_option maxRecDepth 20000 in
set_option maxHeartbeats 4000000 in
theorem wr1_K (x : PbA) (y : CsA) (P : Nat) (w : World) (hp : PbIn w x) (hP : Ob w P (pbc x) 34) (hy : CsIn w y) :
 Calls Tryz.prog 132 #[csv y.x y.a y.c, .pointer (some ⟨P, 0, none⟩)] w (Did (.bool (csRight (x.cl.length : Nat) y.x)) w) := by
 have HC := hid (fun X (hb : Below w.heap.size w X) => show Calls Tryz.prog 133 #[.int .i64 (x.cl.length : Nat), csv y.x y.a y.c] X (Did (.bool (csRight (x.cl.length : Nat) y.x)) X) from p_RightCs _ (by unfold I64; have := hp.clC; unfold maxLen at this; omega) y.x y.a y.c hy.2.2.2 X ((hy.2.1.below hb (Nat.le_refl _)).more hb.size))
 obtain ⟨R, W, hR, hW, K, hb0⟩ := (Mem.nil w).one (enK y) 65
 obtain ⟨e_0, e_1⟩ : W.cell? ⟨R, 0, none⟩ = some (txt y.x.n) ∧ W.cell? ⟨R, 1, none⟩ = some (.slice y.a y.x.ws.length y.c) := ⟨K.out.cell (b := R) (cs := enK y) (t := 65) (by simp) (k := 0) rfl, K.out.cell (b := R) (cs := enK y) (t := 65) (by simp) (k := 1) rfl⟩
 obtain ⟨p0, p1, p2, p3, p4, p5, p6, p7, p8, p9, p10⟩ := (hP.next K.out.2).pb
 have HC1 := hid (HC.out W K.out.2)
 generalize csRight (x.cl.length : Nat) y.x = q at *
 clear hp hP hy hb0 HC
 go_enter Tryz.func132, Tryz.ntmps132
 go_wp2_with fail
 refine (HC1.out).mono ?_
 rintro e w1 ⟨rfl, b1⟩
 have K1 := hid (K.out.next b1)
 clear b1 e_0 e_1 p0 p1 p2 p3 p4 p5 p6 p7 p8 p9 p10
 go_wp2_with fail
 go_ret
 exact Did.mk rfl K1.out.2
set_option maxRecDepth 20000 in
set_option maxHeartbeats 4000000 in
theorem wr_K (x : PbA) (w : World) (h : PbIn w x) (hf : PbFew x) : Calls Tryz.prog 44 #[pbv x] w (Did (.int .i64 (csI x.p)) w) := by
 obtain ⟨G, W, hG, hW, K, hb0⟩ := (Mem.nil w).one (pbc x) 34
 have H := hid (h.next K.out.2)
 have HO := hid (K.out.at_ (b := G) (cs := pbc x) (t := 34) (by simp))
 have HW := hid (wn_K x.r4 x.c4 x.cs H.out.csC (by have := hf.2.2.2.2.1; omega) 16 (fun y => csRight (x.cl.length : Nat) y.x) 132 G W H.out.cs (fun a b X => by go_simp)
  (fun y hy X hb => wr1_K x y G X (H.out.next hb) (HO.out.next hb) ((H.out.csI y hy).next hb)))
 have Hr := hid (show csI x.p = fst17 (x.cs.map fun y => y.x.n) (x.cs.map fun y => csRight (x.cl.length : Nat) y.x) 16 by
  unfold csI PbA.p
  simp only [List.map_map, List.length_map]
  rfl)
 have c0 := HO.out.cell (k := 8) rfl
 generalize csI x.p = v at *
 clear h hb0 hf H HO
 go_enter Tryz.func44, Tryz.ntmps44
 go_wp2_with fail
 refine (HW.out).mono ?_
 rintro e w1 ⟨rfl, b1⟩
 have K1 := hid (K.out.next b1)
 clear b1 c0
 go_wp2_with fail
 go_ret
 exact Did.mk (by rw [Hr.out]; rfl) K1.out.2
set_option maxRecDepth 20000 in
set_option maxHeartbeats 4000000 in
theorem wr1_S (x : PbA) (y : StA) (P : Nat) (w : World) (_hp : PbIn w x) (hP : Ob w P (pbc x) 34) (hy : StIn w y) :
 Calls Tryz.prog 136 #[stv y.x y.a y.c, .pointer (some ⟨P, 0, none⟩)] w (Did (.bool (stB (x.cs.length : Nat) y.x)) w) := by
 have HC := hid (fun X (hb : Below w.heap.size w X) => show Calls Tryz.prog 137 #[.int .i64 (x.cs.length : Nat), stv y.x y.a y.c] X (Did (.bool (stB (x.cs.length : Nat) y.x)) X) from p_student17 _ y X (hy.upto hb))
 obtain ⟨R, W, hR, hW, K, hb0⟩ := (Mem.nil w).one (enS y) 70
 obtain ⟨e_0, e_1⟩ : W.cell? ⟨R, 0, none⟩ = some (txt y.x.n) ∧ W.cell? ⟨R, 1, none⟩ = some (.slice y.a y.x.l.length y.c) := ⟨K.out.cell (b := R) (cs := enS y) (t := 70) (by simp) (k := 0) rfl, K.out.cell (b := R) (cs := enS y) (t := 70) (by simp) (k := 1) rfl⟩
 obtain ⟨p0, p1, p2, p3, p4, p5, p6, p7, p8, p9, p10⟩ := (hP.next K.out.2).pb
 have HC1 := hid (HC.out W K.out.2)
 generalize stB (x.cs.length : Nat) y.x = q at *
 clear hP hy hb0 HC
 go_enter Tryz.func136, Tryz.ntmps136
 go_wp2_with fail
 refine (HC1.out).mono ?_
 rintro e w1 ⟨rfl, b1⟩
 have K1 := hid (K.out.next b1)
 clear b1 e_0 e_1 p0 p1 p2 p3 p4 p5 p6 p7 p8 p9 p10
 go_wp2_with fail
 go_ret
 exact Did.mk rfl K1.out.2
set_option maxRecDepth 20000 in
set_option maxHeartbeats 4000000 in
theorem wr_S (x : PbA) (w : World) (h : PbIn w x) (hf : PbFew x) : Calls Tryz.prog 45 #[pbv x] w (Did (.int .i64 (stI x.p)) w) := by
 obtain ⟨G, W, hG, hW, K, hb0⟩ := (Mem.nil w).one (pbc x) 34
 have H := hid (h.next K.out.2)
 have HO := hid (K.out.at_ (b := G) (cs := pbc x) (t := 34) (by simp))
 have HW := hid (wn_S x.r5 x.c5 x.st H.out.stC (by have := hf.2.2.2.2.2.1; omega) 200 (fun y => stB (x.cs.length : Nat) y.x) 136 G W H.out.st (fun a b X => by go_simp)
  (fun y hy X hb => wr1_S x y G X (H.out.next hb) (HO.out.next hb) ((H.out.stI y hy).next hb)))
 have Hr := hid (show stI x.p = fst17 (x.st.map fun y => y.x.n) (x.st.map fun y => stB (x.cs.length : Nat) y.x) 200 by
  unfold stI PbA.p
  simp only [List.map_map, List.length_map]
  rfl)
 have c0 := HO.out.cell (k := 9) rfl
 generalize stI x.p = v at *
 clear h hb0 hf H HO
 go_enter Tryz.func45, Tryz.ntmps45
 go_wp2_with fail
 refine (HW.out).mono ?_
 rintro e w1 ⟨rfl, b1⟩
 have K1 := hid (K.out.next b1)
 clear b1 c0
 go_wp2_with fail
 go_ret
 exact Did.mk (by rw [Hr.out]; rfl) K1.out.2
theorem es_rl {w : World} {ad : Addr} {l : List RlA} {i : Nat} {y : RlA} {B : Nat} (hq : Es enU w B (some ad) l) (hy : l[i]? = some y) : w.cell? (ad.add (i * 6)) = some (.int .i64 y.x.k) ∧ w.cell? ⟨(ad.add (i * 6)).block, (ad.add (i * 6)).off + 1, none⟩ = some (.slice y.r y.x.l.length y.c) ∧ w.cell? ⟨(ad.add (i * 6)).block, (ad.add (i * 6)).off + 2, none⟩ = some (.int .i64 y.x.a) ∧ w.cell? ⟨(ad.add (i * 6)).block, (ad.add (i * 6)).off + 3, none⟩ = some (.int .i64 y.x.b) ∧ w.cell? ⟨(ad.add (i * 6)).block, (ad.add (i * 6)).off + 4, none⟩ = some (.bool y.x.h) ∧ w.cell? ⟨(ad.add (i * 6)).block, (ad.add (i * 6)).off + 5, none⟩ = some (.int .i64 y.x.c) :=
 ⟨es_at enU_len hq hy 0 _ rfl, es_fld enU_len hq hy 1 (by decide) _ rfl, es_fld enU_len hq hy 2 (by decide) _ rfl, es_fld enU_len hq hy 3 (by decide) _ rfl, es_fld enU_len hq hy 4 (by decide) _ rfl, es_fld enU_len hq hy 5 (by decide) _ rfl⟩
set_option maxRecDepth 20000 in
set_option maxHeartbeats 4000000 in
theorem wr1_U (x : PbA) (P : Nat) (w : World) (hp : PbIn w x) (hP : Ob w P (pbc x) 34) (i : Nat) (hi : i < x.rl.length) :
 Calls Tryz.prog 139 #[.int .i64 (i : Int), .pointer (some ⟨P, 0, none⟩)] w (Did (.bool (ruleB (x.cl.length : Nat) ((x.rl.map (·.x)).getD i ⟨0, [], 0, 0, false, 0⟩))) w) := by
 obtain ⟨ad, y, e0, had, hy, hyl, _⟩ := Es.get enU_len (by decide) hp.rl (k := i) hi
 have hyI := hp.rlI y hyl
 have HC := hid (fun X (hb : Below w.heap.size w X) => show Calls Tryz.prog 15 #[.int .i64 (x.cl.length : Nat), rlv y.x y.r y.c] X (Did (.bool (ruleB (x.cl.length : Nat) y.x)) X) from p_Rule17 _ y.x y.r y.c hyI.2.2 X (its_next hyI.2.1 hb))
 have Hr := hid (show ruleB (x.cl.length : Nat) ((x.rl.map (·.x)).getD i ⟨0, [], 0, 0, false, 0⟩) = ruleB (x.cl.length : Nat) y.x by
  rw [List.getD_eq_getElem?_getD, List.getElem?_map, hy.out]; rfl)
 have Hcell := hid (fun X (hb : Below w.heap.size w X) => (hP.next hb).pb)
 have Hrow := hid (fun X (hb : Below w.heap.size w X) => es_rl (show Es enU X w.heap.size (some ad) x.rl from e0 ▸ hp.rl.below hb (Nat.le_refl _)) hy.out)
 have i1 : (0 : Int) ≤ (i : Int) := by omega
 have i2 : (i : Int) < (x.rl.length : Int) := by omega
 generalize ruleB (x.cl.length : Nat) ((x.rl.map (·.x)).getD i ⟨0, [], 0, 0, false, 0⟩) = rr at *
 generalize ruleB (x.cl.length : Nat) y.x = q at *
 have HB := hid (show Below w.heap.size w w.drew from (Below.refl _ _).drew)
 have He0 := hid e0
 clear hp hP hyI hy hyl had e0
 go_enter Tryz.func139, Tryz.ntmps139
 go_upto_region 1 with fail
 refine wp_region_held_drew (S := fun X => Below w.heap.size w X) (by kernel_rfl) HB.out (fun hHeld => ?_)
 refine tkD 0 4 (.pointer (some ⟨P, 7, none⟩)) rfl rfl hHeld ?_
 simp only [pt, List.set]
 refine tkH 1 5 (.slice x.r3 x.cl.length x.c3) rfl rfl (fun X hX => by obtain ⟨p0, p1, p2, p3, p4, p5, p6, p7, p8, p9, p10⟩ := Hcell.out _ hX; clear hX; go_simp) hHeld ?_
 simp only [pt, List.set]
 refine tkD 2 6 (.int .i64 (x.cl.length : Nat)) rfl rfl hHeld ?_
 simp only [pt, List.set]
 refine tkD 3 7 (.pointer (some ⟨P, 10, none⟩)) rfl rfl hHeld ?_
 simp only [pt, List.set]
 refine tkH 4 8 (.slice (some ad) x.rl.length x.c6) rfl rfl (fun X hX => by obtain ⟨p0, p1, p2, p3, p4, p5, p6, p7, p8, p9, p10⟩ := Hcell.out _ hX; rw [He0.out] at p10; clear hX; go_simp) hHeld ?_
 simp only [pt, List.set]
 refine tkD 5 9 (.int .i64 i) rfl rfl hHeld ?_
 simp only [pt, List.set]
 refine tkD 6 10 (.pointer (some (ad.add (i * 6)))) rfl rfl hHeld ?_
 simp only [pt, List.set]
 refine tkH 7 11 (.agg #[.int .i64 y.x.k, .slice y.r y.x.l.length y.c, .int .i64 y.x.a, .int .i64 y.x.b, .bool y.x.h, .int .i64 y.x.c]) rfl rfl (fun X hX => by obtain ⟨e_0, e_1, e_2, e_3, e_4, e_5⟩ := Hrow.out _ hX; clear hX; go_simp) hHeld ?_
 simp only [pt, List.set]
 have Kd := hid HB.out
 obtain ⟨U, hU⟩ : ∃ U, w.drew = U := ⟨_, rfl⟩
 rw [hU] at Kd hHeld ⊢
 clear hU
 refine wpAnyH_ready (rs := [8]) (by kernel_rfl) (by simp) ?_
 refine AllReadyH.cons rfl (fun KK hK => ?_) AllReadyH.nil
 simp only [List.getElem_toArray, List.getElem_cons_succ, List.getElem_cons_zero]
 go_simp
 refine (HC.out _ Kd.out).mono ?_
 rintro e w1 ⟨rfl, b1⟩
 have K1 := hid (Kd.out.trans (b1.mono Kd.out.size))
 clear b1
 refine hK.out _ _ K1.out (fun hHeld => ?_)
 clear hK KK
 try simp only [pt, List.set]
 refine wpAnyH_ready (rs := [9]) (by kernel_rfl) (by simp) ?_
 refine AllReadyH.cons rfl (fun KK hK => ?_) AllReadyH.nil
 simp only [List.getElem_toArray, List.getElem_cons_succ, List.getElem_cons_zero]
 go_simp
 refine hK.out _ _ K1.out (fun hHeld => ?_)
 clear hK KK
 try simp only [pt, List.set]
 refine wpAnyH_done (by kernel_rfl) ?_ _
 clear hHeld
 go_wp2_with fail
 go_ret
 exact Did.mk (by rw [Hr.out]; rfl) K1.out
theorem fw_frl (n : Int) (l : List Rl) : fwV l.length 60 (fun i => ruleB n (l.getD i ⟨0, [], 0, 0, false, 0⟩)) = frl17 n l := by
 unfold fwV frl17
 have e : fwB 60 (fun i => ruleB n (l.getD i ⟨0, [], 0, 0, false, 0⟩)) = badR n l := by
  funext i
  unfold fwB badR
  congr 1
  rw [decide_eq_decide]; omega
 rw [e]
 rfl
set_option maxRecDepth 20000 in
set_option maxHeartbeats 4000000 in
theorem wr_U (x : PbA) (w : World) (h : PbIn w x) (hf : PbFew x) : Calls Tryz.prog 46 #[pbv x] w (Did (.int .i64 (rlI x.p)) w) := by
 obtain ⟨G, W, hG, hW, K, hb0⟩ := (Mem.nil w).one (pbc x) 34
 have H := hid (h.next K.out.2)
 have HO := hid (K.out.at_ (b := G) (cs := pbc x) (t := 34) (by simp))
 have HW := hid (p_wrong1 139 (.pointer (some ⟨G, 0, none⟩)) x.rl.length (by have := hf.2.2.2.2.2.2; omega) 60 (fun i => ruleB (x.cl.length : Nat) ((x.rl.map (·.x)).getD i ⟨0, [], 0, 0, false, 0⟩)) W (fun a X => by go_simp)
  (fun i hi X hb => wr1_U x G X (H.out.next hb) (HO.out.next hb) i hi))
 have Hr := hid (show rlI x.p = fwV x.rl.length 60 (fun i => ruleB (x.cl.length : Nat) ((x.rl.map (·.x)).getD i ⟨0, [], 0, 0, false, 0⟩)) by
  have e : x.rl.length = (x.rl.map (·.x)).length := (List.length_map ..).symm
  rw [e, fw_frl]
  unfold rlI PbA.p
  simp only [List.length_map])
 have c0 := HO.out.cell (k := 10) rfl
 generalize rlI x.p = v at *
 generalize fwV x.rl.length 60 (fun i => ruleB (x.cl.length : Nat) ((x.rl.map (·.x)).getD i ⟨0, [], 0, 0, false, 0⟩)) = v2 at *
 clear h hb0 hf H HO
 go_enter Tryz.func46, Tryz.ntmps46
 go_wp2_with fail
 refine (HW.out).mono ?_
 rintro e w1 ⟨rfl, b1⟩
 have K1 := hid (K.out.next b1)
 clear b1 c0
 go_wp2_with fail
 go_ret
 exact Did.mk (by rw [Hr.out]; rfl) K1.out.2
set_option maxRecDepth 20000 in
set_option maxHeartbeats 8000000 in
theorem p_Check17 (x : PbA) (w : World) (h : PbIn w x) (hf : PbFew x) : Calls Tryz.prog 12 #[pbv x] w (Did (.tuple #[.int .i64 (chk x.p).1, .int .i64 (chk x.p).2]) w) := by
 have HNm := hid (fun X => p_Name (bs x.n) X)
 rw [bs_data] at HNm
 have HGr := hid (fun X => p_RightGrid x.g X)
 have H0 := hid (fun X (hb : Below w.heap.size w X) => wr_R x X (h.next hb) hf)
 have H1 := hid (fun X (hb : Below w.heap.size w X) => wr_P x X (h.next hb) hf)
 have H2 := hid (fun X (hb : Below w.heap.size w X) => wr_C x X (h.next hb) hf)
 have H3 := hid (fun X (hb : Below w.heap.size w X) => wr_K x X (h.next hb) hf)
 have H4 := hid (fun X (hb : Below w.heap.size w X) => wr_S x X (h.next hb) hf)
 have H5 := hid (fun X (hb : Below w.heap.size w X) => wr_U x X (h.next hb) hf)
 have HWk := hid (fun X (hb : Below w.heap.size w X) => p_RightWalk x.r1 x.c1 x.wk (by have := h.wkC; omega) (x.rm.length : Nat) X ((h.wk.below hb (Nat.le_refl _)).more hb.size))
 have HWt := hid (fun X => p_weigh17 x.w0 x.w1 x.w2 x.w3 X)
 have Hr := hid (show chk x.p = chkG (nameOk x.n) (Whn.rgrid x.g) (rmI x.p) (rwOk (x.rm.length : Nat) x.wk) (x.rm.length : Nat) (psI x.p) (clI x.p) (csI x.p) (stI x.p) (rlI x.p) (wtB [x.w0, x.w1, x.w2, x.w3]) from by
  unfold chk PbA.p
  simp only [List.length_map])
 have G0 := hid (show rmI x.p = -1 ∨ 0 ≤ rmI x.p from fst17_ge ..)
 have G1 := hid (show psI x.p = -1 ∨ 0 ≤ psI x.p from fst17_ge ..)
 have G2 := hid (show clI x.p = -1 ∨ 0 ≤ clI x.p from fst17_ge ..)
 have G3 := hid (show csI x.p = -1 ∨ 0 ≤ csI x.p from fst17_ge ..)
 have G4 := hid (show stI x.p = -1 ∨ 0 ≤ stI x.p from fst17_ge ..)
 have G5 := hid (show rlI x.p = -1 ∨ 0 ≤ rlI x.p from frl17_ge ..)
 generalize chk x.p = rr at *
 generalize nameOk x.n = nk at *
 generalize Whn.rgrid x.g = rg at *
 generalize rwOk (x.rm.length : Nat) x.wk = wk at *
 generalize wtB [x.w0, x.w1, x.w2, x.w3] = wt at *
 generalize rmI x.p = i0 at *
 generalize psI x.p = i1 at *
 generalize clI x.p = i2 at *
 generalize csI x.p = i3 at *
 generalize stI x.p = i4 at *
 generalize rlI x.p = i5 at *
 obtain ⟨G, W, hG, hW, K, hb0⟩ := (Mem.nil w).one (pbc x) 34
 have Hcell := hid (fun X (h : Mem w X [(G, pbc x, 34)]) => h.pb (B := G) (x := x) (t := 34) (by simp))
 obtain ⟨p0, p1, p2, p3, p4, p5, p6, p7, p8, p9, p10, p11, p12, p13, p14⟩ := Hcell.out _ K.out
 clear h hb0 hf
 go_enter Tryz.func12, Tryz.ntmps12
 go_wp2_with fail
 refine (HNm.out _).mono ?_
 rintro e Y ⟨rfl, rfl⟩
 cases nk with
 | false =>
  have Hd := hid (Hr.out.trans (show chkG false _ _ _ _ _ _ _ _ _ _ = (18, 0) from rfl))
  clear Hr
  go_wp2_with fail
  go_ret2
  exact Did.mk (by rw [Hd.out]; rfl) K.out.2
 | true =>
  go_wp2_with fail
  refine (HGr.out _).mono ?_
  rintro e Y ⟨rfl, bz⟩
  have K0 := hid (K.out.next bz)
  clear p0 p1 p2 p3 p4 p5 p6 p7 p8 p9 p10 p11 p12 p13 p14 bz
  obtain ⟨p0, p1, p2, p3, p4, p5, p6, p7, p8, p9, p10, p11, p12, p13, p14⟩ := Hcell.out _ K0.out
  cases rg with
  | false =>
   have Hd := hid (Hr.out.trans (show chkG true false _ _ _ _ _ _ _ _ _ = (10, 0) from rfl))
   clear Hr
   go_wp2_with fail
   go_ret2
   exact Did.mk (by rw [Hd.out]; rfl) K0.out.2
  | true =>
   go_wp2_with fail
   refine (H0.out _ K0.out.2).mono ?_
   rintro e Y ⟨rfl, bz⟩
   have K1 := hid (K0.out.next bz)
   clear p0 p1 p2 p3 p4 p5 p6 p7 p8 p9 p10 p11 p12 p13 p14 bz
   obtain ⟨p0, p1, p2, p3, p4, p5, p6, p7, p8, p9, p10, p11, p12, p13, p14⟩ := Hcell.out _ K1.out
   by_cases h0 : 0 ≤ i0
   · have nn : (i0 != -1) = true := by rw [bne_iff_ne]; omega
     have Hd := hid (show rr = (11, i0) from by rw [Hr.out]; unfold chkG; simp only [if_pos h0, if_neg (show ¬ true = false by decide)])
     clear Hr
     go_wp2_with fail
     go_ret2
     exact Did.mk (by rw [Hd.out]; rfl) K1.out.2
   have N0 := hid h0
   have nn0 : (i0 != -1) = false := by rw [bne_eq_false_iff_eq]; have := G0.out; omega
   go_wp2_with fail
   refine (HWk.out _ K1.out.2).mono ?_
   rintro e Y ⟨rfl, bz⟩
   have KW := hid (K1.out.next bz)
   clear p0 p1 p2 p3 p4 p5 p6 p7 p8 p9 p10 p11 p12 p13 p14 bz
   obtain ⟨p0, p1, p2, p3, p4, p5, p6, p7, p8, p9, p10, p11, p12, p13, p14⟩ := Hcell.out _ KW.out
   cases wk with
   | false =>
    have Hd := hid (show rr = (11, ((x.rm.length : Nat) : Int)) from by rw [Hr.out]; unfold chkG; simp only [if_neg (show ¬ 0 ≤ i0 by have := N0.out; omega), if_neg (show ¬ true = false by decide), if_true])
    clear Hr
    go_upto_region 9 with fail
    refine wp_region_held_drew (S := fun X => Mem w X [(G, pbc x, 34)]) (by kernel_rfl) KW.out.drew (fun hHeld => ?_)
    refine tkD 0 30 (.pointer (some ⟨G, 4, none⟩)) rfl rfl hHeld ?_
    simp only [pt, List.set]
    refine tkH 1 31 (.slice x.r0 x.rm.length x.c0) rfl rfl (fun X hX => by obtain ⟨p0, p1, p2, p3, p4, p5, p6, p7, p8, p9, p10, p11, p12, p13, p14⟩ := Hcell.out _ hX; clear hX; go_simp) hHeld ?_
    simp only [pt, List.set]
    refine tkD 2 32 (.int .i64 (x.rm.length : Nat)) rfl rfl hHeld ?_
    simp only [pt, List.set]
    refine wpAnyH_ready (rs := [3]) (by kernel_rfl) (by simp) ?_
    refine AllReadyH.cons rfl (fun KK hK => ?_) AllReadyH.nil
    simp only [List.getElem_toArray, List.getElem_cons_succ, List.getElem_cons_zero]
    go_simp
    refine hK.out _ _ KW.out.drew (fun hHeld => ?_)
    clear hK KK
    try simp only [pt, List.set]
    refine wpAnyH_ready (rs := [4]) (by kernel_rfl) (by simp) ?_
    refine AllReadyH.cons rfl (fun KK hK => ?_) AllReadyH.nil
    simp only [List.getElem_toArray, List.getElem_cons_succ, List.getElem_cons_zero]
    go_simp
    refine hK.out _ _ KW.out.drew (fun hHeld => ?_)
    clear hK KK
    try simp only [pt, List.set]
    refine wpAnyH_done (by kernel_rfl) ?_ _
    clear hHeld
    go_wp2_with fail
    go_ret2
    exact Did.mk (by rw [Hd.out]; rfl) KW.out.drew.2
   | true =>
    go_wp2_with fail
    refine (H1.out _ KW.out.2).mono ?_
    rintro e Y ⟨rfl, bz⟩
    have K2 := hid (KW.out.next bz)
    clear p0 p1 p2 p3 p4 p5 p6 p7 p8 p9 p10 p11 p12 p13 p14 bz
    obtain ⟨p0, p1, p2, p3, p4, p5, p6, p7, p8, p9, p10, p11, p12, p13, p14⟩ := Hcell.out _ K2.out
    by_cases h1 : 0 ≤ i1
    · have nn : (i1 != -1) = true := by rw [bne_iff_ne]; omega
      have Hd := hid (show rr = (12, i1) from by rw [Hr.out]; unfold chkG; simp only [if_pos h1, if_neg (show ¬ 0 ≤ i0 by have := N0.out; omega), if_neg (show ¬ true = false by decide)])
      clear Hr
      go_wp2_with fail
      go_ret2
      exact Did.mk (by rw [Hd.out]; rfl) K2.out.2
    have N1 := hid h1
    have nn1 : (i1 != -1) = false := by rw [bne_eq_false_iff_eq]; have := G1.out; omega
    go_wp2_with fail
    refine (H2.out _ K2.out.2).mono ?_
    rintro e Y ⟨rfl, bz⟩
    have K3 := hid (K2.out.next bz)
    clear p0 p1 p2 p3 p4 p5 p6 p7 p8 p9 p10 p11 p12 p13 p14 bz
    obtain ⟨p0, p1, p2, p3, p4, p5, p6, p7, p8, p9, p10, p11, p12, p13, p14⟩ := Hcell.out _ K3.out
    by_cases h2 : 0 ≤ i2
    · have nn : (i2 != -1) = true := by rw [bne_iff_ne]; omega
      have Hd := hid (show rr = (13, i2) from by rw [Hr.out]; unfold chkG; simp only [if_pos h2, if_neg (show ¬ 0 ≤ i0 by have := N0.out; omega), if_neg (show ¬ 0 ≤ i1 by have := N1.out; omega), if_neg (show ¬ true = false by decide)])
      clear Hr
      go_wp2_with fail
      go_ret2
      exact Did.mk (by rw [Hd.out]; rfl) K3.out.2
    have N2 := hid h2
    have nn2 : (i2 != -1) = false := by rw [bne_eq_false_iff_eq]; have := G2.out; omega
    go_wp2_with fail
    refine (H3.out _ K3.out.2).mono ?_
    rintro e Y ⟨rfl, bz⟩
    have K4 := hid (K3.out.next bz)
    clear p0 p1 p2 p3 p4 p5 p6 p7 p8 p9 p10 p11 p12 p13 p14 bz
    obtain ⟨p0, p1, p2, p3, p4, p5, p6, p7, p8, p9, p10, p11, p12, p13, p14⟩ := Hcell.out _ K4.out
    by_cases h3 : 0 ≤ i3
    · have nn : (i3 != -1) = true := by rw [bne_iff_ne]; omega
      have Hd := hid (show rr = (14, i3) from by rw [Hr.out]; unfold chkG; simp only [if_pos h3, if_neg (show ¬ 0 ≤ i0 by have := N0.out; omega), if_neg (show ¬ 0 ≤ i1 by have := N1.out; omega), if_neg (show ¬ 0 ≤ i2 by have := N2.out; omega), if_neg (show ¬ true = false by decide)])
      clear Hr
      go_wp2_with fail
      go_ret2
      exact Did.mk (by rw [Hd.out]; rfl) K4.out.2
    have N3 := hid h3
    have nn3 : (i3 != -1) = false := by rw [bne_eq_false_iff_eq]; have := G3.out; omega
    go_wp2_with fail
    refine (H4.out _ K4.out.2).mono ?_
    rintro e Y ⟨rfl, bz⟩
    have K5 := hid (K4.out.next bz)
    clear p0 p1 p2 p3 p4 p5 p6 p7 p8 p9 p10 p11 p12 p13 p14 bz
    obtain ⟨p0, p1, p2, p3, p4, p5, p6, p7, p8, p9, p10, p11, p12, p13, p14⟩ := Hcell.out _ K5.out
    by_cases h4 : 0 ≤ i4
    · have nn : (i4 != -1) = true := by rw [bne_iff_ne]; omega
      have Hd := hid (show rr = (15, i4) from by rw [Hr.out]; unfold chkG; simp only [if_pos h4, if_neg (show ¬ 0 ≤ i0 by have := N0.out; omega), if_neg (show ¬ 0 ≤ i1 by have := N1.out; omega), if_neg (show ¬ 0 ≤ i2 by have := N2.out; omega), if_neg (show ¬ 0 ≤ i3 by have := N3.out; omega), if_neg (show ¬ true = false by decide)])
      clear Hr
      go_wp2_with fail
      go_ret2
      exact Did.mk (by rw [Hd.out]; rfl) K5.out.2
    have N4 := hid h4
    have nn4 : (i4 != -1) = false := by rw [bne_eq_false_iff_eq]; have := G4.out; omega
    go_wp2_with fail
    refine (H5.out _ K5.out.2).mono ?_
    rintro e Y ⟨rfl, bz⟩
    have K6 := hid (K5.out.next bz)
    clear p0 p1 p2 p3 p4 p5 p6 p7 p8 p9 p10 p11 p12 p13 p14 bz
    obtain ⟨p0, p1, p2, p3, p4, p5, p6, p7, p8, p9, p10, p11, p12, p13, p14⟩ := Hcell.out _ K6.out
    by_cases h5 : 0 ≤ i5
    · have nn : (i5 != -1) = true := by rw [bne_iff_ne]; omega
      have Hd := hid (show rr = (16, i5) from by rw [Hr.out]; unfold chkG; simp only [if_pos h5, if_neg (show ¬ 0 ≤ i0 by have := N0.out; omega), if_neg (show ¬ 0 ≤ i1 by have := N1.out; omega), if_neg (show ¬ 0 ≤ i2 by have := N2.out; omega), if_neg (show ¬ 0 ≤ i3 by have := N3.out; omega), if_neg (show ¬ 0 ≤ i4 by have := N4.out; omega), if_neg (show ¬ true = false by decide)])
      clear Hr
      go_wp2_with fail
      go_ret2
      exact Did.mk (by rw [Hd.out]; rfl) K6.out.2
    have N5 := hid h5
    have nn5 : (i5 != -1) = false := by rw [bne_eq_false_iff_eq]; have := G5.out; omega
    go_wp2_with fail
    refine (HWt.out _).mono ?_
    rintro e Y ⟨rfl, bz⟩
    have K7 := hid (K6.out.next bz)
    cases wt with
    | false =>
     have Hd := hid (show rr = (17, 0) from by rw [Hr.out]; unfold chkG; simp only [if_neg (show ¬ 0 ≤ i0 by have := N0.out; omega), if_neg (show ¬ 0 ≤ i1 by have := N1.out; omega), if_neg (show ¬ 0 ≤ i2 by have := N2.out; omega), if_neg (show ¬ 0 ≤ i3 by have := N3.out; omega), if_neg (show ¬ 0 ≤ i4 by have := N4.out; omega), if_neg (show ¬ 0 ≤ i5 by have := N5.out; omega), if_neg (show ¬ true = false by decide), if_true])
     clear Hr
     go_wp2_with fail
     go_ret2
     exact Did.mk (by rw [Hd.out]; rfl) K7.out.2
    | true =>
     have Hd := hid (show rr = (0, 0) from by rw [Hr.out]; unfold chkG; simp only [if_neg (show ¬ 0 ≤ i0 by have := N0.out; omega), if_neg (show ¬ 0 ≤ i1 by have := N1.out; omega), if_neg (show ¬ 0 ≤ i2 by have := N2.out; omega), if_neg (show ¬ 0 ≤ i3 by have := N3.out; omega), if_neg (show ¬ 0 ≤ i4 by have := N4.out; omega), if_neg (show ¬ 0 ≤ i5 by have := N5.out; omega), if_neg (show ¬ true = false by decide)])
     clear Hr
     go_wp2_with fail
     go_ret2
     exact Did.mk (by rw [Hd.out]; rfl) K7.out.2
set_option maxRecDepth 20000 in
theorem p_Right17 (x : PbA) (w : World) (h : PbIn w x) (hf : PbFew x) : Calls Tryz.prog 14 #[pbv x] w (Did (.bool (pbR x.p)) w) := by
 have HC := hid (fun X (hb : Below w.heap.size w X) => p_Check17 x X (h.next hb) hf)
 have Hr := hid (show pbR x.p = decide ((chk x.p).1 = 0) from rfl)
 generalize pbR x.p = rr at *
 generalize (chk x.p).1 = e1 at *
 generalize (chk x.p).2 = e2 at *
 obtain ⟨G, W, hG, hW, K, hb0⟩ := (Mem.nil w).one (pbc x) 34
 obtain ⟨p0, p1, p2, p3, p4, p5, p6, p7, p8, p9, p10, p11, p12, p13, p14⟩ := K.out.pb (B := G) (x := x) (t := 34) (by simp)
 have hq := deq e1
 clear h hb0 hf
 go_enter Tryz.func14, Tryz.ntmps14
 go_wp2_with fail
 refine (HC.out _ K.out.2).mono ?_
 rintro e Y ⟨rfl, bz⟩
 have K1 := hid (K.out.next bz)
 clear p0 p1 p2 p3 p4 p5 p6 p7 p8 p9 p10 p11 p12 p13 p14
 go_wp2_with fail
 go_ret
 exact Did.mk (by rw [Hr.out, hq]; rfl) K1.out.2
end Go.Proofs.YtgmgccepmalahaaGreat
namespace Go.Proofs.YtgmgccepmalahaaGreat
open Go.RowKit
def tailB (ops : Array Oper) (pol : Bool) (n : Nat) : Tmp → List Oper → Option Tmp
 | cur, [] => some cur
 | cur, o :: rest =>
  match o.guard with
  | some (j, want) =>
   match (ops[j]?).bind (·.dst), o.dst with
   | some g, some d => if want == pol && Nat.beq g cur && !Nat.beq d cur then tailB ops pol n cur rest else none
   | some g, none => if want == pol && Nat.beq g cur then tailB ops pol n cur rest else none
   | _, _ => none
  | none =>
   match o.op, o.dst with
   | .move (.tmp s), some d => if Nat.beq s cur && Nat.blt d n then tailB ops pol n d rest else none
   | .assign (.tmp s), some d => if Nat.beq s cur && Nat.blt d n then tailB ops pol n d rest else none
   | .pick (.tmp s) x y, some d =>
    match (if pol then y else x) with
    | .const (.bool b) => if Nat.beq s cur && Nat.blt d n && (b == !pol) then tailB ops pol n d rest else none
    | _ => none
   | _, _ => none
theorem put_at {a : Act} {d : Tmp} {v : Value} (h : d < a.tmps.size) : (a.put (some d) v).tmps[d]? = some v := by
 unfold Act.put
 simp [h]
theorem put_size (a : Act) (d : Option Tmp) (v : Value) : (a.put d v).tmps.size = a.tmps.size := by
 unfold Act.put
 cases d <;> simp
theorem put_other {a : Act} {d s : Tmp} {v : Value} (h : d ≠ s) : (a.put (some d) v).tmps[s]? = a.tmps[s]? := by
 unfold Act.put
 simp [h]
theorem put_defers (a : Act) (d : Option Tmp) (v : Value) : (a.put d v).defers = a.defers := by
 unfold Act.put
 cases d <;> rfl
def keptB (s : Tmp) (l : List Oper) : Bool := l.all fun o => match o.dst with | some d => !Nat.beq d s | none => true
theorem kept_put {a : Act} {o : Oper} {s : Tmp} {v : Value} {l : List Oper} (h : keptB s (o :: l) = true) : (a.put o.dst v).tmps[s]? = a.tmps[s]? ∧ keptB s l = true := by
 unfold keptB at h ⊢
 rw [List.all_cons, Bool.and_eq_true] at h
 refine ⟨?_, h.2⟩
 cases hd : o.dst with
 | none => rfl
 | some d =>
  have h1 := h.1
  rw [hd] at h1
  refine put_other (fun e => ?_)
  subst e
  simp at h1
theorem wpList_tail {P : Program} {ops : Array Oper} {Q : Exit → Act → World → Prop} (pol : Bool) (n : Nat) (fin : Tmp) (w : World) (rest : List Oper) : ∀ (cur : Tmp) (a : Act), tailB ops pol n cur rest = some fin → a.tmps.size = n → a.tmps[cur]? = some (.bool (!pol)) →
 (∀ a' : Act, a'.tmps.size = n → a'.defers = a.defers → a'.tmps[fin]? = some (.bool (!pol)) → (∀ s, keptB s rest = true → a'.tmps[s]? = a.tmps[s]?) → Q .normal a' w) → wpList P ops Q rest a w := by
 induction rest with
 | nil =>
  intro cur a h hn hc hq
  unfold tailB at h
  injection h with h
  subst h
  exact hq a hn rfl hc (fun _ _ => rfl)
 | cons o rest ih =>
  intro cur a h hn hc hq
  have hval : (a.eval (.tmp cur)) = .bool (!pol) := by
   show a.tmps.getD cur undef = _
   rw [Array.getD_eq_getD_getElem?, hc]; rfl
  have step : ∀ (d : Tmp) (v : Value), o.guard = none → o.dst = some d → d < n → v = .bool (!pol) → (execOp a.eval o).run P w = .ok (.value v) w → tailB ops pol n d rest = some fin → wpList P ops Q (o :: rest) a w := by
   intro d v hg hd hdn hv he ht
   have hw : Region.wanted o (yielded ops a.tmps) = true := by simp [Region.wanted, hg]
   show (if Region.wanted o (yielded ops a.tmps) then o.wp P a w (wpList P ops Q rest) Q ∨ (o.asks P a w ∧ LetsOut Q) else wpList P ops Q rest (a.put o.dst undef) w)
   rw [if_pos hw]
   left
   show o.upon P a (wpList P ops Q rest) Q ((execOp a.eval o).run P w)
   rw [he, Oper.upon_value]
   have e1 : (a.put o.dst v).tmps[d]? = some (.bool (!pol)) := by rw [hd, put_at (show d < a.tmps.size by rw [hn]; exact hdn), hv]
   refine ih d (a.put o.dst v) ht (by rw [put_size]; exact hn) e1 (fun a' h1 h2 h3 h4 => hq a' h1 (by rw [h2, put_defers]) h3 (fun s hs => ?_))
   have hk := kept_put (a := a) (v := v) hs
   rw [h4 s hk.2]; exact hk.1
  have skip : o.guard ≠ none → (∀ d, o.dst = some d → d ≠ cur) → Region.wanted o (yielded ops a.tmps) = false → tailB ops pol n cur rest = some fin → wpList P ops Q (o :: rest) a w := by
   intro _ hd hw ht
   refine wpList_skip hw ?_
   have e1 : (a.put o.dst undef).tmps[cur]? = some (.bool (!pol)) := by
    cases hdd : o.dst with
    | none => exact hc
    | some d => rw [put_other (hd d hdd)]; exact hc
   refine ih cur (a.put o.dst undef) ht (by rw [put_size]; exact hn) e1 (fun a' h1 h2 h3 h4 => hq a' h1 (by rw [h2, put_defers]) h3 (fun s hs => ?_))
   have hk := kept_put (a := a) (v := undef) hs
   rw [h4 s hk.2]; exact hk.1
  have hyn : ∀ j g, (ops[j]?).bind (·.dst) = some g → g = cur → yielded ops a.tmps j = some (!pol) := by
   intro j g hj hg
   unfold yielded
   rw [hj, hg]
   show (match a.tmps[cur]? with | some (.bool b) => some b | _ => none) = _
   rw [hc]
  unfold tailB at h
  split at h
  · rename_i j want hgd
    split at h
    · rename_i g d hg hd
      split at h
      · rename_i hcond
        simp only [Bool.and_eq_true, beq_iff_eq, Nat.beq_eq, Bool.not_eq_true'] at hcond
        obtain ⟨⟨rfl, h2⟩, h3⟩ := hcond
        refine skip (by rw [hgd]; simp) (fun d' hd' => by rw [hd] at hd'; injection hd' with e; rw [← e]; intro e2; rw [e2] at h3; simp at h3) ?_ h
        unfold Region.wanted
        rw [hgd]
        show (yielded ops a.tmps j == some want) = false
        rw [hyn j g hg h2]
        cases want <;> rfl
      · cases h
    · rename_i g hg hd
      split at h
      · rename_i hcond
        simp only [Bool.and_eq_true, beq_iff_eq, Nat.beq_eq] at hcond
        obtain ⟨rfl, h2⟩ := hcond
        refine skip (by rw [hgd]; simp) (fun d' hd' => by rw [hd] at hd'; cases hd') ?_ h
        unfold Region.wanted
        rw [hgd]
        show (yielded ops a.tmps j == some want) = false
        rw [hyn j g hg h2]
        cases want <;> rfl
      · cases h
    · cases h
  · rename_i hgd
    split at h
    · rename_i s d ho hd
      split at h
      · rename_i hcond
        simp only [Bool.and_eq_true, Nat.beq_eq, Nat.blt_eq] at hcond
        obtain ⟨rfl, h2⟩ := hcond
        exact step d _ hgd hd h2 hval (by unfold execOp; rw [ho]; rfl) h
      · cases h
    · rename_i s d ho hd
      split at h
      · rename_i hcond
        simp only [Bool.and_eq_true, Nat.beq_eq, Nat.blt_eq] at hcond
        obtain ⟨rfl, h2⟩ := hcond
        exact step d _ hgd hd h2 hval (by unfold execOp; rw [ho]; rfl) h
      · cases h
    · rename_i s x y d ho hd
      split at h
      · rename_i b hb
        split at h
        · rename_i hcond
          simp only [Bool.and_eq_true, Nat.beq_eq, Nat.blt_eq, beq_iff_eq] at hcond
          obtain ⟨⟨rfl, h2⟩, h3⟩ := hcond
          refine step d (a.eval (if pol then y else x)) hgd hd h2 (by rw [hb, ← h3]; rfl) ?_ h
          unfold execOp
          rw [ho]
          simp only [hval]
          cases pol <;> rfl
        · cases h
      · cases h
    · cases h
end Go.Proofs.YtgmgccepmalahaaGreat

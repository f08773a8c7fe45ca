/- What the proof of ProblemCopies stands on, part 16. -/
import Derived.Deep.DeepCutAuto
import Derived.Test.YtgmgccepmalahaaGreatCpAD
import Derived.Test.YtgmgccepmalahaaGreatCpAF
namespace Go.Proofs.YtgmgccepmalahaaGreat
open Go.RowKit
open Whn (Gr Wh)
abbrev CpQ := Nat → Option Addr → Nat → Nat → World → Prop
def CpRet (Q : CpQ) (w : World) (e : Ending) (w' : World) : Prop := ∃ A n c, e = .returned (.slice A n c) ∧ Q w.heap.size A n c w' ∧ Below w.heap.size w w'
def Abv (b : Nat) (X Y : World) : Prop := X.heap.size ≤ Y.heap.size ∧ ∀ j, b ≤ j → j < X.heap.size → Y.heap[j]? = X.heap[j]?
theorem Abv.of {b : Nat} {X Y : World} (h : Below X.heap.size X Y) : Abv b X Y := ⟨h.size, fun j _ hj => h.block j hj⟩
theorem Abv.set {b G : Nat} (X : World) (k : Nat) (v : Value) (h : G < b) : Abv b X (X.setCell ⟨G, k, none⟩ v) := ⟨by simp [World.setCell], fun j hj hl => by
 have hne : G ≠ j := by omega
 simp [World.setCell, Array.getElem?_modify, hne]⟩
theorem Abv.trans {b : Nat} {X Y Z : World} (h : Abv b X Y) (h' : Abv b Y Z) : Abv b X Z := ⟨Nat.le_trans h.1 h'.1, fun j hj hl => (h'.2 j hj (Nat.lt_of_lt_of_le hl h.1)).trans (h.2 j hj hl)⟩
structure CpOk (Q : CpQ) : Prop where
 keep : ∀ b A n c X Y, Q b A n c X → Abv b X Y → Q b A n c Y
 low : ∀ b b' A n c X, Q b A n c X → b' ≤ b → Q b' A n c X
abbrev cpv (x : PbA) (A0 : Option Addr) (n0 d0 : Nat) (A1 : Option Addr) (n1 d1 : Nat) (A2 : Option Addr) (n2 d2 : Nat) (A3 : Option Addr) (n3 d3 : Nat) (A4 : Option Addr) (n4 d4 : Nat) (A5 : Option Addr) (n5 d5 : Nat) (A6 : Option Addr) (n6 d6 : Nat) : Value :=
 .agg #[txt x.n, .int .i64 x.g.w, .int .i64 x.g.d, .int .i64 x.g.s, .slice A0 n0 d0, .slice A1 n1 d1, .slice A2 n2 d2, .slice A3 n3 d3, .slice A4 n4 d4, .slice A5 n5 d5, .slice A6 n6 d6, .int .i64 x.w0, .int .i64 x.w1, .int .i64 x.w2, .int .i64 x.w3]
def CopyRet (x : PbA) (Q0 Q1 Q2 Q3 Q4 Q5 Q6 : CpQ) (w : World) (e : Ending) (w' : World) : Prop :=
 ∃ A0 n0 d0 A1 n1 d1 A2 n2 d2 A3 n3 d3 A4 n4 d4 A5 n5 d5 A6 n6 d6, e = .returned (cpv x A0 n0 d0 A1 n1 d1 A2 n2 d2 A3 n3 d3 A4 n4 d4 A5 n5 d5 A6 n6 d6) ∧
  Q0 w.heap.size A0 n0 d0 w' ∧ Q1 w.heap.size A1 n1 d1 w' ∧ Q2 w.heap.size A2 n2 d2 w' ∧ Q3 w.heap.size A3 n3 d3 w' ∧ Q4 w.heap.size A4 n4 d4 w' ∧ Q5 w.heap.size A5 n5 d5 w' ∧ Q6 w.heap.size A6 n6 d6 w' ∧ Below w.heap.size w w'
set_option maxRecDepth 20000 in
set_option maxHeartbeats 8000000 in
theorem p_CopyG (x : PbA) (w : World) (Q0 Q1 Q2 Q3 Q4 Q5 Q6 : CpQ) (S0 : CpOk Q0) (S1 : CpOk Q1) (S2 : CpOk Q2) (S3 : CpOk Q3) (S4 : CpOk Q4) (S5 : CpOk Q5) (S6 : CpOk Q6)
 (H0 : ∀ X, Below w.heap.size w X → Calls Tryz.prog 69 #[.slice x.r0 x.rm.length x.c0, .func (.func 70) #[] #[]] X (CpRet Q0 X))
 (H1 : ∀ X, Below w.heap.size w X → Calls Tryz.prog 71 #[.slice x.r1 x.wk.length x.c1, .func (.func 72) #[] #[]] X (CpRet Q1 X))
 (H2 : ∀ X, Below w.heap.size w X → Calls Tryz.prog 73 #[.slice x.r2 x.ps.length x.c2, .func (.func 74) #[] #[]] X (CpRet Q2 X))
 (H3 : ∀ X, Below w.heap.size w X → Calls Tryz.prog 75 #[.slice x.r3 x.cl.length x.c3, .func (.func 76) #[] #[]] X (CpRet Q3 X))
 (H4 : ∀ X, Below w.heap.size w X → Calls Tryz.prog 77 #[.slice x.r4 x.cs.length x.c4, .func (.func 78) #[] #[]] X (CpRet Q4 X))
 (H5 : ∀ X, Below w.heap.size w X → Calls Tryz.prog 79 #[.slice x.r5 x.st.length x.c5, .func (.func 80) #[] #[]] X (CpRet Q5 X))
 (H6 : ∀ X, Below w.heap.size w X → Calls Tryz.prog 81 #[.slice x.r6 x.rl.length x.c6, .func (.func 82) #[] #[]] X (CpRet Q6 X))
 : Calls Tryz.prog 18 #[pbv x] w (CopyRet x Q0 Q1 Q2 Q3 Q4 Q5 Q6 w) := by
 have H0 := hid H0
 have H1 := hid H1
 have H2 := hid H2
 have H3 := hid H3
 have H4 := hid H4
 have H5 := hid H5
 have H6 := hid H6
 obtain ⟨G, W, hG, hW, K, hb0⟩ := (Mem.nil w).one [txt x.n, .int .i64 x.g.w, .int .i64 x.g.d, .int .i64 x.g.s, .slice x.r0 x.rm.length x.c0, .slice x.r1 x.wk.length x.c1, .slice x.r2 x.ps.length x.c2, .slice x.r3 x.cl.length x.c3, .slice x.r4 x.cs.length x.c4, .slice x.r5 x.st.length x.c5, .slice x.r6 x.rl.length x.c6, .int .i64 x.w0, .int .i64 x.w1, .int .i64 x.w2, .int .i64 x.w3] 34
 obtain ⟨Z, V, hZ, hV, K0, hb1⟩ := K.out.one [.string ⟨#[]⟩, .int .i64 0, .int .i64 0, .int .i64 0, .slice none 0 0, .slice none 0 0, .slice none 0 0, .slice none 0 0, .slice none 0 0, .slice none 0 0, .slice none 0 0, .int .i64 0, .int .i64 0, .int .i64 0, .int .i64 0] 34
 have HGw := hid (show w.heap.size ≤ G ∧ w.heap.size ≤ Z ∧ G ≠ Z from by
  have h1 := (K.out.at_ (b := G) (cs := [txt x.n, .int .i64 x.g.w, .int .i64 x.g.d, .int .i64 x.g.s, .slice x.r0 x.rm.length x.c0, .slice x.r1 x.wk.length x.c1, .slice x.r2 x.ps.length x.c2, .slice x.r3 x.cl.length x.c3, .slice x.r4 x.cs.length x.c4, .slice x.r5 x.st.length x.c5, .slice x.r6 x.rl.length x.c6, .int .i64 x.w0, .int .i64 x.w1, .int .i64 x.w2, .int .i64 x.w3]) (t := 34) (by simp)).lt
  omega)
 obtain ⟨B, hB⟩ : ∃ B, V.heap.size = B := ⟨_, rfl⟩
 have HBd := hid (show G < B ∧ Z < B ∧ w.heap.size ≤ B from by
  have h1 := (K0.out.at_ (b := G) (cs := [txt x.n, .int .i64 x.g.w, .int .i64 x.g.d, .int .i64 x.g.s, .slice x.r0 x.rm.length x.c0, .slice x.r1 x.wk.length x.c1, .slice x.r2 x.ps.length x.c2, .slice x.r3 x.cl.length x.c3, .slice x.r4 x.cs.length x.c4, .slice x.r5 x.st.length x.c5, .slice x.r6 x.rl.length x.c6, .int .i64 x.w0, .int .i64 x.w1, .int .i64 x.w2, .int .i64 x.w3]) (t := 34) (by simp)).lt
  have h2 := (K0.out.at_ (b := Z) (cs := [.string ⟨#[]⟩, .int .i64 0, .int .i64 0, .int .i64 0, .slice none 0 0, .slice none 0 0, .slice none 0 0, .slice none 0 0, .slice none 0 0, .slice none 0 0, .slice none 0 0, .int .i64 0, .int .i64 0, .int .i64 0, .int .i64 0]) (t := 34) (by simp)).lt
  have h3 := K0.out.2.size
  omega)
 have M0 := hid (K0.out.sub (l' := [(G, [txt x.n, .int .i64 x.g.w, .int .i64 x.g.d, .int .i64 x.g.s, .slice x.r0 x.rm.length x.c0, .slice x.r1 x.wk.length x.c1, .slice x.r2 x.ps.length x.c2, .slice x.r3 x.cl.length x.c3, .slice x.r4 x.cs.length x.c4, .slice x.r5 x.st.length x.c5, .slice x.r6 x.rl.length x.c6, .int .i64 x.w0, .int .i64 x.w1, .int .i64 x.w2, .int .i64 x.w3], 34), (Z, [.string ⟨#[]⟩, .int .i64 0, .int .i64 0, .int .i64 0, .slice none 0 0, .slice none 0 0, .slice none 0 0, .slice none 0 0, .slice none 0 0, .slice none 0 0, .slice none 0 0, .int .i64 0, .int .i64 0, .int .i64 0, .int .i64 0], 34)]) (by simp))
 have HV0 := hid (show B ≤ V.heap.size by omega)
 clear hb0 hb1 K K0 hB
 have c0 := M0.out.cell (b := G) (cs := [txt x.n, .int .i64 x.g.w, .int .i64 x.g.d, .int .i64 x.g.s, .slice x.r0 x.rm.length x.c0, .slice x.r1 x.wk.length x.c1, .slice x.r2 x.ps.length x.c2, .slice x.r3 x.cl.length x.c3, .slice x.r4 x.cs.length x.c4, .slice x.r5 x.st.length x.c5, .slice x.r6 x.rl.length x.c6, .int .i64 x.w0, .int .i64 x.w1, .int .i64 x.w2, .int .i64 x.w3]) (t := 34) (by simp) (k := 4) rfl
 go_enter Tryz.func18, Tryz.ntmps18
 go_wp2_with fail
 refine (H0.out _ M0.out.2).mono ?_
 rintro e Y0 ⟨A0, n0, d0, rfl, hq0, bz⟩
 have N0 := hid (M0.out.next bz)
 have hb0 := bz.size
 have Bz0 := hid (bz)
 clear c0 bz
 have g0 := (N0.out.at_ (b := G) (cs := [txt x.n, .int .i64 x.g.w, .int .i64 x.g.d, .int .i64 x.g.s, .slice x.r0 x.rm.length x.c0, .slice x.r1 x.wk.length x.c1, .slice x.r2 x.ps.length x.c2, .slice x.r3 x.cl.length x.c3, .slice x.r4 x.cs.length x.c4, .slice x.r5 x.st.length x.c5, .slice x.r6 x.rl.length x.c6, .int .i64 x.w0, .int .i64 x.w1, .int .i64 x.w2, .int .i64 x.w3]) (t := 34) (by simp)).free 4
 have y0 := N0.out.cell (b := G) (cs := [txt x.n, .int .i64 x.g.w, .int .i64 x.g.d, .int .i64 x.g.s, .slice x.r0 x.rm.length x.c0, .slice x.r1 x.wk.length x.c1, .slice x.r2 x.ps.length x.c2, .slice x.r3 x.cl.length x.c3, .slice x.r4 x.cs.length x.c4, .slice x.r5 x.st.length x.c5, .slice x.r6 x.rl.length x.c6, .int .i64 x.w0, .int .i64 x.w1, .int .i64 x.w2, .int .i64 x.w3]) (t := 34) (by simp) (k := 4) rfl
 obtain ⟨X0, hX0⟩ : ∃ X, Y0.setCell ⟨G, 4, none⟩ (.slice A0 n0 d0) = X := ⟨_, rfl⟩
 have M1 := hid (show Mem w X0 [(G, [txt x.n, .int .i64 x.g.w, .int .i64 x.g.d, .int .i64 x.g.s, .slice A0 n0 d0, .slice x.r1 x.wk.length x.c1, .slice x.r2 x.ps.length x.c2, .slice x.r3 x.cl.length x.c3, .slice x.r4 x.cs.length x.c4, .slice x.r5 x.st.length x.c5, .slice x.r6 x.rl.length x.c6, .int .i64 x.w0, .int .i64 x.w1, .int .i64 x.w2, .int .i64 x.w3], 34), (Z, [.string ⟨#[]⟩, .int .i64 0, .int .i64 0, .int .i64 0, .slice none 0 0, .slice none 0 0, .slice none 0 0, .slice none 0 0, .slice none 0 0, .slice none 0 0, .slice none 0 0, .int .i64 0, .int .i64 0, .int .i64 0, .int .i64 0], 34)] from hX0 ▸ N0.out.set HGw.out.1 (by simp; exact fun e => HGw.out.2.2 e.symm) 4 _)
 have HV1 := hid (show B ≤ X0.heap.size by rw [← hX0]; simp [World.setCell]; have := HV0.out; omega)
 have U0 := hid (show Abv B V X0 from hX0 ▸ (Abv.of Bz0.out).trans (Abv.set _ _ _ HBd.out.1))
 have V0 := hid (show Q0 B A0 n0 d0 X0 from S0.keep _ _ _ _ _ _ (S0.low _ _ _ _ _ _ hq0 HV0.out) (hX0 ▸ Abv.set _ _ _ HBd.out.1))
 clear hq0 Bz0 N0 hb0
 have c1 := M1.out.cell (b := G) (cs := [txt x.n, .int .i64 x.g.w, .int .i64 x.g.d, .int .i64 x.g.s, .slice A0 n0 d0, .slice x.r1 x.wk.length x.c1, .slice x.r2 x.ps.length x.c2, .slice x.r3 x.cl.length x.c3, .slice x.r4 x.cs.length x.c4, .slice x.r5 x.st.length x.c5, .slice x.r6 x.rl.length x.c6, .int .i64 x.w0, .int .i64 x.w1, .int .i64 x.w2, .int .i64 x.w3]) (t := 34) (by simp) (k := 5) rfl
 go_wp2_with fail
 clear hX0 g0 y0
 refine (H1.out _ M1.out.2).mono ?_
 rintro e Y1 ⟨A1, n1, d1, rfl, hq1, bz⟩
 have N1 := hid (M1.out.next bz)
 have hb1 := bz.size
 have Bz1 := hid (bz)
 clear c1 bz
 have g1 := (N1.out.at_ (b := G) (cs := [txt x.n, .int .i64 x.g.w, .int .i64 x.g.d, .int .i64 x.g.s, .slice A0 n0 d0, .slice x.r1 x.wk.length x.c1, .slice x.r2 x.ps.length x.c2, .slice x.r3 x.cl.length x.c3, .slice x.r4 x.cs.length x.c4, .slice x.r5 x.st.length x.c5, .slice x.r6 x.rl.length x.c6, .int .i64 x.w0, .int .i64 x.w1, .int .i64 x.w2, .int .i64 x.w3]) (t := 34) (by simp)).free 5
 have y1 := N1.out.cell (b := G) (cs := [txt x.n, .int .i64 x.g.w, .int .i64 x.g.d, .int .i64 x.g.s, .slice A0 n0 d0, .slice x.r1 x.wk.length x.c1, .slice x.r2 x.ps.length x.c2, .slice x.r3 x.cl.length x.c3, .slice x.r4 x.cs.length x.c4, .slice x.r5 x.st.length x.c5, .slice x.r6 x.rl.length x.c6, .int .i64 x.w0, .int .i64 x.w1, .int .i64 x.w2, .int .i64 x.w3]) (t := 34) (by simp) (k := 5) rfl
 obtain ⟨X1, hX1⟩ : ∃ X, Y1.setCell ⟨G, 5, none⟩ (.slice A1 n1 d1) = X := ⟨_, rfl⟩
 have M2 := hid (show Mem w X1 [(G, [txt x.n, .int .i64 x.g.w, .int .i64 x.g.d, .int .i64 x.g.s, .slice A0 n0 d0, .slice A1 n1 d1, .slice x.r2 x.ps.length x.c2, .slice x.r3 x.cl.length x.c3, .slice x.r4 x.cs.length x.c4, .slice x.r5 x.st.length x.c5, .slice x.r6 x.rl.length x.c6, .int .i64 x.w0, .int .i64 x.w1, .int .i64 x.w2, .int .i64 x.w3], 34), (Z, [.string ⟨#[]⟩, .int .i64 0, .int .i64 0, .int .i64 0, .slice none 0 0, .slice none 0 0, .slice none 0 0, .slice none 0 0, .slice none 0 0, .slice none 0 0, .slice none 0 0, .int .i64 0, .int .i64 0, .int .i64 0, .int .i64 0], 34)] from hX1 ▸ N1.out.set HGw.out.1 (by simp; exact fun e => HGw.out.2.2 e.symm) 5 _)
 have HV2 := hid (show B ≤ X1.heap.size by rw [← hX1]; simp [World.setCell]; have := HV1.out; omega)
 have U1 := hid (show Abv B X0 X1 from hX1 ▸ (Abv.of Bz1.out).trans (Abv.set _ _ _ HBd.out.1))
 have V1 := hid (show Q1 B A1 n1 d1 X1 from S1.keep _ _ _ _ _ _ (S1.low _ _ _ _ _ _ hq1 HV1.out) (hX1 ▸ Abv.set _ _ _ HBd.out.1))
 clear hq1 Bz1 N1 hb1
 have c2 := M2.out.cell (b := G) (cs := [txt x.n, .int .i64 x.g.w, .int .i64 x.g.d, .int .i64 x.g.s, .slice A0 n0 d0, .slice A1 n1 d1, .slice x.r2 x.ps.length x.c2, .slice x.r3 x.cl.length x.c3, .slice x.r4 x.cs.length x.c4, .slice x.r5 x.st.length x.c5, .slice x.r6 x.rl.length x.c6, .int .i64 x.w0, .int .i64 x.w1, .int .i64 x.w2, .int .i64 x.w3]) (t := 34) (by simp) (k := 6) rfl
 go_wp2_with fail
 clear hX1 g1 y1
 refine (H2.out _ M2.out.2).mono ?_
 rintro e Y2 ⟨A2, n2, d2, rfl, hq2, bz⟩
 have N2 := hid (M2.out.next bz)
 have hb2 := bz.size
 have Bz2 := hid (bz)
 clear c2 bz
 have g2 := (N2.out.at_ (b := G) (cs := [txt x.n, .int .i64 x.g.w, .int .i64 x.g.d, .int .i64 x.g.s, .slice A0 n0 d0, .slice A1 n1 d1, .slice x.r2 x.ps.length x.c2, .slice x.r3 x.cl.length x.c3, .slice x.r4 x.cs.length x.c4, .slice x.r5 x.st.length x.c5, .slice x.r6 x.rl.length x.c6, .int .i64 x.w0, .int .i64 x.w1, .int .i64 x.w2, .int .i64 x.w3]) (t := 34) (by simp)).free 6
 have y2 := N2.out.cell (b := G) (cs := [txt x.n, .int .i64 x.g.w, .int .i64 x.g.d, .int .i64 x.g.s, .slice A0 n0 d0, .slice A1 n1 d1, .slice x.r2 x.ps.length x.c2, .slice x.r3 x.cl.length x.c3, .slice x.r4 x.cs.length x.c4, .slice x.r5 x.st.length x.c5, .slice x.r6 x.rl.length x.c6, .int .i64 x.w0, .int .i64 x.w1, .int .i64 x.w2, .int .i64 x.w3]) (t := 34) (by simp) (k := 6) rfl
 obtain ⟨X2, hX2⟩ : ∃ X, Y2.setCell ⟨G, 6, none⟩ (.slice A2 n2 d2) = X := ⟨_, rfl⟩
 have M3 := hid (show Mem w X2 [(G, [txt x.n, .int .i64 x.g.w, .int .i64 x.g.d, .int .i64 x.g.s, .slice A0 n0 d0, .slice A1 n1 d1, .slice A2 n2 d2, .slice x.r3 x.cl.length x.c3, .slice x.r4 x.cs.length x.c4, .slice x.r5 x.st.length x.c5, .slice x.r6 x.rl.length x.c6, .int .i64 x.w0, .int .i64 x.w1, .int .i64 x.w2, .int .i64 x.w3], 34), (Z, [.string ⟨#[]⟩, .int .i64 0, .int .i64 0, .int .i64 0, .slice none 0 0, .slice none 0 0, .slice none 0 0, .slice none 0 0, .slice none 0 0, .slice none 0 0, .slice none 0 0, .int .i64 0, .int .i64 0, .int .i64 0, .int .i64 0], 34)] from hX2 ▸ N2.out.set HGw.out.1 (by simp; exact fun e => HGw.out.2.2 e.symm) 6 _)
 have HV3 := hid (show B ≤ X2.heap.size by rw [← hX2]; simp [World.setCell]; have := HV2.out; omega)
 have U2 := hid (show Abv B X1 X2 from hX2 ▸ (Abv.of Bz2.out).trans (Abv.set _ _ _ HBd.out.1))
 have V2 := hid (show Q2 B A2 n2 d2 X2 from S2.keep _ _ _ _ _ _ (S2.low _ _ _ _ _ _ hq2 HV2.out) (hX2 ▸ Abv.set _ _ _ HBd.out.1))
 clear hq2 Bz2 N2 hb2
 have c3 := M3.out.cell (b := G) (cs := [txt x.n, .int .i64 x.g.w, .int .i64 x.g.d, .int .i64 x.g.s, .slice A0 n0 d0, .slice A1 n1 d1, .slice A2 n2 d2, .slice x.r3 x.cl.length x.c3, .slice x.r4 x.cs.length x.c4, .slice x.r5 x.st.length x.c5, .slice x.r6 x.rl.length x.c6, .int .i64 x.w0, .int .i64 x.w1, .int .i64 x.w2, .int .i64 x.w3]) (t := 34) (by simp) (k := 7) rfl
 go_wp2_with fail
 clear hX2 g2 y2
 refine (H3.out _ M3.out.2).mono ?_
 rintro e Y3 ⟨A3, n3, d3, rfl, hq3, bz⟩
 have N3 := hid (M3.out.next bz)
 have hb3 := bz.size
 have Bz3 := hid (bz)
 clear c3 bz
 have g3 := (N3.out.at_ (b := G) (cs := [txt x.n, .int .i64 x.g.w, .int .i64 x.g.d, .int .i64 x.g.s, .slice A0 n0 d0, .slice A1 n1 d1, .slice A2 n2 d2, .slice x.r3 x.cl.length x.c3, .slice x.r4 x.cs.length x.c4, .slice x.r5 x.st.length x.c5, .slice x.r6 x.rl.length x.c6, .int .i64 x.w0, .int .i64 x.w1, .int .i64 x.w2, .int .i64 x.w3]) (t := 34) (by simp)).free 7
 have y3 := N3.out.cell (b := G) (cs := [txt x.n, .int .i64 x.g.w, .int .i64 x.g.d, .int .i64 x.g.s, .slice A0 n0 d0, .slice A1 n1 d1, .slice A2 n2 d2, .slice x.r3 x.cl.length x.c3, .slice x.r4 x.cs.length x.c4, .slice x.r5 x.st.length x.c5, .slice x.r6 x.rl.length x.c6, .int .i64 x.w0, .int .i64 x.w1, .int .i64 x.w2, .int .i64 x.w3]) (t := 34) (by simp) (k := 7) rfl
 obtain ⟨X3, hX3⟩ : ∃ X, Y3.setCell ⟨G, 7, none⟩ (.slice A3 n3 d3) = X := ⟨_, rfl⟩
 have M4 := hid (show Mem w X3 [(G, [txt x.n, .int .i64 x.g.w, .int .i64 x.g.d, .int .i64 x.g.s, .slice A0 n0 d0, .slice A1 n1 d1, .slice A2 n2 d2, .slice A3 n3 d3, .slice x.r4 x.cs.length x.c4, .slice x.r5 x.st.length x.c5, .slice x.r6 x.rl.length x.c6, .int .i64 x.w0, .int .i64 x.w1, .int .i64 x.w2, .int .i64 x.w3], 34), (Z, [.string ⟨#[]⟩, .int .i64 0, .int .i64 0, .int .i64 0, .slice none 0 0, .slice none 0 0, .slice none 0 0, .slice none 0 0, .slice none 0 0, .slice none 0 0, .slice none 0 0, .int .i64 0, .int .i64 0, .int .i64 0, .int .i64 0], 34)] from hX3 ▸ N3.out.set HGw.out.1 (by simp; exact fun e => HGw.out.2.2 e.symm) 7 _)
 have HV4 := hid (show B ≤ X3.heap.size by rw [← hX3]; simp [World.setCell]; have := HV3.out; omega)
 have U3 := hid (show Abv B X2 X3 from hX3 ▸ (Abv.of Bz3.out).trans (Abv.set _ _ _ HBd.out.1))
 have V3 := hid (show Q3 B A3 n3 d3 X3 from S3.keep _ _ _ _ _ _ (S3.low _ _ _ _ _ _ hq3 HV3.out) (hX3 ▸ Abv.set _ _ _ HBd.out.1))
 clear hq3 Bz3 N3 hb3
 have c4 := M4.out.cell (b := G) (cs := [txt x.n, .int .i64 x.g.w, .int .i64 x.g.d, .int .i64 x.g.s, .slice A0 n0 d0, .slice A1 n1 d1, .slice A2 n2 d2, .slice A3 n3 d3, .slice x.r4 x.cs.length x.c4, .slice x.r5 x.st.length x.c5, .slice x.r6 x.rl.length x.c6, .int .i64 x.w0, .int .i64 x.w1, .int .i64 x.w2, .int .i64 x.w3]) (t := 34) (by simp) (k := 8) rfl
 go_wp2_with fail
 clear hX3 g3 y3
 refine (H4.out _ M4.out.2).mono ?_
 rintro e Y4 ⟨A4, n4, d4, rfl, hq4, bz⟩
 have N4 := hid (M4.out.next bz)
 have hb4 := bz.size
 have Bz4 := hid (bz)
 clear c4 bz
 have g4 := (N4.out.at_ (b := G) (cs := [txt x.n, .int .i64 x.g.w, .int .i64 x.g.d, .int .i64 x.g.s, .slice A0 n0 d0, .slice A1 n1 d1, .slice A2 n2 d2, .slice A3 n3 d3, .slice x.r4 x.cs.length x.c4, .slice x.r5 x.st.length x.c5, .slice x.r6 x.rl.length x.c6, .int .i64 x.w0, .int .i64 x.w1, .int .i64 x.w2, .int .i64 x.w3]) (t := 34) (by simp)).free 8
 have y4 := N4.out.cell (b := G) (cs := [txt x.n, .int .i64 x.g.w, .int .i64 x.g.d, .int .i64 x.g.s, .slice A0 n0 d0, .slice A1 n1 d1, .slice A2 n2 d2, .slice A3 n3 d3, .slice x.r4 x.cs.length x.c4, .slice x.r5 x.st.length x.c5, .slice x.r6 x.rl.length x.c6, .int .i64 x.w0, .int .i64 x.w1, .int .i64 x.w2, .int .i64 x.w3]) (t := 34) (by simp) (k := 8) rfl
 obtain ⟨X4, hX4⟩ : ∃ X, Y4.setCell ⟨G, 8, none⟩ (.slice A4 n4 d4) = X := ⟨_, rfl⟩
 have M5 := hid (show Mem w X4 [(G, [txt x.n, .int .i64 x.g.w, .int .i64 x.g.d, .int .i64 x.g.s, .slice A0 n0 d0, .slice A1 n1 d1, .slice A2 n2 d2, .slice A3 n3 d3, .slice A4 n4 d4, .slice x.r5 x.st.length x.c5, .slice x.r6 x.rl.length x.c6, .int .i64 x.w0, .int .i64 x.w1, .int .i64 x.w2, .int .i64 x.w3], 34), (Z, [.string ⟨#[]⟩, .int .i64 0, .int .i64 0, .int .i64 0, .slice none 0 0, .slice none 0 0, .slice none 0 0, .slice none 0 0, .slice none 0 0, .slice none 0 0, .slice none 0 0, .int .i64 0, .int .i64 0, .int .i64 0, .int .i64 0], 34)] from hX4 ▸ N4.out.set HGw.out.1 (by simp; exact fun e => HGw.out.2.2 e.symm) 8 _)
 have HV5 := hid (show B ≤ X4.heap.size by rw [← hX4]; simp [World.setCell]; have := HV4.out; omega)
 have U4 := hid (show Abv B X3 X4 from hX4 ▸ (Abv.of Bz4.out).trans (Abv.set _ _ _ HBd.out.1))
 have V4 := hid (show Q4 B A4 n4 d4 X4 from S4.keep _ _ _ _ _ _ (S4.low _ _ _ _ _ _ hq4 HV4.out) (hX4 ▸ Abv.set _ _ _ HBd.out.1))
 clear hq4 Bz4 N4 hb4
 have c5 := M5.out.cell (b := G) (cs := [txt x.n, .int .i64 x.g.w, .int .i64 x.g.d, .int .i64 x.g.s, .slice A0 n0 d0, .slice A1 n1 d1, .slice A2 n2 d2, .slice A3 n3 d3, .slice A4 n4 d4, .slice x.r5 x.st.length x.c5, .slice x.r6 x.rl.length x.c6, .int .i64 x.w0, .int .i64 x.w1, .int .i64 x.w2, .int .i64 x.w3]) (t := 34) (by simp) (k := 9) rfl
 go_wp2_with fail
 clear hX4 g4 y4
 refine (H5.out _ M5.out.2).mono ?_
 rintro e Y5 ⟨A5, n5, d5, rfl, hq5, bz⟩
 have N5 := hid (M5.out.next bz)
 have hb5 := bz.size
 have Bz5 := hid (bz)
 clear c5 bz
 have g5 := (N5.out.at_ (b := G) (cs := [txt x.n, .int .i64 x.g.w, .int .i64 x.g.d, .int .i64 x.g.s, .slice A0 n0 d0, .slice A1 n1 d1, .slice A2 n2 d2, .slice A3 n3 d3, .slice A4 n4 d4, .slice x.r5 x.st.length x.c5, .slice x.r6 x.rl.length x.c6, .int .i64 x.w0, .int .i64 x.w1, .int .i64 x.w2, .int .i64 x.w3]) (t := 34) (by simp)).free 9
 have y5 := N5.out.cell (b := G) (cs := [txt x.n, .int .i64 x.g.w, .int .i64 x.g.d, .int .i64 x.g.s, .slice A0 n0 d0, .slice A1 n1 d1, .slice A2 n2 d2, .slice A3 n3 d3, .slice A4 n4 d4, .slice x.r5 x.st.length x.c5, .slice x.r6 x.rl.length x.c6, .int .i64 x.w0, .int .i64 x.w1, .int .i64 x.w2, .int .i64 x.w3]) (t := 34) (by simp) (k := 9) rfl
 obtain ⟨X5, hX5⟩ : ∃ X, Y5.setCell ⟨G, 9, none⟩ (.slice A5 n5 d5) = X := ⟨_, rfl⟩
 have M6 := hid (show Mem w X5 [(G, [txt x.n, .int .i64 x.g.w, .int .i64 x.g.d, .int .i64 x.g.s, .slice A0 n0 d0, .slice A1 n1 d1, .slice A2 n2 d2, .slice A3 n3 d3, .slice A4 n4 d4, .slice A5 n5 d5, .slice x.r6 x.rl.length x.c6, .int .i64 x.w0, .int .i64 x.w1, .int .i64 x.w2, .int .i64 x.w3], 34), (Z, [.string ⟨#[]⟩, .int .i64 0, .int .i64 0, .int .i64 0, .slice none 0 0, .slice none 0 0, .slice none 0 0, .slice none 0 0, .slice none 0 0, .slice none 0 0, .slice none 0 0, .int .i64 0, .int .i64 0, .int .i64 0, .int .i64 0], 34)] from hX5 ▸ N5.out.set HGw.out.1 (by simp; exact fun e => HGw.out.2.2 e.symm) 9 _)
 have HV6 := hid (show B ≤ X5.heap.size by rw [← hX5]; simp [World.setCell]; have := HV5.out; omega)
 have U5 := hid (show Abv B X4 X5 from hX5 ▸ (Abv.of Bz5.out).trans (Abv.set _ _ _ HBd.out.1))
 have V5 := hid (show Q5 B A5 n5 d5 X5 from S5.keep _ _ _ _ _ _ (S5.low _ _ _ _ _ _ hq5 HV5.out) (hX5 ▸ Abv.set _ _ _ HBd.out.1))
 clear hq5 Bz5 N5 hb5
 have c6 := M6.out.cell (b := G) (cs := [txt x.n, .int .i64 x.g.w, .int .i64 x.g.d, .int .i64 x.g.s, .slice A0 n0 d0, .slice A1 n1 d1, .slice A2 n2 d2, .slice A3 n3 d3, .slice A4 n4 d4, .slice A5 n5 d5, .slice x.r6 x.rl.length x.c6, .int .i64 x.w0, .int .i64 x.w1, .int .i64 x.w2, .int .i64 x.w3]) (t := 34) (by simp) (k := 10) rfl
 go_wp2_with fail
 clear hX5 g5 y5
 refine (H6.out _ M6.out.2).mono ?_
 rintro e Y6 ⟨A6, n6, d6, rfl, hq6, bz⟩
 have N6 := hid (M6.out.next bz)
 have hb6 := bz.size
 have Bz6 := hid (bz)
 clear c6 bz
 have g6 := (N6.out.at_ (b := G) (cs := [txt x.n, .int .i64 x.g.w, .int .i64 x.g.d, .int .i64 x.g.s, .slice A0 n0 d0, .slice A1 n1 d1, .slice A2 n2 d2, .slice A3 n3 d3, .slice A4 n4 d4, .slice A5 n5 d5, .slice x.r6 x.rl.length x.c6, .int .i64 x.w0, .int .i64 x.w1, .int .i64 x.w2, .int .i64 x.w3]) (t := 34) (by simp)).free 10
 have y6 := N6.out.cell (b := G) (cs := [txt x.n, .int .i64 x.g.w, .int .i64 x.g.d, .int .i64 x.g.s, .slice A0 n0 d0, .slice A1 n1 d1, .slice A2 n2 d2, .slice A3 n3 d3, .slice A4 n4 d4, .slice A5 n5 d5, .slice x.r6 x.rl.length x.c6, .int .i64 x.w0, .int .i64 x.w1, .int .i64 x.w2, .int .i64 x.w3]) (t := 34) (by simp) (k := 10) rfl
 obtain ⟨X6, hX6⟩ : ∃ X, Y6.setCell ⟨G, 10, none⟩ (.slice A6 n6 d6) = X := ⟨_, rfl⟩
 have M7 := hid (show Mem w X6 [(G, [txt x.n, .int .i64 x.g.w, .int .i64 x.g.d, .int .i64 x.g.s, .slice A0 n0 d0, .slice A1 n1 d1, .slice A2 n2 d2, .slice A3 n3 d3, .slice A4 n4 d4, .slice A5 n5 d5, .slice A6 n6 d6, .int .i64 x.w0, .int .i64 x.w1, .int .i64 x.w2, .int .i64 x.w3], 34), (Z, [.string ⟨#[]⟩, .int .i64 0, .int .i64 0, .int .i64 0, .slice none 0 0, .slice none 0 0, .slice none 0 0, .slice none 0 0, .slice none 0 0, .slice none 0 0, .slice none 0 0, .int .i64 0, .int .i64 0, .int .i64 0, .int .i64 0], 34)] from hX6 ▸ N6.out.set HGw.out.1 (by simp; exact fun e => HGw.out.2.2 e.symm) 10 _)
 have HV7 := hid (show B ≤ X6.heap.size by rw [← hX6]; simp [World.setCell]; have := HV6.out; omega)
 have U6 := hid (show Abv B X5 X6 from hX6 ▸ (Abv.of Bz6.out).trans (Abv.set _ _ _ HBd.out.1))
 have V6 := hid (show Q6 B A6 n6 d6 X6 from S6.keep _ _ _ _ _ _ (S6.low _ _ _ _ _ _ hq6 HV6.out) (hX6 ▸ Abv.set _ _ _ HBd.out.1))
 clear hq6 Bz6 N6 hb6
 have gz := (M7.out.at_ (b := Z) (cs := [.string ⟨#[]⟩, .int .i64 0, .int .i64 0, .int .i64 0, .slice none 0 0, .slice none 0 0, .slice none 0 0, .slice none 0 0, .slice none 0 0, .slice none 0 0, .slice none 0 0, .int .i64 0, .int .i64 0, .int .i64 0, .int .i64 0]) (t := 34) (by simp)).free
 have f0 := gz 0
 have e0 := M7.out.cell (b := G) (cs := [txt x.n, .int .i64 x.g.w, .int .i64 x.g.d, .int .i64 x.g.s, .slice A0 n0 d0, .slice A1 n1 d1, .slice A2 n2 d2, .slice A3 n3 d3, .slice A4 n4 d4, .slice A5 n5 d5, .slice A6 n6 d6, .int .i64 x.w0, .int .i64 x.w1, .int .i64 x.w2, .int .i64 x.w3]) (t := 34) (by simp) (k := 0) rfl
 have z0 := M7.out.cell (b := Z) (cs := [.string ⟨#[]⟩, .int .i64 0, .int .i64 0, .int .i64 0, .slice none 0 0, .slice none 0 0, .slice none 0 0, .slice none 0 0, .slice none 0 0, .slice none 0 0, .slice none 0 0, .int .i64 0, .int .i64 0, .int .i64 0, .int .i64 0]) (t := 34) (by simp) (k := 0) rfl
 have f1 := gz 1
 have e1 := M7.out.cell (b := G) (cs := [txt x.n, .int .i64 x.g.w, .int .i64 x.g.d, .int .i64 x.g.s, .slice A0 n0 d0, .slice A1 n1 d1, .slice A2 n2 d2, .slice A3 n3 d3, .slice A4 n4 d4, .slice A5 n5 d5, .slice A6 n6 d6, .int .i64 x.w0, .int .i64 x.w1, .int .i64 x.w2, .int .i64 x.w3]) (t := 34) (by simp) (k := 1) rfl
 have z1 := M7.out.cell (b := Z) (cs := [.string ⟨#[]⟩, .int .i64 0, .int .i64 0, .int .i64 0, .slice none 0 0, .slice none 0 0, .slice none 0 0, .slice none 0 0, .slice none 0 0, .slice none 0 0, .slice none 0 0, .int .i64 0, .int .i64 0, .int .i64 0, .int .i64 0]) (t := 34) (by simp) (k := 1) rfl
 have f2 := gz 2
 have e2 := M7.out.cell (b := G) (cs := [txt x.n, .int .i64 x.g.w, .int .i64 x.g.d, .int .i64 x.g.s, .slice A0 n0 d0, .slice A1 n1 d1, .slice A2 n2 d2, .slice A3 n3 d3, .slice A4 n4 d4, .slice A5 n5 d5, .slice A6 n6 d6, .int .i64 x.w0, .int .i64 x.w1, .int .i64 x.w2, .int .i64 x.w3]) (t := 34) (by simp) (k := 2) rfl
 have z2 := M7.out.cell (b := Z) (cs := [.string ⟨#[]⟩, .int .i64 0, .int .i64 0, .int .i64 0, .slice none 0 0, .slice none 0 0, .slice none 0 0, .slice none 0 0, .slice none 0 0, .slice none 0 0, .slice none 0 0, .int .i64 0, .int .i64 0, .int .i64 0, .int .i64 0]) (t := 34) (by simp) (k := 2) rfl
 have f3 := gz 3
 have e3 := M7.out.cell (b := G) (cs := [txt x.n, .int .i64 x.g.w, .int .i64 x.g.d, .int .i64 x.g.s, .slice A0 n0 d0, .slice A1 n1 d1, .slice A2 n2 d2, .slice A3 n3 d3, .slice A4 n4 d4, .slice A5 n5 d5, .slice A6 n6 d6, .int .i64 x.w0, .int .i64 x.w1, .int .i64 x.w2, .int .i64 x.w3]) (t := 34) (by simp) (k := 3) rfl
 have z3 := M7.out.cell (b := Z) (cs := [.string ⟨#[]⟩, .int .i64 0, .int .i64 0, .int .i64 0, .slice none 0 0, .slice none 0 0, .slice none 0 0, .slice none 0 0, .slice none 0 0, .slice none 0 0, .slice none 0 0, .int .i64 0, .int .i64 0, .int .i64 0, .int .i64 0]) (t := 34) (by simp) (k := 3) rfl
 have f4 := gz 4
 have e4 := M7.out.cell (b := G) (cs := [txt x.n, .int .i64 x.g.w, .int .i64 x.g.d, .int .i64 x.g.s, .slice A0 n0 d0, .slice A1 n1 d1, .slice A2 n2 d2, .slice A3 n3 d3, .slice A4 n4 d4, .slice A5 n5 d5, .slice A6 n6 d6, .int .i64 x.w0, .int .i64 x.w1, .int .i64 x.w2, .int .i64 x.w3]) (t := 34) (by simp) (k := 4) rfl
 have z4 := M7.out.cell (b := Z) (cs := [.string ⟨#[]⟩, .int .i64 0, .int .i64 0, .int .i64 0, .slice none 0 0, .slice none 0 0, .slice none 0 0, .slice none 0 0, .slice none 0 0, .slice none 0 0, .slice none 0 0, .int .i64 0, .int .i64 0, .int .i64 0, .int .i64 0]) (t := 34) (by simp) (k := 4) rfl
 have f5 := gz 5
 have e5 := M7.out.cell (b := G) (cs := [txt x.n, .int .i64 x.g.w, .int .i64 x.g.d, .int .i64 x.g.s, .slice A0 n0 d0, .slice A1 n1 d1, .slice A2 n2 d2, .slice A3 n3 d3, .slice A4 n4 d4, .slice A5 n5 d5, .slice A6 n6 d6, .int .i64 x.w0, .int .i64 x.w1, .int .i64 x.w2, .int .i64 x.w3]) (t := 34) (by simp) (k := 5) rfl
 have z5 := M7.out.cell (b := Z) (cs := [.string ⟨#[]⟩, .int .i64 0, .int .i64 0, .int .i64 0, .slice none 0 0, .slice none 0 0, .slice none 0 0, .slice none 0 0, .slice none 0 0, .slice none 0 0, .slice none 0 0, .int .i64 0, .int .i64 0, .int .i64 0, .int .i64 0]) (t := 34) (by simp) (k := 5) rfl
 have f6 := gz 6
 have e6 := M7.out.cell (b := G) (cs := [txt x.n, .int .i64 x.g.w, .int .i64 x.g.d, .int .i64 x.g.s, .slice A0 n0 d0, .slice A1 n1 d1, .slice A2 n2 d2, .slice A3 n3 d3, .slice A4 n4 d4, .slice A5 n5 d5, .slice A6 n6 d6, .int .i64 x.w0, .int .i64 x.w1, .int .i64 x.w2, .int .i64 x.w3]) (t := 34) (by simp) (k := 6) rfl
 have z6 := M7.out.cell (b := Z) (cs := [.string ⟨#[]⟩, .int .i64 0, .int .i64 0, .int .i64 0, .slice none 0 0, .slice none 0 0, .slice none 0 0, .slice none 0 0, .slice none 0 0, .slice none 0 0, .slice none 0 0, .int .i64 0, .int .i64 0, .int .i64 0, .int .i64 0]) (t := 34) (by simp) (k := 6) rfl
 have f7 := gz 7
 have e7 := M7.out.cell (b := G) (cs := [txt x.n, .int .i64 x.g.w, .int .i64 x.g.d, .int .i64 x.g.s, .slice A0 n0 d0, .slice A1 n1 d1, .slice A2 n2 d2, .slice A3 n3 d3, .slice A4 n4 d4, .slice A5 n5 d5, .slice A6 n6 d6, .int .i64 x.w0, .int .i64 x.w1, .int .i64 x.w2, .int .i64 x.w3]) (t := 34) (by simp) (k := 7) rfl
 have z7 := M7.out.cell (b := Z) (cs := [.string ⟨#[]⟩, .int .i64 0, .int .i64 0, .int .i64 0, .slice none 0 0, .slice none 0 0, .slice none 0 0, .slice none 0 0, .slice none 0 0, .slice none 0 0, .slice none 0 0, .int .i64 0, .int .i64 0, .int .i64 0, .int .i64 0]) (t := 34) (by simp) (k := 7) rfl
 have f8 := gz 8
 have e8 := M7.out.cell (b := G) (cs := [txt x.n, .int .i64 x.g.w, .int .i64 x.g.d, .int .i64 x.g.s, .slice A0 n0 d0, .slice A1 n1 d1, .slice A2 n2 d2, .slice A3 n3 d3, .slice A4 n4 d4, .slice A5 n5 d5, .slice A6 n6 d6, .int .i64 x.w0, .int .i64 x.w1, .int .i64 x.w2, .int .i64 x.w3]) (t := 34) (by simp) (k := 8) rfl
 have z8 := M7.out.cell (b := Z) (cs := [.string ⟨#[]⟩, .int .i64 0, .int .i64 0, .int .i64 0, .slice none 0 0, .slice none 0 0, .slice none 0 0, .slice none 0 0, .slice none 0 0, .slice none 0 0, .slice none 0 0, .int .i64 0, .int .i64 0, .int .i64 0, .int .i64 0]) (t := 34) (by simp) (k := 8) rfl
 have f9 := gz 9
 have e9 := M7.out.cell (b := G) (cs := [txt x.n, .int .i64 x.g.w, .int .i64 x.g.d, .int .i64 x.g.s, .slice A0 n0 d0, .slice A1 n1 d1, .slice A2 n2 d2, .slice A3 n3 d3, .slice A4 n4 d4, .slice A5 n5 d5, .slice A6 n6 d6, .int .i64 x.w0, .int .i64 x.w1, .int .i64 x.w2, .int .i64 x.w3]) (t := 34) (by simp) (k := 9) rfl
 have z9 := M7.out.cell (b := Z) (cs := [.string ⟨#[]⟩, .int .i64 0, .int .i64 0, .int .i64 0, .slice none 0 0, .slice none 0 0, .slice none 0 0, .slice none 0 0, .slice none 0 0, .slice none 0 0, .slice none 0 0, .int .i64 0, .int .i64 0, .int .i64 0, .int .i64 0]) (t := 34) (by simp) (k := 9) rfl
 have f10 := gz 10
 have e10 := M7.out.cell (b := G) (cs := [txt x.n, .int .i64 x.g.w, .int .i64 x.g.d, .int .i64 x.g.s, .slice A0 n0 d0, .slice A1 n1 d1, .slice A2 n2 d2, .slice A3 n3 d3, .slice A4 n4 d4, .slice A5 n5 d5, .slice A6 n6 d6, .int .i64 x.w0, .int .i64 x.w1, .int .i64 x.w2, .int .i64 x.w3]) (t := 34) (by simp) (k := 10) rfl
 have z10 := M7.out.cell (b := Z) (cs := [.string ⟨#[]⟩, .int .i64 0, .int .i64 0, .int .i64 0, .slice none 0 0, .slice none 0 0, .slice none 0 0, .slice none 0 0, .slice none 0 0, .slice none 0 0, .slice none 0 0, .int .i64 0, .int .i64 0, .int .i64 0, .int .i64 0]) (t := 34) (by simp) (k := 10) rfl
 have f11 := gz 11
 have e11 := M7.out.cell (b := G) (cs := [txt x.n, .int .i64 x.g.w, .int .i64 x.g.d, .int .i64 x.g.s, .slice A0 n0 d0, .slice A1 n1 d1, .slice A2 n2 d2, .slice A3 n3 d3, .slice A4 n4 d4, .slice A5 n5 d5, .slice A6 n6 d6, .int .i64 x.w0, .int .i64 x.w1, .int .i64 x.w2, .int .i64 x.w3]) (t := 34) (by simp) (k := 11) rfl
 have z11 := M7.out.cell (b := Z) (cs := [.string ⟨#[]⟩, .int .i64 0, .int .i64 0, .int .i64 0, .slice none 0 0, .slice none 0 0, .slice none 0 0, .slice none 0 0, .slice none 0 0, .slice none 0 0, .slice none 0 0, .int .i64 0, .int .i64 0, .int .i64 0, .int .i64 0]) (t := 34) (by simp) (k := 11) rfl
 have f12 := gz 12
 have e12 := M7.out.cell (b := G) (cs := [txt x.n, .int .i64 x.g.w, .int .i64 x.g.d, .int .i64 x.g.s, .slice A0 n0 d0, .slice A1 n1 d1, .slice A2 n2 d2, .slice A3 n3 d3, .slice A4 n4 d4, .slice A5 n5 d5, .slice A6 n6 d6, .int .i64 x.w0, .int .i64 x.w1, .int .i64 x.w2, .int .i64 x.w3]) (t := 34) (by simp) (k := 12) rfl
 have z12 := M7.out.cell (b := Z) (cs := [.string ⟨#[]⟩, .int .i64 0, .int .i64 0, .int .i64 0, .slice none 0 0, .slice none 0 0, .slice none 0 0, .slice none 0 0, .slice none 0 0, .slice none 0 0, .slice none 0 0, .int .i64 0, .int .i64 0, .int .i64 0, .int .i64 0]) (t := 34) (by simp) (k := 12) rfl
 have f13 := gz 13
 have e13 := M7.out.cell (b := G) (cs := [txt x.n, .int .i64 x.g.w, .int .i64 x.g.d, .int .i64 x.g.s, .slice A0 n0 d0, .slice A1 n1 d1, .slice A2 n2 d2, .slice A3 n3 d3, .slice A4 n4 d4, .slice A5 n5 d5, .slice A6 n6 d6, .int .i64 x.w0, .int .i64 x.w1, .int .i64 x.w2, .int .i64 x.w3]) (t := 34) (by simp) (k := 13) rfl
 have z13 := M7.out.cell (b := Z) (cs := [.string ⟨#[]⟩, .int .i64 0, .int .i64 0, .int .i64 0, .slice none 0 0, .slice none 0 0, .slice none 0 0, .slice none 0 0, .slice none 0 0, .slice none 0 0, .slice none 0 0, .int .i64 0, .int .i64 0, .int .i64 0, .int .i64 0]) (t := 34) (by simp) (k := 13) rfl
 have f14 := gz 14
 have e14 := M7.out.cell (b := G) (cs := [txt x.n, .int .i64 x.g.w, .int .i64 x.g.d, .int .i64 x.g.s, .slice A0 n0 d0, .slice A1 n1 d1, .slice A2 n2 d2, .slice A3 n3 d3, .slice A4 n4 d4, .slice A5 n5 d5, .slice A6 n6 d6, .int .i64 x.w0, .int .i64 x.w1, .int .i64 x.w2, .int .i64 x.w3]) (t := 34) (by simp) (k := 14) rfl
 have z14 := M7.out.cell (b := Z) (cs := [.string ⟨#[]⟩, .int .i64 0, .int .i64 0, .int .i64 0, .slice none 0 0, .slice none 0 0, .slice none 0 0, .slice none 0 0, .slice none 0 0, .slice none 0 0, .slice none 0 0, .int .i64 0, .int .i64 0, .int .i64 0, .int .i64 0]) (t := 34) (by simp) (k := 14) rfl
 clear gz
 have M7s := hid (M7.out.sub (l' := [(Z, [.string ⟨#[]⟩, .int .i64 0, .int .i64 0, .int .i64 0, .slice none 0 0, .slice none 0 0, .slice none 0 0, .slice none 0 0, .slice none 0 0, .slice none 0 0, .slice none 0 0, .int .i64 0, .int .i64 0, .int .i64 0, .int .i64 0], 34), (G, [txt x.n, .int .i64 x.g.w, .int .i64 x.g.d, .int .i64 x.g.s, .slice A0 n0 d0, .slice A1 n1 d1, .slice A2 n2 d2, .slice A3 n3 d3, .slice A4 n4 d4, .slice A5 n5 d5, .slice A6 n6 d6, .int .i64 x.w0, .int .i64 x.w1, .int .i64 x.w2, .int .i64 x.w3], 34)]) (by simp))
 have HGZ := hid (show ∀ p ∈ ([(G, [txt x.n, .int .i64 x.g.w, .int .i64 x.g.d, .int .i64 x.g.s, .slice A0 n0 d0, .slice A1 n1 d1, .slice A2 n2 d2, .slice A3 n3 d3, .slice A4 n4 d4, .slice A5 n5 d5, .slice A6 n6 d6, .int .i64 x.w0, .int .i64 x.w1, .int .i64 x.w2, .int .i64 x.w3], 34)] : Obs), p.1 ≠ Z from by simp; exact HGw.out.2.2)
 obtain ⟨R, hR⟩ : ∃ R, (((((((((((((((X6.setCell ⟨Z, 0, none⟩ (txt x.n)).setCell ⟨Z, 1, none⟩ (.int .i64 x.g.w)).setCell ⟨Z, 2, none⟩ (.int .i64 x.g.d)).setCell ⟨Z, 3, none⟩ (.int .i64 x.g.s)).setCell ⟨Z, 4, none⟩ (.slice A0 n0 d0)).setCell ⟨Z, 5, none⟩ (.slice A1 n1 d1)).setCell ⟨Z, 6, none⟩ (.slice A2 n2 d2)).setCell ⟨Z, 7, none⟩ (.slice A3 n3 d3)).setCell ⟨Z, 8, none⟩ (.slice A4 n4 d4)).setCell ⟨Z, 9, none⟩ (.slice A5 n5 d5)).setCell ⟨Z, 10, none⟩ (.slice A6 n6 d6)).setCell ⟨Z, 11, none⟩ (.int .i64 x.w0)).setCell ⟨Z, 12, none⟩ (.int .i64 x.w1)).setCell ⟨Z, 13, none⟩ (.int .i64 x.w2)).setCell ⟨Z, 14, none⟩ (.int .i64 x.w3)) = R := ⟨_, rfl⟩
 have M8 := hid (show Mem w R [(Z, [txt x.n, .int .i64 x.g.w, .int .i64 x.g.d, .int .i64 x.g.s, .slice A0 n0 d0, .slice A1 n1 d1, .slice A2 n2 d2, .slice A3 n3 d3, .slice A4 n4 d4, .slice A5 n5 d5, .slice A6 n6 d6, .int .i64 x.w0, .int .i64 x.w1, .int .i64 x.w2, .int .i64 x.w3], 34), (G, [txt x.n, .int .i64 x.g.w, .int .i64 x.g.d, .int .i64 x.g.s, .slice A0 n0 d0, .slice A1 n1 d1, .slice A2 n2 d2, .slice A3 n3 d3, .slice A4 n4 d4, .slice A5 n5 d5, .slice A6 n6 d6, .int .i64 x.w0, .int .i64 x.w1, .int .i64 x.w2, .int .i64 x.w3], 34)] from hR ▸ (((((((((((((((M7s.out.set HGw.out.2.1 HGZ.out 0 (txt x.n)).set HGw.out.2.1 HGZ.out 1 (.int .i64 x.g.w)).set HGw.out.2.1 HGZ.out 2 (.int .i64 x.g.d)).set HGw.out.2.1 HGZ.out 3 (.int .i64 x.g.s)).set HGw.out.2.1 HGZ.out 4 (.slice A0 n0 d0)).set HGw.out.2.1 HGZ.out 5 (.slice A1 n1 d1)).set HGw.out.2.1 HGZ.out 6 (.slice A2 n2 d2)).set HGw.out.2.1 HGZ.out 7 (.slice A3 n3 d3)).set HGw.out.2.1 HGZ.out 8 (.slice A4 n4 d4)).set HGw.out.2.1 HGZ.out 9 (.slice A5 n5 d5)).set HGw.out.2.1 HGZ.out 10 (.slice A6 n6 d6)).set HGw.out.2.1 HGZ.out 11 (.int .i64 x.w0)).set HGw.out.2.1 HGZ.out 12 (.int .i64 x.w1)).set HGw.out.2.1 HGZ.out 13 (.int .i64 x.w2)).set HGw.out.2.1 HGZ.out 14 (.int .i64 x.w3)))
 have UR := hid (show Abv B X6 R from hR ▸ (((((((((((((((Abv.set _ _ _ HBd.out.2.1).trans (Abv.set _ _ _ HBd.out.2.1)).trans (Abv.set _ _ _ HBd.out.2.1)).trans (Abv.set _ _ _ HBd.out.2.1)).trans (Abv.set _ _ _ HBd.out.2.1)).trans (Abv.set _ _ _ HBd.out.2.1)).trans (Abv.set _ _ _ HBd.out.2.1)).trans (Abv.set _ _ _ HBd.out.2.1)).trans (Abv.set _ _ _ HBd.out.2.1)).trans (Abv.set _ _ _ HBd.out.2.1)).trans (Abv.set _ _ _ HBd.out.2.1)).trans (Abv.set _ _ _ HBd.out.2.1)).trans (Abv.set _ _ _ HBd.out.2.1)).trans (Abv.set _ _ _ HBd.out.2.1)).trans (Abv.set _ _ _ HBd.out.2.1)))
 have E0 := hid (S0.low _ _ _ _ _ _ (S0.keep _ _ _ _ _ _ V0.out ((((((U1.out.trans U2.out).trans U3.out).trans U4.out).trans U5.out).trans U6.out).trans UR.out)) HBd.out.2.2)
 have E1 := hid (S1.low _ _ _ _ _ _ (S1.keep _ _ _ _ _ _ V1.out (((((U2.out.trans U3.out).trans U4.out).trans U5.out).trans U6.out).trans UR.out)) HBd.out.2.2)
 have E2 := hid (S2.low _ _ _ _ _ _ (S2.keep _ _ _ _ _ _ V2.out ((((U3.out.trans U4.out).trans U5.out).trans U6.out).trans UR.out)) HBd.out.2.2)
 have E3 := hid (S3.low _ _ _ _ _ _ (S3.keep _ _ _ _ _ _ V3.out (((U4.out.trans U5.out).trans U6.out).trans UR.out)) HBd.out.2.2)
 have E4 := hid (S4.low _ _ _ _ _ _ (S4.keep _ _ _ _ _ _ V4.out ((U5.out.trans U6.out).trans UR.out)) HBd.out.2.2)
 have E5 := hid (S5.low _ _ _ _ _ _ (S5.keep _ _ _ _ _ _ V5.out (U6.out.trans UR.out)) HBd.out.2.2)
 have E6 := hid (S6.low _ _ _ _ _ _ (S6.keep _ _ _ _ _ _ V6.out UR.out) HBd.out.2.2)
 have r0 := M8.out.cell (b := Z) (cs := [txt x.n, .int .i64 x.g.w, .int .i64 x.g.d, .int .i64 x.g.s, .slice A0 n0 d0, .slice A1 n1 d1, .slice A2 n2 d2, .slice A3 n3 d3, .slice A4 n4 d4, .slice A5 n5 d5, .slice A6 n6 d6, .int .i64 x.w0, .int .i64 x.w1, .int .i64 x.w2, .int .i64 x.w3]) (t := 34) (by simp) (k := 0) rfl
 have r1 := M8.out.cell (b := Z) (cs := [txt x.n, .int .i64 x.g.w, .int .i64 x.g.d, .int .i64 x.g.s, .slice A0 n0 d0, .slice A1 n1 d1, .slice A2 n2 d2, .slice A3 n3 d3, .slice A4 n4 d4, .slice A5 n5 d5, .slice A6 n6 d6, .int .i64 x.w0, .int .i64 x.w1, .int .i64 x.w2, .int .i64 x.w3]) (t := 34) (by simp) (k := 1) rfl
 have r2 := M8.out.cell (b := Z) (cs := [txt x.n, .int .i64 x.g.w, .int .i64 x.g.d, .int .i64 x.g.s, .slice A0 n0 d0, .slice A1 n1 d1, .slice A2 n2 d2, .slice A3 n3 d3, .slice A4 n4 d4, .slice A5 n5 d5, .slice A6 n6 d6, .int .i64 x.w0, .int .i64 x.w1, .int .i64 x.w2, .int .i64 x.w3]) (t := 34) (by simp) (k := 2) rfl
 have r3 := M8.out.cell (b := Z) (cs := [txt x.n, .int .i64 x.g.w, .int .i64 x.g.d, .int .i64 x.g.s, .slice A0 n0 d0, .slice A1 n1 d1, .slice A2 n2 d2, .slice A3 n3 d3, .slice A4 n4 d4, .slice A5 n5 d5, .slice A6 n6 d6, .int .i64 x.w0, .int .i64 x.w1, .int .i64 x.w2, .int .i64 x.w3]) (t := 34) (by simp) (k := 3) rfl
 have r4 := M8.out.cell (b := Z) (cs := [txt x.n, .int .i64 x.g.w, .int .i64 x.g.d, .int .i64 x.g.s, .slice A0 n0 d0, .slice A1 n1 d1, .slice A2 n2 d2, .slice A3 n3 d3, .slice A4 n4 d4, .slice A5 n5 d5, .slice A6 n6 d6, .int .i64 x.w0, .int .i64 x.w1, .int .i64 x.w2, .int .i64 x.w3]) (t := 34) (by simp) (k := 4) rfl
 have r5 := M8.out.cell (b := Z) (cs := [txt x.n, .int .i64 x.g.w, .int .i64 x.g.d, .int .i64 x.g.s, .slice A0 n0 d0, .slice A1 n1 d1, .slice A2 n2 d2, .slice A3 n3 d3, .slice A4 n4 d4, .slice A5 n5 d5, .slice A6 n6 d6, .int .i64 x.w0, .int .i64 x.w1, .int .i64 x.w2, .int .i64 x.w3]) (t := 34) (by simp) (k := 5) rfl
 have r6 := M8.out.cell (b := Z) (cs := [txt x.n, .int .i64 x.g.w, .int .i64 x.g.d, .int .i64 x.g.s, .slice A0 n0 d0, .slice A1 n1 d1, .slice A2 n2 d2, .slice A3 n3 d3, .slice A4 n4 d4, .slice A5 n5 d5, .slice A6 n6 d6, .int .i64 x.w0, .int .i64 x.w1, .int .i64 x.w2, .int .i64 x.w3]) (t := 34) (by simp) (k := 6) rfl
 have r7 := M8.out.cell (b := Z) (cs := [txt x.n, .int .i64 x.g.w, .int .i64 x.g.d, .int .i64 x.g.s, .slice A0 n0 d0, .slice A1 n1 d1, .slice A2 n2 d2, .slice A3 n3 d3, .slice A4 n4 d4, .slice A5 n5 d5, .slice A6 n6 d6, .int .i64 x.w0, .int .i64 x.w1, .int .i64 x.w2, .int .i64 x.w3]) (t := 34) (by simp) (k := 7) rfl
 have r8 := M8.out.cell (b := Z) (cs := [txt x.n, .int .i64 x.g.w, .int .i64 x.g.d, .int .i64 x.g.s, .slice A0 n0 d0, .slice A1 n1 d1, .slice A2 n2 d2, .slice A3 n3 d3, .slice A4 n4 d4, .slice A5 n5 d5, .slice A6 n6 d6, .int .i64 x.w0, .int .i64 x.w1, .int .i64 x.w2, .int .i64 x.w3]) (t := 34) (by simp) (k := 8) rfl
 have r9 := M8.out.cell (b := Z) (cs := [txt x.n, .int .i64 x.g.w, .int .i64 x.g.d, .int .i64 x.g.s, .slice A0 n0 d0, .slice A1 n1 d1, .slice A2 n2 d2, .slice A3 n3 d3, .slice A4 n4 d4, .slice A5 n5 d5, .slice A6 n6 d6, .int .i64 x.w0, .int .i64 x.w1, .int .i64 x.w2, .int .i64 x.w3]) (t := 34) (by simp) (k := 9) rfl
 have r10 := M8.out.cell (b := Z) (cs := [txt x.n, .int .i64 x.g.w, .int .i64 x.g.d, .int .i64 x.g.s, .slice A0 n0 d0, .slice A1 n1 d1, .slice A2 n2 d2, .slice A3 n3 d3, .slice A4 n4 d4, .slice A5 n5 d5, .slice A6 n6 d6, .int .i64 x.w0, .int .i64 x.w1, .int .i64 x.w2, .int .i64 x.w3]) (t := 34) (by simp) (k := 10) rfl
 have r11 := M8.out.cell (b := Z) (cs := [txt x.n, .int .i64 x.g.w, .int .i64 x.g.d, .int .i64 x.g.s, .slice A0 n0 d0, .slice A1 n1 d1, .slice A2 n2 d2, .slice A3 n3 d3, .slice A4 n4 d4, .slice A5 n5 d5, .slice A6 n6 d6, .int .i64 x.w0, .int .i64 x.w1, .int .i64 x.w2, .int .i64 x.w3]) (t := 34) (by simp) (k := 11) rfl
 have r12 := M8.out.cell (b := Z) (cs := [txt x.n, .int .i64 x.g.w, .int .i64 x.g.d, .int .i64 x.g.s, .slice A0 n0 d0, .slice A1 n1 d1, .slice A2 n2 d2, .slice A3 n3 d3, .slice A4 n4 d4, .slice A5 n5 d5, .slice A6 n6 d6, .int .i64 x.w0, .int .i64 x.w1, .int .i64 x.w2, .int .i64 x.w3]) (t := 34) (by simp) (k := 12) rfl
 have r13 := M8.out.cell (b := Z) (cs := [txt x.n, .int .i64 x.g.w, .int .i64 x.g.d, .int .i64 x.g.s, .slice A0 n0 d0, .slice A1 n1 d1, .slice A2 n2 d2, .slice A3 n3 d3, .slice A4 n4 d4, .slice A5 n5 d5, .slice A6 n6 d6, .int .i64 x.w0, .int .i64 x.w1, .int .i64 x.w2, .int .i64 x.w3]) (t := 34) (by simp) (k := 13) rfl
 have r14 := M8.out.cell (b := Z) (cs := [txt x.n, .int .i64 x.g.w, .int .i64 x.g.d, .int .i64 x.g.s, .slice A0 n0 d0, .slice A1 n1 d1, .slice A2 n2 d2, .slice A3 n3 d3, .slice A4 n4 d4, .slice A5 n5 d5, .slice A6 n6 d6, .int .i64 x.w0, .int .i64 x.w1, .int .i64 x.w2, .int .i64 x.w3]) (t := 34) (by simp) (k := 14) rfl
 clear M7 M7s UR
 go_wp2_with fail
 exact bodyPost_ret (v := cpv x A0 n0 d0 A1 n1 d1 A2 n2 d2 A3 n3 d3 A4 n4 d4 A5 n5 d5 A6 n6 d6) (by simp [results, Tryz.results18, go_sem, r0, r1, r2, r3, r4, r5, r6, r7, r8, r9, r10, r11, r12, r13, r14]) rfl ⟨A0, n0, d0, A1, n1, d1, A2, n2, d2, A3, n3, d3, A4, n4, d4, A5, n5, d5, A6, n6, d6, rfl, E0.out, E1.out, E2.out, E3.out, E4.out, E5.out, E6.out, M8.out.2⟩
end Go.Proofs.YtgmgccepmalahaaGreat

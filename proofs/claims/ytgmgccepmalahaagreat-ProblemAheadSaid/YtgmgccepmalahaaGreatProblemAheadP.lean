/- Proves 'ProblemAheadSaid': for every input the Go function ProblemAhead returns true, and each argument reads afterwards as it read before. Conditions: none beyond the row's own. -/
import Derived.Test.YtgmgccepmalahaaGreatRows
import Derived.WalkKit
import Derived.ProofKit
import Derived.OpenShut
import Derived.ShutString
import Derived.SliceStrings
import Derived.ChangeOld
import Derived.Below
import Derived.Test.YtgmgccepmalahaaGreatPrmT
namespace Go.Proofs.YtgmgccepmalahaaGreat.problemAhead
open Go.ChangeShapes Go.WideShapes Go.ChangeAt Go.RowKit
open Go.ChangeMaps (open_string shut_string)
set_option linter.unusedVariables false

theorem own : ownKnob Tryz.prog.godebug = none := by kernel_rfl
theorem laidOut : laidOutB Tryz.prog = true := by kernel_rfl

/-- WHAT THE WALK IS TOLD OF A SLICE OF INTEGERS THAT CAME IN: it is nil; or it leads to a row of 'cap' cells, the numbers 'zs' (the first 'len' are its elements, the rest its spare room), each fitting its kind. -/
def IsRow (k : IntKind) (w : World) (a : Option Addr) (len cap : Nat) (zs : List Int) : Prop :=
  (a = none ∧ len = 0 ∧ cap = 0 ∧ zs = []) ∨
  ∃ x, a = some x ∧ len ≤ cap ∧ cap ≤ maxLen ∧ zs.length = cap ∧ (∀ i, i < zs.length → w.cell? (x.add i) = some (.int k (zs.getD i 0))) ∧ ∀ n ∈ zs, (Lit.int k n).wf = true

/-! ### STEP 1: THE WALK: the Go text returns true, AND WRITES NOTHING THAT WAS THERE: 'Below w.heap.size w w'' (Derived/Below.lean: '.refl', '.alloc', '.drew', '.setCell' at a new block, '.trans'). Open each 'IsRow' by 'rcases' AHEAD of 'go_enter'; part every test ahead of the walk. -/
set_option maxRecDepth 20000 in
set_option maxHeartbeats 32000000 in
theorem walk (a0 : PbA) (w : World) (w0 : PbIn w a0) :
    Calls Tryz.prog 9 #[pbv a0] w fun e w' => e = .returned (.bool true) ∧ Below w.heap.size w w' := by
  revert w0; generalize a0 = x; intro h0
  show Calls Tryz.prog 9 #[pbv x] w (Did (.bool true) w)
  have HH := hid (fun X => heads17 X)
  have HF := hid (fun X (hb : Below w.heap.size w X) => r17_Few2 x X (h0.next hb))
  have HP := hid (fun hf X (hb : Below w.heap.size w X) => p_Check17 x X (h0.next hb) hf)
  have HI := hid h0
  obtain ⟨G, W, hG, hW, K, hb0⟩ := (Mem.nil w).one (pbc x) 34
  have Hcell := hid (fun X (h : Mem w X [(G, pbc x, 34)]) => h.pb (B := G) (x := x) (t := 34) (by simp))
  obtain ⟨p0, p1, p2, p3, p4, p5, p6, p7, p8, p9, p10, p11, p12, p13, p14⟩ := Hcell.out _ K.out
  clear h0 hb0
  go_enter Tryz.func9, Tryz.ntmps9
  go_wp2_with fail
  refine (HF.out _ K.out.2).mono ?_
  rintro e Y0 ⟨fb, rfl, hfb, bz⟩
  have K0 := hid (K.out.next bz)
  clear p0 p1 p2 p3 p4 p5 p6 p7 p8 p9 p10 p11 p12 p13 p14
  clear bz K hW HF
  cases fb with
  | false =>
    clear hfb
    go_wp2_with fail
    refine (HH.out _).mono ?_
    rintro e Y1 ⟨rfl, bz⟩
    have K1 := hid (K0.out.next bz)
    go_wp2_with fail
    go_ret
    exact Did.mk rfl K1.out.2
  | true =>
    have hf := (hfb rfl).1
    clear hfb
    have HP1 := hid (HP.out hf)
    have HF9 := hid hf
    clear HP
    obtain ⟨p0, p1, p2, p3, p4, p5, p6, p7, p8, p9, p10, p11, p12, p13, p14⟩ := Hcell.out _ K0.out
    have hl0 : x.p.rm.length = x.rm.length := List.length_map ..
    have hl2 : x.p.ps.length = x.ps.length := List.length_map ..
    have hl3 : x.p.cl.length = x.cl.length := List.length_map ..
    have hl4 : x.p.cs.length = x.cs.length := List.length_map ..
    have hl5 : x.p.st.length = x.st.length := List.length_map ..
    have hl6 : x.p.rl.length = x.rl.length := List.length_map ..
    have hac := ahead_cases x.p
    rw [hl0, hl2, hl3, hl4, hl5, hl6] at hac
    clear hf hl0 hl2 hl3 hl4 hl5 hl6
    rcases hac with ((hc | hc) | hc) | ⟨k, hk, hc, hc2⟩ | ⟨k, hk, hc, hc2⟩ | ⟨k, hk, hc, hc2⟩ | ⟨k, hk, hc, hc2⟩ | ⟨k, hk, hc, hc2⟩ | ⟨k, hk, hc, hc2⟩ | ⟨hc, hc2⟩
    · as_aux_lemma =>
        rw [hc] at HP1
        clear hc HF9 HI
        go_wp2_with fail
        refine (HP1.out _ K0.out.2).mono ?_
        rintro e Y1 ⟨rfl, bz⟩
        have K1 := hid (K0.out.next bz)
        clear p0 p1 p2 p3 p4 p5 p6 p7 p8 p9 p10 p11 p12 p13 p14
        clear bz K0 HP1
        go_wp2_with fail
        refine (HH.out _).mono ?_
        rintro e Y4 ⟨rfl, bz⟩
        have K4 := hid (K1.out.next bz)
        go_wp2_with fail
        go_ret
        exact Did.mk rfl K4.out.2
    · as_aux_lemma =>
        rw [hc] at HP1
        clear hc HF9 HI
        go_wp2_with fail
        refine (HP1.out _ K0.out.2).mono ?_
        rintro e Y1 ⟨rfl, bz⟩
        have K1 := hid (K0.out.next bz)
        clear p0 p1 p2 p3 p4 p5 p6 p7 p8 p9 p10 p11 p12 p13 p14
        clear bz K0 HP1
        go_wp2_with fail
        refine (HH.out _).mono ?_
        rintro e Y4 ⟨rfl, bz⟩
        have K4 := hid (K1.out.next bz)
        go_wp2_with fail
        go_ret
        exact Did.mk rfl K4.out.2
    · as_aux_lemma =>
        rw [hc] at HP1
        clear hc HF9 HI
        go_wp2_with fail
        refine (HP1.out _ K0.out.2).mono ?_
        rintro e Y1 ⟨rfl, bz⟩
        have K1 := hid (K0.out.next bz)
        clear p0 p1 p2 p3 p4 p5 p6 p7 p8 p9 p10 p11 p12 p13 p14
        clear bz K0 HP1
        go_wp2_with fail
        refine (HH.out _).mono ?_
        rintro e Y4 ⟨rfl, bz⟩
        have K4 := hid (K1.out.next bz)
        go_wp2_with fail
        go_ret
        exact Did.mk rfl K4.out.2
    · as_aux_lemma =>
        rw [hc] at HP1
        have HA1 := hid (fun X (hb : Below w.heap.size w X) => p_ahead11 x k (by omega) X (HI.out.next hb) HF9.out)
        have HC2 := hid (fun (q : PbA) X (h : PbIn X q) hf (hq : q.p = c11 x.p k) => show Calls Tryz.prog 12 #[pbv q] X (Did (.tuple #[.int .i64 0, .int .i64 0]) X) from by
          have hh := p_Check17 q X h hf
          rw [hq, hc2] at hh
          exact hh)
        clear hc hc2 HI
        have k0 : ¬ (k : Int) < 0 := by omega
        have hn : ¬ (x.rm.length : Int) < (k : Int) := by omega
        go_wp2_with fail
        refine (HP1.out _ K0.out.2).mono ?_
        rintro e Y1 ⟨rfl, bz⟩
        have K1 := hid (K0.out.next bz)
        clear p0 p1 p2 p3 p4 p5 p6 p7 p8 p9 p10 p11 p12 p13 p14
        clear bz K0 HP1
        obtain ⟨p0, p1, p2, p3, p4, p5, p6, p7, p8, p9, p10, p11, p12, p13, p14⟩ := Hcell.out _ K1.out
        obtain ⟨mx, hmx, m1, m2, m3, m4, m5, m6⟩ := run_max6 (P := Tryz.prog) #[3, 3, 3, 3, 3, 3] 3 (x.rm.length : Nat) (x.ps.length : Nat) (x.cl.length : Nat) (x.cs.length : Nat) (x.st.length : Nat) (x.rl.length : Nat) Y1
        have hm : ¬ mx < (k : Int) := by omega
        clear m1 m2 m3 m4 m5 m6
        go_wp2_with fail
        refine (HA1.out _ K1.out.2).mono ?_
        rintro e Y2 ⟨q, rfl, hq, hqp, hqf, bz⟩
        have K2 := hid (K1.out.next bz)
        clear p0 p1 p2 p3 p4 p5 p6 p7 p8 p9 p10 p11 p12 p13 p14
        clear bz K1 HA1
        obtain ⟨D, V, hD, hV, KD, hbD⟩ := K2.out.one (pbc q) 34
        have HQ := hid (hq.next hbD)
        have HQP := hid (And.intro hqp hqf)
        subst hV
        obtain ⟨d0, d1, d2, d3, d4, d5, d6, d7, d8, d9, d10, d11, d12, d13, d14⟩ := KD.out.pb (B := D) (x := q) (t := 34) (by simp)
        clear hq hqp hqf hbD K2
        go_wp2_with fail
        refine (HC2.out q _ HQ.out HQP.out.2 HQP.out.1).mono ?_
        rintro e Y3 ⟨rfl, bz⟩
        have K3 := hid (KD.out.next bz)
        clear bz KD HC2 HQ HQP d0 d1 d2 d3 d4 d5 d6 d7 d8 d9 d10 d11 d12 d13 d14
        go_wp2_with fail
        refine (HH.out _).mono ?_
        rintro e Y4 ⟨rfl, bz⟩
        have K4 := hid (K3.out.next bz)
        go_wp2_with fail
        go_ret
        exact Did.mk rfl K4.out.2
    · as_aux_lemma =>
        rw [hc] at HP1
        have HA1 := hid (fun X (hb : Below w.heap.size w X) => p_ahead12 x k (by omega) X (HI.out.next hb) HF9.out)
        have HC2 := hid (fun (q : PbA) X (h : PbIn X q) hf (hq : q.p = c12 x.p k) => show Calls Tryz.prog 12 #[pbv q] X (Did (.tuple #[.int .i64 0, .int .i64 0]) X) from by
          have hh := p_Check17 q X h hf
          rw [hq, hc2] at hh
          exact hh)
        clear hc hc2 HI
        have k0 : ¬ (k : Int) < 0 := by omega
        have q0 : IntKind.i64.wrap ((x.ps.length : Int) - 1) = (x.ps.length : Int) - 1 := by rw [IntKind.wrap_i64]; have := HF9.out; unfold PbFew at this; omega
        have hn : ¬ (x.ps.length : Int) - 1 < (k : Int) := by omega
        go_wp2_with fail
        refine (HP1.out _ K0.out.2).mono ?_
        rintro e Y1 ⟨rfl, bz⟩
        have K1 := hid (K0.out.next bz)
        clear p0 p1 p2 p3 p4 p5 p6 p7 p8 p9 p10 p11 p12 p13 p14
        clear bz K0 HP1
        obtain ⟨p0, p1, p2, p3, p4, p5, p6, p7, p8, p9, p10, p11, p12, p13, p14⟩ := Hcell.out _ K1.out
        obtain ⟨mx, hmx, m1, m2, m3, m4, m5, m6⟩ := run_max6 (P := Tryz.prog) #[3, 3, 3, 3, 3, 3] 3 (x.rm.length : Nat) (x.ps.length : Nat) (x.cl.length : Nat) (x.cs.length : Nat) (x.st.length : Nat) (x.rl.length : Nat) Y1
        have hm : ¬ mx < (k : Int) := by omega
        clear m1 m2 m3 m4 m5 m6
        go_wp2_with fail
        refine (HA1.out _ K1.out.2).mono ?_
        rintro e Y2 ⟨q, rfl, hq, hqp, hqf, bz⟩
        have K2 := hid (K1.out.next bz)
        clear p0 p1 p2 p3 p4 p5 p6 p7 p8 p9 p10 p11 p12 p13 p14
        clear bz K1 HA1
        obtain ⟨D, V, hD, hV, KD, hbD⟩ := K2.out.one (pbc q) 34
        have HQ := hid (hq.next hbD)
        have HQP := hid (And.intro hqp hqf)
        subst hV
        obtain ⟨d0, d1, d2, d3, d4, d5, d6, d7, d8, d9, d10, d11, d12, d13, d14⟩ := KD.out.pb (B := D) (x := q) (t := 34) (by simp)
        clear hq hqp hqf hbD K2
        go_wp2_with fail
        refine (HC2.out q _ HQ.out HQP.out.2 HQP.out.1).mono ?_
        rintro e Y3 ⟨rfl, bz⟩
        have K3 := hid (KD.out.next bz)
        clear bz KD HC2 HQ HQP d0 d1 d2 d3 d4 d5 d6 d7 d8 d9 d10 d11 d12 d13 d14
        go_wp2_with fail
        refine (HH.out _).mono ?_
        rintro e Y4 ⟨rfl, bz⟩
        have K4 := hid (K3.out.next bz)
        go_wp2_with fail
        go_ret
        exact Did.mk rfl K4.out.2
    · as_aux_lemma =>
        rw [hc] at HP1
        have HA1 := hid (fun X (hb : Below w.heap.size w X) => p_ahead13 x (k : Int) X (HI.out.next hb) HF9.out)
        have HC2 := hid (fun (q : PbA) X (h : PbIn X q) hf (hq : q.p = c13 x.p) => show Calls Tryz.prog 12 #[pbv q] X (Did (.tuple #[.int .i64 0, .int .i64 0]) X) from by
          have hh := p_Check17 q X h hf
          rw [hq, hc2] at hh
          exact hh)
        clear hc hc2 HI
        have k0 : ¬ (k : Int) < 0 := by omega
        have q0 : IntKind.i64.wrap ((x.cl.length : Int) - 1) = (x.cl.length : Int) - 1 := by rw [IntKind.wrap_i64]; have := HF9.out; unfold PbFew at this; omega
        have hn : ¬ (x.cl.length : Int) - 1 < (k : Int) := by omega
        go_wp2_with fail
        refine (HP1.out _ K0.out.2).mono ?_
        rintro e Y1 ⟨rfl, bz⟩
        have K1 := hid (K0.out.next bz)
        clear p0 p1 p2 p3 p4 p5 p6 p7 p8 p9 p10 p11 p12 p13 p14
        clear bz K0 HP1
        obtain ⟨p0, p1, p2, p3, p4, p5, p6, p7, p8, p9, p10, p11, p12, p13, p14⟩ := Hcell.out _ K1.out
        obtain ⟨mx, hmx, m1, m2, m3, m4, m5, m6⟩ := run_max6 (P := Tryz.prog) #[3, 3, 3, 3, 3, 3] 3 (x.rm.length : Nat) (x.ps.length : Nat) (x.cl.length : Nat) (x.cs.length : Nat) (x.st.length : Nat) (x.rl.length : Nat) Y1
        have hm : ¬ mx < (k : Int) := by omega
        clear m1 m2 m3 m4 m5 m6
        go_wp2_with fail
        refine (HA1.out _ K1.out.2).mono ?_
        rintro e Y2 ⟨q, rfl, hq, hqp, hqf, bz⟩
        have K2 := hid (K1.out.next bz)
        clear p0 p1 p2 p3 p4 p5 p6 p7 p8 p9 p10 p11 p12 p13 p14
        clear bz K1 HA1
        obtain ⟨D, V, hD, hV, KD, hbD⟩ := K2.out.one (pbc q) 34
        have HQ := hid (hq.next hbD)
        have HQP := hid (And.intro hqp hqf)
        subst hV
        obtain ⟨d0, d1, d2, d3, d4, d5, d6, d7, d8, d9, d10, d11, d12, d13, d14⟩ := KD.out.pb (B := D) (x := q) (t := 34) (by simp)
        clear hq hqp hqf hbD K2
        go_wp2_with fail
        refine (HC2.out q _ HQ.out HQP.out.2 HQP.out.1).mono ?_
        rintro e Y3 ⟨rfl, bz⟩
        have K3 := hid (KD.out.next bz)
        clear bz KD HC2 HQ HQP d0 d1 d2 d3 d4 d5 d6 d7 d8 d9 d10 d11 d12 d13 d14
        go_wp2_with fail
        refine (HH.out _).mono ?_
        rintro e Y4 ⟨rfl, bz⟩
        have K4 := hid (K3.out.next bz)
        go_wp2_with fail
        go_ret
        exact Did.mk rfl K4.out.2
    · as_aux_lemma =>
        rw [hc] at HP1
        have HA1 := hid (fun X (hb : Below w.heap.size w X) => p_ahead14 x k (by omega) X (HI.out.next hb) HF9.out)
        have HC2 := hid (fun (q : PbA) X (h : PbIn X q) hf (hq : q.p = c14 x.p k) => show Calls Tryz.prog 12 #[pbv q] X (Did (.tuple #[.int .i64 0, .int .i64 0]) X) from by
          have hh := p_Check17 q X h hf
          rw [hq, hc2] at hh
          exact hh)
        clear hc hc2 HI
        have k0 : ¬ (k : Int) < 0 := by omega
        have q0 : IntKind.i64.wrap ((x.cs.length : Int) - 1) = (x.cs.length : Int) - 1 := by rw [IntKind.wrap_i64]; have := HF9.out; unfold PbFew at this; omega
        have hn : ¬ (x.cs.length : Int) - 1 < (k : Int) := by omega
        go_wp2_with fail
        refine (HP1.out _ K0.out.2).mono ?_
        rintro e Y1 ⟨rfl, bz⟩
        have K1 := hid (K0.out.next bz)
        clear p0 p1 p2 p3 p4 p5 p6 p7 p8 p9 p10 p11 p12 p13 p14
        clear bz K0 HP1
        obtain ⟨p0, p1, p2, p3, p4, p5, p6, p7, p8, p9, p10, p11, p12, p13, p14⟩ := Hcell.out _ K1.out
        obtain ⟨mx, hmx, m1, m2, m3, m4, m5, m6⟩ := run_max6 (P := Tryz.prog) #[3, 3, 3, 3, 3, 3] 3 (x.rm.length : Nat) (x.ps.length : Nat) (x.cl.length : Nat) (x.cs.length : Nat) (x.st.length : Nat) (x.rl.length : Nat) Y1
        have hm : ¬ mx < (k : Int) := by omega
        clear m1 m2 m3 m4 m5 m6
        go_wp2_with fail
        refine (HA1.out _ K1.out.2).mono ?_
        rintro e Y2 ⟨q, rfl, hq, hqp, hqf, bz⟩
        have K2 := hid (K1.out.next bz)
        clear p0 p1 p2 p3 p4 p5 p6 p7 p8 p9 p10 p11 p12 p13 p14
        clear bz K1 HA1
        obtain ⟨D, V, hD, hV, KD, hbD⟩ := K2.out.one (pbc q) 34
        have HQ := hid (hq.next hbD)
        have HQP := hid (And.intro hqp hqf)
        subst hV
        obtain ⟨d0, d1, d2, d3, d4, d5, d6, d7, d8, d9, d10, d11, d12, d13, d14⟩ := KD.out.pb (B := D) (x := q) (t := 34) (by simp)
        clear hq hqp hqf hbD K2
        go_wp2_with fail
        refine (HC2.out q _ HQ.out HQP.out.2 HQP.out.1).mono ?_
        rintro e Y3 ⟨rfl, bz⟩
        have K3 := hid (KD.out.next bz)
        clear bz KD HC2 HQ HQP d0 d1 d2 d3 d4 d5 d6 d7 d8 d9 d10 d11 d12 d13 d14
        go_wp2_with fail
        refine (HH.out _).mono ?_
        rintro e Y4 ⟨rfl, bz⟩
        have K4 := hid (K3.out.next bz)
        go_wp2_with fail
        go_ret
        exact Did.mk rfl K4.out.2
    · as_aux_lemma =>
        rw [hc] at HP1
        have HA1 := hid (fun X (hb : Below w.heap.size w X) => p_ahead15 x k (by omega) X (HI.out.next hb) HF9.out)
        have HC2 := hid (fun (q : PbA) X (h : PbIn X q) hf (hq : q.p = c15 x.p k) => show Calls Tryz.prog 12 #[pbv q] X (Did (.tuple #[.int .i64 0, .int .i64 0]) X) from by
          have hh := p_Check17 q X h hf
          rw [hq, hc2] at hh
          exact hh)
        clear hc hc2 HI
        have k0 : ¬ (k : Int) < 0 := by omega
        have q0 : IntKind.i64.wrap ((x.st.length : Int) - 1) = (x.st.length : Int) - 1 := by rw [IntKind.wrap_i64]; have := HF9.out; unfold PbFew at this; omega
        have hn : ¬ (x.st.length : Int) - 1 < (k : Int) := by omega
        go_wp2_with fail
        refine (HP1.out _ K0.out.2).mono ?_
        rintro e Y1 ⟨rfl, bz⟩
        have K1 := hid (K0.out.next bz)
        clear p0 p1 p2 p3 p4 p5 p6 p7 p8 p9 p10 p11 p12 p13 p14
        clear bz K0 HP1
        obtain ⟨p0, p1, p2, p3, p4, p5, p6, p7, p8, p9, p10, p11, p12, p13, p14⟩ := Hcell.out _ K1.out
        obtain ⟨mx, hmx, m1, m2, m3, m4, m5, m6⟩ := run_max6 (P := Tryz.prog) #[3, 3, 3, 3, 3, 3] 3 (x.rm.length : Nat) (x.ps.length : Nat) (x.cl.length : Nat) (x.cs.length : Nat) (x.st.length : Nat) (x.rl.length : Nat) Y1
        have hm : ¬ mx < (k : Int) := by omega
        clear m1 m2 m3 m4 m5 m6
        go_wp2_with fail
        refine (HA1.out _ K1.out.2).mono ?_
        rintro e Y2 ⟨q, rfl, hq, hqp, hqf, bz⟩
        have K2 := hid (K1.out.next bz)
        clear p0 p1 p2 p3 p4 p5 p6 p7 p8 p9 p10 p11 p12 p13 p14
        clear bz K1 HA1
        obtain ⟨D, V, hD, hV, KD, hbD⟩ := K2.out.one (pbc q) 34
        have HQ := hid (hq.next hbD)
        have HQP := hid (And.intro hqp hqf)
        subst hV
        obtain ⟨d0, d1, d2, d3, d4, d5, d6, d7, d8, d9, d10, d11, d12, d13, d14⟩ := KD.out.pb (B := D) (x := q) (t := 34) (by simp)
        clear hq hqp hqf hbD K2
        go_wp2_with fail
        refine (HC2.out q _ HQ.out HQP.out.2 HQP.out.1).mono ?_
        rintro e Y3 ⟨rfl, bz⟩
        have K3 := hid (KD.out.next bz)
        clear bz KD HC2 HQ HQP d0 d1 d2 d3 d4 d5 d6 d7 d8 d9 d10 d11 d12 d13 d14
        go_wp2_with fail
        refine (HH.out _).mono ?_
        rintro e Y4 ⟨rfl, bz⟩
        have K4 := hid (K3.out.next bz)
        go_wp2_with fail
        go_ret
        exact Did.mk rfl K4.out.2
    · as_aux_lemma =>
        rw [hc] at HP1
        have HA1 := hid (fun X (hb : Below w.heap.size w X) => p_ahead16 x k (by omega) X (HI.out.next hb) HF9.out)
        have HC2 := hid (fun (q : PbA) X (h : PbIn X q) hf (hq : q.p = c16 x.p k) => show Calls Tryz.prog 12 #[pbv q] X (Did (.tuple #[.int .i64 0, .int .i64 0]) X) from by
          have hh := p_Check17 q X h hf
          rw [hq, hc2] at hh
          exact hh)
        clear hc hc2 HI
        have k0 : ¬ (k : Int) < 0 := by omega
        have q0 : IntKind.i64.wrap ((x.rl.length : Int) - 1) = (x.rl.length : Int) - 1 := by rw [IntKind.wrap_i64]; have := HF9.out; unfold PbFew at this; omega
        have hn : ¬ (x.rl.length : Int) - 1 < (k : Int) := by omega
        go_wp2_with fail
        refine (HP1.out _ K0.out.2).mono ?_
        rintro e Y1 ⟨rfl, bz⟩
        have K1 := hid (K0.out.next bz)
        clear p0 p1 p2 p3 p4 p5 p6 p7 p8 p9 p10 p11 p12 p13 p14
        clear bz K0 HP1
        obtain ⟨p0, p1, p2, p3, p4, p5, p6, p7, p8, p9, p10, p11, p12, p13, p14⟩ := Hcell.out _ K1.out
        obtain ⟨mx, hmx, m1, m2, m3, m4, m5, m6⟩ := run_max6 (P := Tryz.prog) #[3, 3, 3, 3, 3, 3] 3 (x.rm.length : Nat) (x.ps.length : Nat) (x.cl.length : Nat) (x.cs.length : Nat) (x.st.length : Nat) (x.rl.length : Nat) Y1
        have hm : ¬ mx < (k : Int) := by omega
        clear m1 m2 m3 m4 m5 m6
        go_wp2_with fail
        refine (HA1.out _ K1.out.2).mono ?_
        rintro e Y2 ⟨q, rfl, hq, hqp, hqf, bz⟩
        have K2 := hid (K1.out.next bz)
        clear p0 p1 p2 p3 p4 p5 p6 p7 p8 p9 p10 p11 p12 p13 p14
        clear bz K1 HA1
        obtain ⟨D, V, hD, hV, KD, hbD⟩ := K2.out.one (pbc q) 34
        have HQ := hid (hq.next hbD)
        have HQP := hid (And.intro hqp hqf)
        subst hV
        obtain ⟨d0, d1, d2, d3, d4, d5, d6, d7, d8, d9, d10, d11, d12, d13, d14⟩ := KD.out.pb (B := D) (x := q) (t := 34) (by simp)
        clear hq hqp hqf hbD K2
        go_wp2_with fail
        refine (HC2.out q _ HQ.out HQP.out.2 HQP.out.1).mono ?_
        rintro e Y3 ⟨rfl, bz⟩
        have K3 := hid (KD.out.next bz)
        clear bz KD HC2 HQ HQP d0 d1 d2 d3 d4 d5 d6 d7 d8 d9 d10 d11 d12 d13 d14
        go_wp2_with fail
        refine (HH.out _).mono ?_
        rintro e Y4 ⟨rfl, bz⟩
        have K4 := hid (K3.out.next bz)
        go_wp2_with fail
        go_ret
        exact Did.mk rfl K4.out.2
    · as_aux_lemma =>
        rw [hc] at HP1
        have HA1 := hid (fun X (hb : Below w.heap.size w X) => p_ahead17 x 0 X (HI.out.next hb) HF9.out)
        have HC2 := hid (fun (q : PbA) X (h : PbIn X q) hf (hq : q.p = c17 x.p) => show Calls Tryz.prog 12 #[pbv q] X (Did (.tuple #[.int .i64 0, .int .i64 0]) X) from by
          have hh := p_Check17 q X h hf
          rw [hq, hc2] at hh
          exact hh)
        clear hc hc2 HI
        go_wp2_with fail
        refine (HP1.out _ K0.out.2).mono ?_
        rintro e Y1 ⟨rfl, bz⟩
        have K1 := hid (K0.out.next bz)
        clear p0 p1 p2 p3 p4 p5 p6 p7 p8 p9 p10 p11 p12 p13 p14
        clear bz K0 HP1
        obtain ⟨p0, p1, p2, p3, p4, p5, p6, p7, p8, p9, p10, p11, p12, p13, p14⟩ := Hcell.out _ K1.out
        obtain ⟨mx, hmx, m1, m2, m3, m4, m5, m6⟩ := run_max6 (P := Tryz.prog) #[3, 3, 3, 3, 3, 3] 3 (x.rm.length : Nat) (x.ps.length : Nat) (x.cl.length : Nat) (x.cs.length : Nat) (x.st.length : Nat) (x.rl.length : Nat) Y1
        have hm : ¬ mx < 0 := by omega
        clear m1 m2 m3 m4 m5 m6
        go_wp2_with fail
        refine (HA1.out _ K1.out.2).mono ?_
        rintro e Y2 ⟨q, rfl, hq, hqp, hqf, bz⟩
        have K2 := hid (K1.out.next bz)
        clear p0 p1 p2 p3 p4 p5 p6 p7 p8 p9 p10 p11 p12 p13 p14
        clear bz K1 HA1
        obtain ⟨D, V, hD, hV, KD, hbD⟩ := K2.out.one (pbc q) 34
        have HQ := hid (hq.next hbD)
        have HQP := hid (And.intro hqp hqf)
        subst hV
        obtain ⟨d0, d1, d2, d3, d4, d5, d6, d7, d8, d9, d10, d11, d12, d13, d14⟩ := KD.out.pb (B := D) (x := q) (t := 34) (by simp)
        clear hq hqp hqf hbD K2
        go_wp2_with fail
        refine (HC2.out q _ HQ.out HQP.out.2 HQP.out.1).mono ?_
        rintro e Y3 ⟨rfl, bz⟩
        have K3 := hid (KD.out.next bz)
        clear bz KD HC2 HQ HQP d0 d1 d2 d3 d4 d5 d6 d7 d8 d9 d10 d11 d12 d13 d14
        go_wp2_with fail
        refine (HH.out _).mono ?_
        rintro e Y4 ⟨rfl, bz⟩
        have K4 := hid (K3.out.next bz)
        go_wp2_with fail
        go_ret
        exact Did.mk rfl K4.out.2

/-! ### THE ROW's STEP: WRITTEN OUT: LEAVE IT -/
set_option maxRecDepth 100000 in
theorem lifted (os : Os) (started : os.Started) (H : Type) (enc : TypeId × Value → H) :
    ReturnsInHanded {} Tryz.checked os 9 .any (Rows.problemAheadSpec.pre6 enc Tryz.prog Tryz.f9 Rows.problemAheadRow.domain false) (Rows.problemAheadSpec.post enc Tryz.prog Tryz.f9 false true false false) := by
  refine returnsInHanded_of_change (C := Tryz.checked) own started (by kernel_rfl) Tryz.func9
    (ChangeSpec.witness6 (enc := enc) (C := Tryz.checked) false ⟨#[], #[.agg #[.string ⟨#[]⟩, .int .i64 0, .int .i64 0, .int .i64 0, .slice none 0 0, .slice none 0 0, .slice none 0 0, .slice none 0 0, .slice none 0 0, .slice none 0 0, .slice none 0 0, .int .i64 0, .int .i64 0, .int .i64 0, .int .i64 0]], []⟩ 8 (by kernel_rfl) (by kernel_rfl) (by kernel_rfl) (by kernel_rfl)) ?_
  intro W base args ds gs before hval0 hW hcnd _
  have hval : ∀ (j : Nat) t v, Tryz.f9.params[j]? = some t → args[j]? = some v → Value.okWide Tryz.prog W .any base t v := hval0
  have hW' := hW
  obtain ⟨p, q, hA0, hV, rfl, hfz, hnd⟩ := hW
  have hA : DataW.TrodAll enc Tryz.prog W 0 (fun _ => true) true Tryz.f9.params.toList args.toList ds p := hA0
  rw [Tryz.params9] at hA hval
  obtain ⟨v0, vs0, d0, ds0, p0, q0, hargs, rfl, rfl, h0, r0⟩ := trodAll_cons hA
  obtain ⟨rfl, rfl, rfl⟩ := trodAll_nil r0
  obtain rfl : args = #[v0] := by cases args; simp_all
  obtain ⟨rfl, rfl⟩ := trodVars_none hV
  have k0 := h0
  have lt0 : ∀ x ∈ p0, x.block < W.heap.size := by obtain ⟨m, hm⟩ := k0; exact DataW.trod_lt m _ _ _ hm
  obtain ⟨a0, rfl, w0⟩ := open_problem (hval 0 34 v0 rfl rfl) h0
  clear hA0 hval0
  refine (walk a0 W w0).mono fun e W' ⟨he, bel⟩ => ?_
  subst he
  exact ⟨_, rfl, _, _, _, [], _, [], hW', trodAll_mk1 (shut_bool Tryz.underlying4 _), (trodAll_cons_mk (Below.trod laidOut (by kernel_rfl) (of_decide_eq_true (by kernel_rfl)) k0 bel lt0) trodAll_mk0), rfl, bel.frame _, fun h => by cases h⟩

theorem over : Rows.problemAheadRow.holds Tryz.pinned (OpenSpec.ofChange Rows.problemAheadSpec) :=
  OpenClaim.holds_of_wide 9 Tryz.f9 rfl rfl rfl rfl rfl rfl rfl ⟨rfl, rfl, rfl, rfl, rfl⟩ rfl rfl rfl rfl rfl (by kernel_rfl) Tryz.func9 (by kernel_rfl)
    (of_decide_eq_true (by kernel_rfl)) (by unfold Func.isWrapper; first | (rw [if_pos (by decide +kernel)]; kernel_rfl) | (rw [if_neg (by decide +kernel)]; exact ⟨rfl, rfl⟩))
    (fun os started H enc _ => lifted os started H enc)

/-- ████ THE STATEMENT ████ -/
theorem proved : Rows.ProblemAheadSaid := over
#print axioms proved
end Go.Proofs.YtgmgccepmalahaaGreat.problemAhead

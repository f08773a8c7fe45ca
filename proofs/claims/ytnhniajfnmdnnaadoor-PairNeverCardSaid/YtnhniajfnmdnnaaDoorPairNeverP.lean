/- Proves 'PairNeverCardSaid': for every input the Go function PairNever returns true, and each argument reads afterwards as it read before; the card ties the listed variables to the program's text. Conditions: none beyond the row's own (the listed variables of the library read as their text lays them). -/
import Derived.Test.YtnhniajfnmdnnaaDoorTie
import Derived.Test.YtnhniajfnmdnnaaDoorCards
import Derived.WalkKit
import Derived.ProofKit
import Derived.OpenShut
import Derived.ShutString
import Derived.SliceStrings
import Derived.ChangeOld
import Derived.Below
import Derived.LaidMore
import Derived.Lay
import Derived.SevenTiedAt
import Derived.Stop.Joined
import Derived.HandedShaped
import Derived.Test.YtnhniajfnmdnnaaDoorPaiR
namespace Go.Proofs.YtnhniajfnmdnnaaDoor.pairNever
open Go.ChangeShapes Go.WideShapes Go.ChangeAt Go.RowKit
open Go.ChangeMaps (open_string shut_string)
set_option linter.unusedVariables false

theorem own : ownKnob Tryd.prog.godebug = none := by kernel_rfl
theorem laidOut : laidOutB Tryd.prog = true := by kernel_rfl

/-- WHAT THE WALK IS TOLD OF A SLICE OF INTEGERS THAT CAME IN: it is nil; or it leads to a row of 'cap' cells, the numbers 'zs' (the first 'len' are its elements, the rest its spare room), each fitting its kind. -/
def IsRow (k : IntKind) (w : World) (a : Option Addr) (len cap : Nat) (zs : List Int) : Prop :=
  (a = none ∧ len = 0 ∧ cap = 0 ∧ zs = []) ∨
  ∃ x, a = some x ∧ len ≤ cap ∧ cap ≤ maxLen ∧ zs.length = cap ∧ (∀ i, i < zs.length → w.cell? (x.add i) = some (.int k (zs.getD i 0))) ∧ ∀ n ∈ zs, (Lit.int k n).wf = true

/-! ### STEP 1: THE WALK: the Go text returns true, AND WRITES NOTHING THAT WAS THERE: 'Below w.heap.size w w'' (Derived/Below.lean: '.refl', '.alloc', '.drew', '.setCell' at a new block, '.trans'). Open each 'IsRow' by 'rcases' AHEAD of 'go_enter'; part every test ahead of the walk. -/
set_option maxHeartbeats 16000000 in
theorem walk (a0 : Whn.Gr) (a1 : Int) (a2 : Int) (a3 : Sp) (a4 : Sp) (a5 : Int) (w : World) (w0 : Gok a0) (w1 : (Lit.int .i64 a1).wf = true) (w2 : (Lit.int .i64 a2).wf = true) (w3 : SpOk a3) (w4 : SpOk a4) (w5 : (Lit.int .i64 a5).wf = true) (hT : Tbn w) :
    Calls Tryd.prog 4 #[gv a0, .int .i64 a1, .int .i64 a2, spv a3, spv a4, .int .i64 a5] w fun e w' => e = .returned (.bool true) ∧ Below w.heap.size w w' := by
  revert hT
  generalize a0 = g at *
  generalize a1 = k at *
  generalize a2 = n at *
  generalize a3 = x at *
  generalize a4 = y at *
  generalize a5 = walk at *
  intro hT
  have HT := hid hT
  have Hk := hid (show I64 k by have := bounds_i64 w1; unfold I64; omega)
  have Hn := hid (show I64 n by have := bounds_i64 w2; unfold I64; omega)
  have Hw := hid (show I64 walk by have := bounds_i64 w5; unfold I64; omega)
  have Hx := hid w3
  have Hy := hid w4
  clear w0 w1 w2 w3 w4 w5 hT
  show Calls Tryd.prog 4 #[gv g, .int .i64 k, .int .i64 n, spv x, spv y, .int .i64 walk] w (Did (.bool true) w)
  have HH := hid (fun X h => heads15 own15 X h)
  have T0 := hid (fun X => l_tame15 x y X)
  have R1 := hid (fun X => r_Right g x.w Hx.out.1 X)
  have R2 := hid (fun X => r_Right g y.w Hy.out.1 X)
  have NS := hid (fun X h => own15.never g k n x y walk X Hk.out Hn.out Hw.out Hx.out Hy.out h)
  have HS := hid (fun X h => own15.holds g k n x y walk X Hk.out Hn.out Hw.out Hx.out Hy.out h)
  have KN := hid (fun X => own15.known k X Hk.out)
  have Hnk := hid (fun h1 h2 h3 h4 => never_known (g := g) (k := k) (n := n) (x := x) (y := y) (walk := walk) h1 h2 h3 h4)
  have Hxr := hid (Whn.right_iff g x.w)
  have Hyr := hid (Whn.right_iff g y.w)
  obtain ⟨P, W, hP, hW, K, hb0⟩ := (Mem.nil w).one (gc g) 23
  obtain ⟨Q, V, hQ, hV, K1, hb1⟩ := K.out.one (spc x) 29
  obtain ⟨R, U, hR, hU, K2, hb2⟩ := K1.out.one (spc y) 29
  clear K K1 hb0 hb1 hb2
  go_enter Tryd.func4, Tryd.ntmps4
  cases hT0 : tmP x y with
  | false =>
    rw [hT0] at T0
    obtain ⟨mg0, mg1, mg2⟩ := K2.out.gr (B := P) (g := g) (by simp)
    obtain ⟨mx0, mx1, mx2, mx3, mx4⟩ := K2.out.sp (B := Q) (x := x) (by simp)
    obtain ⟨my0, my1, my2, my3, my4⟩ := K2.out.sp (B := R) (x := y) (by simp)
    set_option maxRecDepth 20000 in go_wp2_with fail
    refine (T0.out _).mono ?_
    rintro e Y3 ⟨rfl, bz⟩
    have K3 := hid (K2.out.next bz)
    clear mg0 mg1 mg2 mx0 mx1 mx2 mx3 mx4 my0 my1 my2 my3 my4
    clear bz K2
    set_option maxRecDepth 20000 in go_wp2_with fail
    refine (HH.out _ (HT.out.next K3.out.2)).mono ?_
    rintro e Y9 ⟨rfl, bz⟩
    have K9 := hid (K3.out.next bz)
    clear bz K3
    set_option maxRecDepth 20000 in go_wp2_with fail
    go_ret
    exact Did.mk (by first | rfl | simp) K9.out.2
  | true =>
    rw [hT0] at T0
    obtain ⟨mg0, mg1, mg2⟩ := K2.out.gr (B := P) (g := g) (by simp)
    obtain ⟨mx0, mx1, mx2, mx3, mx4⟩ := K2.out.sp (B := Q) (x := x) (by simp)
    obtain ⟨my0, my1, my2, my3, my4⟩ := K2.out.sp (B := R) (x := y) (by simp)
    set_option maxRecDepth 20000 in go_wp2_with fail
    refine (T0.out _).mono ?_
    rintro e Y3 ⟨rfl, bz⟩
    have K3 := hid (K2.out.next bz)
    clear mg0 mg1 mg2 mx0 mx1 mx2 mx3 mx4 my0 my1 my2 my3 my4
    clear bz K2
    cases hR1 : Whn.right g x.w with
    | false =>
      rw [hR1] at R1
      obtain ⟨mg0, mg1, mg2⟩ := K3.out.gr (B := P) (g := g) (by simp)
      obtain ⟨mx0, mx1, mx2, mx3, mx4⟩ := K3.out.sp (B := Q) (x := x) (by simp)
      obtain ⟨my0, my1, my2, my3, my4⟩ := K3.out.sp (B := R) (x := y) (by simp)
      set_option maxRecDepth 20000 in go_wp2_with fail
      refine (R1.out _).mono ?_
      rintro e Y4 ⟨rfl, bz⟩
      have K4 := hid (K3.out.next bz)
      clear mg0 mg1 mg2 mx0 mx1 mx2 mx3 mx4 my0 my1 my2 my3 my4
      clear bz K3
      set_option maxRecDepth 20000 in go_wp2_with fail
      refine (HH.out _ (HT.out.next K4.out.2)).mono ?_
      rintro e Y9 ⟨rfl, bz⟩
      have K9 := hid (K4.out.next bz)
      clear bz K4
      set_option maxRecDepth 20000 in go_wp2_with fail
      go_ret
      exact Did.mk (by first | rfl | simp) K9.out.2
    | true =>
      rw [hR1] at R1
      obtain ⟨mg0, mg1, mg2⟩ := K3.out.gr (B := P) (g := g) (by simp)
      obtain ⟨mx0, mx1, mx2, mx3, mx4⟩ := K3.out.sp (B := Q) (x := x) (by simp)
      obtain ⟨my0, my1, my2, my3, my4⟩ := K3.out.sp (B := R) (x := y) (by simp)
      set_option maxRecDepth 20000 in go_wp2_with fail
      refine (R1.out _).mono ?_
      rintro e Y4 ⟨rfl, bz⟩
      have K4 := hid (K3.out.next bz)
      clear mg0 mg1 mg2 mx0 mx1 mx2 mx3 mx4 my0 my1 my2 my3 my4
      clear bz K3
      cases hR2 : Whn.right g y.w with
      | false =>
        rw [hR2] at R2
        obtain ⟨mg0, mg1, mg2⟩ := K4.out.gr (B := P) (g := g) (by simp)
        obtain ⟨mx0, mx1, mx2, mx3, mx4⟩ := K4.out.sp (B := Q) (x := x) (by simp)
        obtain ⟨my0, my1, my2, my3, my4⟩ := K4.out.sp (B := R) (x := y) (by simp)
        set_option maxRecDepth 20000 in go_wp2_with fail
        refine (R2.out _).mono ?_
        rintro e Y5 ⟨rfl, bz⟩
        have K5 := hid (K4.out.next bz)
        clear mg0 mg1 mg2 mx0 mx1 mx2 mx3 mx4 my0 my1 my2 my3 my4
        clear bz K4
        set_option maxRecDepth 20000 in go_wp2_with fail
        refine (HH.out _ (HT.out.next K5.out.2)).mono ?_
        rintro e Y9 ⟨rfl, bz⟩
        have K9 := hid (K5.out.next bz)
        clear bz K5
        set_option maxRecDepth 20000 in go_wp2_with fail
        go_ret
        exact Did.mk (by first | rfl | simp) K9.out.2
      | true =>
        rw [hR2] at R2
        obtain ⟨mg0, mg1, mg2⟩ := K4.out.gr (B := P) (g := g) (by simp)
        obtain ⟨mx0, mx1, mx2, mx3, mx4⟩ := K4.out.sp (B := Q) (x := x) (by simp)
        obtain ⟨my0, my1, my2, my3, my4⟩ := K4.out.sp (B := R) (x := y) (by simp)
        set_option maxRecDepth 20000 in go_wp2_with fail
        refine (R2.out _).mono ?_
        rintro e Y5 ⟨rfl, bz⟩
        have K5 := hid (K4.out.next bz)
        clear mg0 mg1 mg2 mx0 mx1 mx2 mx3 mx4 my0 my1 my2 my3 my4
        clear bz K4
        have Hxw := hid ((Hxr.out.1 hR1).2.1)
        have Hyw := hid ((Hyr.out.1 hR2).2.1)
        clear Hxr Hyr hR1 hR2 hT0 T0 R1 R2
        set_option maxRecDepth 20000 in go_wp2_with fail
        go_loopw [13] (fun i wr => ∃ (m : Nat), i = .int .i64 m ∧ m ≤ 16 ∧ Hid (Mem w wr [(R, spc y, 29), (Q, spc x, 29), (P, gc g, 23)])) (fun i _ => 16 - (intOf i).toNat)
        case atStart => exact ⟨0, rfl, Nat.zero_le _, K5⟩
        case round =>
          obtain ⟨m, rfl, hm, HK⟩ := hrel
          by_cases hlt : m < 16
          · skip
            have K6 := hid HK.out
            clear HK K5 Hnk HS KN HH
            obtain ⟨mg0, mg1, mg2⟩ := K6.out.gr (B := P) (g := g) (by simp)
            obtain ⟨mx0, mx1, mx2, mx3, mx4⟩ := K6.out.sp (B := Q) (x := x) (by simp)
            obtain ⟨my0, my1, my2, my3, my4⟩ := K6.out.sp (B := R) (x := y) (by simp)
            have b1 : (m : Int) < 16 := by omega
            go_upto_region 6 with fail
            clear mg0 mg1 mg2 mx0 mx1 mx2 mx3 mx4 my0 my1 my2 my3 my4
            go_cut [14, 15] (fun s14 s15 wx => ∃ A B : Nat, s14 = .pointer (some ⟨A, 0, none⟩) ∧ s15 = .pointer (some ⟨B, 0, none⟩) ∧ Hid (w.heap.size ≤ A ∧ w.heap.size ≤ B) ∧ Hid (A ≠ B ∧ A ≠ P ∧ A ≠ Q ∧ A ≠ R ∧ B ≠ P ∧ B ≠ Q ∧ B ≠ R) ∧ Hid (Mem w wx [(A, spc x, 29), (B, spc y, 29), (R, spc y, 29), (Q, spc x, 29), (P, gc g, 23)]))
            case first =>
              have hPl := (K6.out.at_ (b := P) (cs := gc g) (t := 23) (by simp)).lt
              have hQl := (K6.out.at_ (b := Q) (cs := spc x) (t := 29) (by simp)).lt
              have hRl := (K6.out.at_ (b := R) (cs := spc y) (t := 29) (by simp)).lt
              have hwl := K6.out.2.size
              refine wp_region_held_drew (S := fun X => Mem w X [(R, spc y, 29), (Q, spc x, 29), (P, gc g, 23)]) (by kernel_rfl) K6.out.drew (fun hHeld => ?_)
              have KD := hid K6.out.drew
              obtain ⟨D, hD⟩ : ∃ D, wr.drew = D := ⟨_, rfl⟩
              have hDl : Hid (D.heap.size = wr.heap.size) := hid (by rw [← hD]; rfl)
              rw [hD] at KD hHeld ⊢
              clear hD
              set_option maxRecDepth 20000 in refine takeH 0 41 (spv x) rfl rfl (by kernel_rfl) (by kernel_rfl) (by kernel_rfl) (fun _ _ _ h => h) (by kernel_rfl) (fun X hX => by obtain ⟨q0, q1, q2, q3, q4⟩ := hX.sp (B := Q) (x := x) (by simp); clear hX; go_simp) hHeld ?_
              simp only [Act.put, List.setIfInBounds_toArray, List.set_cons_zero, List.set_cons_succ]
              set_option maxRecDepth 20000 in refine takeH 1 42 (spv y) rfl rfl (by kernel_rfl) (by kernel_rfl) (by kernel_rfl) (fun _ _ _ h => h) (by kernel_rfl) (fun X hX => by obtain ⟨q0, q1, q2, q3, q4⟩ := hX.sp (B := R) (x := y) (by simp); clear hX; go_simp) hHeld ?_
              simp only [Act.put, List.setIfInBounds_toArray, List.set_cons_zero, List.set_cons_succ]
              refine wpAnyH_ready (rs := [2, 3]) (by kernel_rfl) (by simp) ?_
              refine AllReadyH.cons rfl (fun KK hK => ?_) (AllReadyH.cons rfl (fun KK hK => ?_) AllReadyH.nil)
              · simp only [List.getElem_toArray, List.getElem_cons_succ, List.getElem_cons_zero]
                set_option maxRecDepth 20000 in go_simp
                obtain ⟨A, D1, hA, hD1, KA, hz1⟩ := KD.out.one [.int .u32 0, .int .u8 0, .int .i64 0, .int .i64 0, .int .i64 0] 29
                rw [hA]
                have hK1 := KA.out.sub (l' := [(R, spc y, 29), (Q, spc x, 29), (P, gc g, 23)]) (by simp)
                have hl1 : A < D1.heap.size := (KA.out.at_ (b := A) (cs := [.int .u32 0, .int .u8 0, .int .i64 0, .int .i64 0, .int .i64 0]) (t := 29) (by simp)).lt
                have hl0 : wr.heap.size ≤ A := by rw [← hA, hDl.out]; exact Nat.le_refl _
                rw [hD1]
                refine hK.out _ _ hK1 (fun hHeld => ?_)
                clear hK KK
                try simp only [Act.put, List.setIfInBounds_toArray, List.set_cons_zero, List.set_cons_succ]
                refine wpAnyH_ready (rs := [3]) (by kernel_rfl) (by simp) ?_
                refine AllReadyH.cons rfl (fun KK hK => ?_) AllReadyH.nil
                try simp only [List.getElem_toArray, List.getElem_cons_succ, List.getElem_cons_zero]
                clear hD1 hA
                try go_simp
                obtain ⟨B, D2, hB, hD2, KB, hz2⟩ := KA.out.one [.int .u32 0, .int .u8 0, .int .i64 0, .int .i64 0, .int .i64 0] 29
                rw [hB]
                have hK2 := KB.out.sub (l' := [(R, spc y, 29), (Q, spc x, 29), (P, gc g, 23)]) (by simp)
                have hl2 : A < B := by rw [← hB]; exact hl1
                rw [hD2]
                refine hK.out _ _ hK2 (fun hHeld => ?_)
                clear hK KK
                try simp only [Act.put, List.setIfInBounds_toArray, List.set_cons_zero, List.set_cons_succ]
                clear hD2 hB KA hz1 hz2
                have hAB : w.heap.size ≤ A ∧ w.heap.size ≤ B := by omega
                have hne : A ≠ B ∧ A ≠ P ∧ A ≠ Q ∧ A ≠ R ∧ B ≠ P ∧ B ≠ Q ∧ B ≠ R := by omega
                have hnA : ∀ p ∈ (B, [.int .u32 0, .int .u8 0, .int .i64 0, .int .i64 0, .int .i64 0], 29) :: [(R, spc y, 29), (Q, spc x, 29), (P, gc g, 23)], p.1 ≠ A := by
                  intro p hp
                  simp only [List.mem_cons, List.not_mem_nil, or_false] at hp
                  rcases hp with rfl | rfl | rfl | rfl
                  · show B ≠ A; omega
                  · show R ≠ A; omega
                  · show Q ≠ A; omega
                  · show P ≠ A; omega
                have hnB : ∀ p ∈ (A, spc x, 29) :: [(R, spc y, 29), (Q, spc x, 29), (P, gc g, 23)], p.1 ≠ B := by
                  intro p hp
                  simp only [List.mem_cons, List.not_mem_nil, or_false] at hp
                  rcases hp with rfl | rfl | rfl | rfl
                  · show A ≠ B; omega
                  · show R ≠ B; omega
                  · show Q ≠ B; omega
                  · show P ≠ B; omega
                have KC := hid (KB.out.sub (l' := (A, [.int .u32 0, .int .u8 0, .int .i64 0, .int .i64 0, .int .i64 0], 29) :: (B, [.int .u32 0, .int .u8 0, .int .i64 0, .int .i64 0, .int .i64 0], 29) :: [(R, spc y, 29), (Q, spc x, 29), (P, gc g, 23)]) (by
                  intro p hp
                  simp only [List.mem_cons, List.not_mem_nil, or_false] at hp ⊢
                  rcases hp with rfl | rfl | rfl | rfl | rfl <;> simp))
                clear KB
                have fA := (KC.out.at_ (b := A) (cs := [.int .u32 0, .int .u8 0, .int .i64 0, .int .i64 0, .int .i64 0]) (t := 29) (by simp))
                have c0 := fA.cell (k := 0) rfl
                have c1 := fA.cell (k := 1) rfl
                have c2 := fA.cell (k := 2) rfl
                have c3 := fA.cell (k := 3) rfl
                have c4 := fA.cell (k := 4) rfl
                have s0 := fA.free 0
                have s1 := fA.free 1
                have s2 := fA.free 2
                have s3 := fA.free 3
                have s4 := fA.free 4
                refine wpAnyH_ready (rs := [4]) (by kernel_rfl) (by simp) ?_
                refine AllReadyH.cons rfl (fun KK hK => ?_) AllReadyH.nil
                try simp only [List.getElem_toArray, List.getElem_cons_succ, List.getElem_cons_zero]
                set_option maxRecDepth 20000 in go_simp
                have KE : Hid (Mem w (((((D2.setCell ⟨A, 0, none⟩ (.int .u32 (x.w.w : Int))).setCell ⟨A, 1, none⟩ (.int .u8 (x.w.d : Int))).setCell ⟨A, 2, none⟩ (.int .i64 x.w.s)).setCell ⟨A, 3, none⟩ (.int .i64 x.w.l)).setCell ⟨A, 4, none⟩ (.int .i64 x.r)) ((A, spc x, 29) :: (B, [.int .u32 0, .int .u8 0, .int .i64 0, .int .i64 0, .int .i64 0], 29) :: [(R, spc y, 29), (Q, spc x, 29), (P, gc g, 23)])) := hid (((((KC.out.set hAB.1 hnA 0 (.int .u32 (x.w.w : Int))).set hAB.1 hnA 1 (.int .u8 (x.w.d : Int))).set hAB.1 hnA 2 (.int .i64 x.w.s)).set hAB.1 hnA 3 (.int .i64 x.w.l)).set hAB.1 hnA 4 (.int .i64 x.r))
                obtain ⟨E1, hE1⟩ : ∃ E1, (((((D2.setCell ⟨A, 0, none⟩ (.int .u32 (x.w.w : Int))).setCell ⟨A, 1, none⟩ (.int .u8 (x.w.d : Int))).setCell ⟨A, 2, none⟩ (.int .i64 x.w.s)).setCell ⟨A, 3, none⟩ (.int .i64 x.w.l)).setCell ⟨A, 4, none⟩ (.int .i64 x.r)) = E1 := ⟨_, rfl⟩
                rw [hE1] at KE ⊢
                refine hK.out _ _ (KE.out.sub (by simp)) (fun hHeld => ?_)
                clear hK KK KC hE1 fA c0 c1 c2 c3 c4 s0 s1 s2 s3 s4
                have KF := hid (KE.out.sub (l' := (B, [.int .u32 0, .int .u8 0, .int .i64 0, .int .i64 0, .int .i64 0], 29) :: (A, spc x, 29) :: [(R, spc y, 29), (Q, spc x, 29), (P, gc g, 23)]) (by
                  intro p hp
                  simp only [List.mem_cons, List.not_mem_nil, or_false] at hp ⊢
                  rcases hp with rfl | rfl | rfl | rfl | rfl <;> simp))
                clear KE
                have fB := (KF.out.at_ (b := B) (cs := [.int .u32 0, .int .u8 0, .int .i64 0, .int .i64 0, .int .i64 0]) (t := 29) (by simp))
                have c0 := fB.cell (k := 0) rfl
                have c1 := fB.cell (k := 1) rfl
                have c2 := fB.cell (k := 2) rfl
                have c3 := fB.cell (k := 3) rfl
                have c4 := fB.cell (k := 4) rfl
                have s0 := fB.free 0
                have s1 := fB.free 1
                have s2 := fB.free 2
                have s3 := fB.free 3
                have s4 := fB.free 4
                refine wpAnyH_ready (rs := [5]) (by kernel_rfl) (by simp) ?_
                refine AllReadyH.cons rfl (fun KK hK => ?_) AllReadyH.nil
                try simp only [List.getElem_toArray, List.getElem_cons_succ, List.getElem_cons_zero]
                set_option maxRecDepth 20000 in go_simp
                have KG : Hid (Mem w (((((E1.setCell ⟨B, 0, none⟩ (.int .u32 (y.w.w : Int))).setCell ⟨B, 1, none⟩ (.int .u8 (y.w.d : Int))).setCell ⟨B, 2, none⟩ (.int .i64 y.w.s)).setCell ⟨B, 3, none⟩ (.int .i64 y.w.l)).setCell ⟨B, 4, none⟩ (.int .i64 y.r)) ((B, spc y, 29) :: (A, spc x, 29) :: [(R, spc y, 29), (Q, spc x, 29), (P, gc g, 23)])) := hid (((((KF.out.set hAB.2 hnB 0 (.int .u32 (y.w.w : Int))).set hAB.2 hnB 1 (.int .u8 (y.w.d : Int))).set hAB.2 hnB 2 (.int .i64 y.w.s)).set hAB.2 hnB 3 (.int .i64 y.w.l)).set hAB.2 hnB 4 (.int .i64 y.r))
                obtain ⟨E2, hE2⟩ : ∃ E2, (((((E1.setCell ⟨B, 0, none⟩ (.int .u32 (y.w.w : Int))).setCell ⟨B, 1, none⟩ (.int .u8 (y.w.d : Int))).setCell ⟨B, 2, none⟩ (.int .i64 y.w.s)).setCell ⟨B, 3, none⟩ (.int .i64 y.w.l)).setCell ⟨B, 4, none⟩ (.int .i64 y.r)) = E2 := ⟨_, rfl⟩
                rw [hE2] at KG ⊢
                refine hK.out _ _ (KG.out.sub (by simp)) (fun hHeld => ?_)
                clear hK KK KF hE2 fB c0 c1 c2 c3 c4 s0 s1 s2 s3 s4
                refine wpAnyH_done (by kernel_rfl) ?_ _
                set_option maxRecDepth 20000 in go_wp2_with fail
                go_meet
                exact ⟨A, B, rfl, rfl, hid hAB, hid hne, hid (KG.out.sub (by
                  intro p hp
                  simp only [List.mem_cons, List.not_mem_nil, or_false] at hp ⊢
                  rcases hp with rfl | rfl | rfl | rfl | rfl <;> simp))⟩
              · simp only [List.getElem_toArray, List.getElem_cons_succ, List.getElem_cons_zero]
                set_option maxRecDepth 20000 in go_simp
                obtain ⟨B, D1, hB, hD1, KA, hz1⟩ := KD.out.one [.int .u32 0, .int .u8 0, .int .i64 0, .int .i64 0, .int .i64 0] 29
                rw [hB]
                have hK1 := KA.out.sub (l' := [(R, spc y, 29), (Q, spc x, 29), (P, gc g, 23)]) (by simp)
                have hl1 : B < D1.heap.size := (KA.out.at_ (b := B) (cs := [.int .u32 0, .int .u8 0, .int .i64 0, .int .i64 0, .int .i64 0]) (t := 29) (by simp)).lt
                have hl0 : wr.heap.size ≤ B := by rw [← hB, hDl.out]; exact Nat.le_refl _
                rw [hD1]
                refine hK.out _ _ hK1 (fun hHeld => ?_)
                clear hK KK
                try simp only [Act.put, List.setIfInBounds_toArray, List.set_cons_zero, List.set_cons_succ]
                refine wpAnyH_ready (rs := [2]) (by kernel_rfl) (by simp) ?_
                refine AllReadyH.cons rfl (fun KK hK => ?_) AllReadyH.nil
                try simp only [List.getElem_toArray, List.getElem_cons_succ, List.getElem_cons_zero]
                clear hD1 hB
                try go_simp
                obtain ⟨A, D2, hA, hD2, KB, hz2⟩ := KA.out.one [.int .u32 0, .int .u8 0, .int .i64 0, .int .i64 0, .int .i64 0] 29
                rw [hA]
                have hK2 := KB.out.sub (l' := [(R, spc y, 29), (Q, spc x, 29), (P, gc g, 23)]) (by simp)
                have hl2 : B < A := by rw [← hA]; exact hl1
                rw [hD2]
                refine hK.out _ _ hK2 (fun hHeld => ?_)
                clear hK KK
                try simp only [Act.put, List.setIfInBounds_toArray, List.set_cons_zero, List.set_cons_succ]
                clear hD2 hA KA hz1 hz2
                have hAB : w.heap.size ≤ A ∧ w.heap.size ≤ B := by omega
                have hne : A ≠ B ∧ A ≠ P ∧ A ≠ Q ∧ A ≠ R ∧ B ≠ P ∧ B ≠ Q ∧ B ≠ R := by omega
                have hnA : ∀ p ∈ (B, [.int .u32 0, .int .u8 0, .int .i64 0, .int .i64 0, .int .i64 0], 29) :: [(R, spc y, 29), (Q, spc x, 29), (P, gc g, 23)], p.1 ≠ A := by
                  intro p hp
                  simp only [List.mem_cons, List.not_mem_nil, or_false] at hp
                  rcases hp with rfl | rfl | rfl | rfl
                  · show B ≠ A; omega
                  · show R ≠ A; omega
                  · show Q ≠ A; omega
                  · show P ≠ A; omega
                have hnB : ∀ p ∈ (A, spc x, 29) :: [(R, spc y, 29), (Q, spc x, 29), (P, gc g, 23)], p.1 ≠ B := by
                  intro p hp
                  simp only [List.mem_cons, List.not_mem_nil, or_false] at hp
                  rcases hp with rfl | rfl | rfl | rfl
                  · show A ≠ B; omega
                  · show R ≠ B; omega
                  · show Q ≠ B; omega
                  · show P ≠ B; omega
                have KC := hid (KB.out.sub (l' := (A, [.int .u32 0, .int .u8 0, .int .i64 0, .int .i64 0, .int .i64 0], 29) :: (B, [.int .u32 0, .int .u8 0, .int .i64 0, .int .i64 0, .int .i64 0], 29) :: [(R, spc y, 29), (Q, spc x, 29), (P, gc g, 23)]) (by
                  intro p hp
                  simp only [List.mem_cons, List.not_mem_nil, or_false] at hp ⊢
                  rcases hp with rfl | rfl | rfl | rfl | rfl <;> simp))
                clear KB
                have fA := (KC.out.at_ (b := A) (cs := [.int .u32 0, .int .u8 0, .int .i64 0, .int .i64 0, .int .i64 0]) (t := 29) (by simp))
                have c0 := fA.cell (k := 0) rfl
                have c1 := fA.cell (k := 1) rfl
                have c2 := fA.cell (k := 2) rfl
                have c3 := fA.cell (k := 3) rfl
                have c4 := fA.cell (k := 4) rfl
                have s0 := fA.free 0
                have s1 := fA.free 1
                have s2 := fA.free 2
                have s3 := fA.free 3
                have s4 := fA.free 4
                refine wpAnyH_ready (rs := [4]) (by kernel_rfl) (by simp) ?_
                refine AllReadyH.cons rfl (fun KK hK => ?_) AllReadyH.nil
                try simp only [List.getElem_toArray, List.getElem_cons_succ, List.getElem_cons_zero]
                set_option maxRecDepth 20000 in go_simp
                have KE : Hid (Mem w (((((D2.setCell ⟨A, 0, none⟩ (.int .u32 (x.w.w : Int))).setCell ⟨A, 1, none⟩ (.int .u8 (x.w.d : Int))).setCell ⟨A, 2, none⟩ (.int .i64 x.w.s)).setCell ⟨A, 3, none⟩ (.int .i64 x.w.l)).setCell ⟨A, 4, none⟩ (.int .i64 x.r)) ((A, spc x, 29) :: (B, [.int .u32 0, .int .u8 0, .int .i64 0, .int .i64 0, .int .i64 0], 29) :: [(R, spc y, 29), (Q, spc x, 29), (P, gc g, 23)])) := hid (((((KC.out.set hAB.1 hnA 0 (.int .u32 (x.w.w : Int))).set hAB.1 hnA 1 (.int .u8 (x.w.d : Int))).set hAB.1 hnA 2 (.int .i64 x.w.s)).set hAB.1 hnA 3 (.int .i64 x.w.l)).set hAB.1 hnA 4 (.int .i64 x.r))
                obtain ⟨E1, hE1⟩ : ∃ E1, (((((D2.setCell ⟨A, 0, none⟩ (.int .u32 (x.w.w : Int))).setCell ⟨A, 1, none⟩ (.int .u8 (x.w.d : Int))).setCell ⟨A, 2, none⟩ (.int .i64 x.w.s)).setCell ⟨A, 3, none⟩ (.int .i64 x.w.l)).setCell ⟨A, 4, none⟩ (.int .i64 x.r)) = E1 := ⟨_, rfl⟩
                rw [hE1] at KE ⊢
                refine hK.out _ _ (KE.out.sub (by simp)) (fun hHeld => ?_)
                clear hK KK KC hE1 fA c0 c1 c2 c3 c4 s0 s1 s2 s3 s4
                have KF := hid (KE.out.sub (l' := (B, [.int .u32 0, .int .u8 0, .int .i64 0, .int .i64 0, .int .i64 0], 29) :: (A, spc x, 29) :: [(R, spc y, 29), (Q, spc x, 29), (P, gc g, 23)]) (by
                  intro p hp
                  simp only [List.mem_cons, List.not_mem_nil, or_false] at hp ⊢
                  rcases hp with rfl | rfl | rfl | rfl | rfl <;> simp))
                clear KE
                have fB := (KF.out.at_ (b := B) (cs := [.int .u32 0, .int .u8 0, .int .i64 0, .int .i64 0, .int .i64 0]) (t := 29) (by simp))
                have c0 := fB.cell (k := 0) rfl
                have c1 := fB.cell (k := 1) rfl
                have c2 := fB.cell (k := 2) rfl
                have c3 := fB.cell (k := 3) rfl
                have c4 := fB.cell (k := 4) rfl
                have s0 := fB.free 0
                have s1 := fB.free 1
                have s2 := fB.free 2
                have s3 := fB.free 3
                have s4 := fB.free 4
                refine wpAnyH_ready (rs := [5]) (by kernel_rfl) (by simp) ?_
                refine AllReadyH.cons rfl (fun KK hK => ?_) AllReadyH.nil
                try simp only [List.getElem_toArray, List.getElem_cons_succ, List.getElem_cons_zero]
                set_option maxRecDepth 20000 in go_simp
                have KG : Hid (Mem w (((((E1.setCell ⟨B, 0, none⟩ (.int .u32 (y.w.w : Int))).setCell ⟨B, 1, none⟩ (.int .u8 (y.w.d : Int))).setCell ⟨B, 2, none⟩ (.int .i64 y.w.s)).setCell ⟨B, 3, none⟩ (.int .i64 y.w.l)).setCell ⟨B, 4, none⟩ (.int .i64 y.r)) ((B, spc y, 29) :: (A, spc x, 29) :: [(R, spc y, 29), (Q, spc x, 29), (P, gc g, 23)])) := hid (((((KF.out.set hAB.2 hnB 0 (.int .u32 (y.w.w : Int))).set hAB.2 hnB 1 (.int .u8 (y.w.d : Int))).set hAB.2 hnB 2 (.int .i64 y.w.s)).set hAB.2 hnB 3 (.int .i64 y.w.l)).set hAB.2 hnB 4 (.int .i64 y.r))
                obtain ⟨E2, hE2⟩ : ∃ E2, (((((E1.setCell ⟨B, 0, none⟩ (.int .u32 (y.w.w : Int))).setCell ⟨B, 1, none⟩ (.int .u8 (y.w.d : Int))).setCell ⟨B, 2, none⟩ (.int .i64 y.w.s)).setCell ⟨B, 3, none⟩ (.int .i64 y.w.l)).setCell ⟨B, 4, none⟩ (.int .i64 y.r)) = E2 := ⟨_, rfl⟩
                rw [hE2] at KG ⊢
                refine hK.out _ _ (KG.out.sub (by simp)) (fun hHeld => ?_)
                clear hK KK KF hE2 fB c0 c1 c2 c3 c4 s0 s1 s2 s3 s4
                refine wpAnyH_done (by kernel_rfl) ?_ _
                set_option maxRecDepth 20000 in go_wp2_with fail
                go_meet
                exact ⟨A, B, rfl, rfl, hid hAB, hid hne, hid (KG.out.sub (by
                  intro p hp
                  simp only [List.mem_cons, List.not_mem_nil, or_false] at hp ⊢
                  rcases hp with rfl | rfl | rfl | rfl | rfl <;> simp))⟩
            case rest =>
              revert wc
              intro W9 hcut
              obtain ⟨A, B, rfl, rfl, hAB, hne, K7⟩ := hcut
              clear K6
              have hnA : Hid (∀ (c : List Value), ∀ p ∈ (B, c, (29 : TypeId)) :: [(R, spc y, 29), (Q, spc x, 29), (P, gc g, 23)], p.1 ≠ A) := hid (by
                obtain ⟨h1, h2, h3, h4, h5, h6, h7⟩ := hne.out
                intro c p hp
                simp only [List.mem_cons, List.not_mem_nil, or_false] at hp
                rcases hp with rfl | rfl | rfl | rfl
                · exact fun h => h1 h.symm
                · exact fun h => h4 h.symm
                · exact fun h => h3 h.symm
                · exact fun h => h2 h.symm)
              have hnB : Hid (∀ (c : List Value), ∀ p ∈ (A, c, (29 : TypeId)) :: [(R, spc y, 29), (Q, spc x, 29), (P, gc g, 23)], p.1 ≠ B) := hid (by
                obtain ⟨h1, h2, h3, h4, h5, h6, h7⟩ := hne.out
                intro c p hp
                simp only [List.mem_cons, List.not_mem_nil, or_false] at hp
                rcases hp with rfl | rfl | rfl | rfl
                · exact h1
                · exact fun h => h7 h.symm
                · exact fun h => h6 h.symm
                · exact fun h => h5 h.symm)
              clear hne
              set_option maxRecDepth 20000 in go_upto_if 45 with fail
              go_cut [] (fun wx => ∃ b : Bool, Hid (Mem w wx [(A, spc (hideS b false x), 29), (B, spc y, 29), (R, spc y, 29), (Q, spc x, 29), (P, gc g, 23)]))
              case first =>
                have fA := (K7.out.at_ (b := A) (cs := spc x) (t := 29) (by simp))
                have c0 := fA.cell (k := 0) rfl
                have c1 := fA.cell (k := 1) rfl
                have c2 := fA.cell (k := 2) rfl
                have c3 := fA.cell (k := 3) rfl
                have s0 := fA.free 0
                have s1 := fA.free 1
                have s2 := fA.free 2
                have s3 := fA.free 3
                clear fA
                have KT : Hid (Mem w _ ((A, spc (hideS true false x), 29) :: (B, spc y, 29) :: [(R, spc y, 29), (Q, spc x, 29), (P, gc g, 23)])) := hid ((((K7.out.set hAB.out.1 (hnA.out _) 0 (.int .u32 0)).set hAB.out.1 (hnA.out _) 1 (.int .u8 0)).set hAB.out.1 (hnA.out _) 2 (.int .i64 0)).set hAB.out.1 (hnA.out _) 3 (.int .i64 0))
                set_option maxRecDepth 20000 in go_wp2_with fail
                · go_meet
                  exact ⟨true, hid KT.out⟩
                · go_meet
                  exact ⟨false, K7⟩
              case rest =>
                revert wc
                intro W10 hcut
                obtain ⟨b, K8⟩ := hcut
                clear K7
                set_option maxRecDepth 20000 in go_upto_if 51 with fail
                go_cut [] (fun wx => ∃ c : Bool, Hid (Mem w wx [(A, spc (hideS b false x), 29), (B, spc (hideS c false y), 29), (R, spc y, 29), (Q, spc x, 29), (P, gc g, 23)]))
                case first =>
                  have KB := hid (K8.out.sub (l' := [(B, spc y, 29), (A, spc (hideS b false x), 29), (R, spc y, 29), (Q, spc x, 29), (P, gc g, 23)]) (by
                    intro p hp
                    simp only [List.mem_cons, List.not_mem_nil, or_false] at hp ⊢
                    rcases hp with rfl | rfl | rfl | rfl | rfl <;> simp))
                  have fA := (KB.out.at_ (b := B) (cs := spc y) (t := 29) (by simp))
                  have c0 := fA.cell (k := 0) rfl
                  have c1 := fA.cell (k := 1) rfl
                  have c2 := fA.cell (k := 2) rfl
                  have c3 := fA.cell (k := 3) rfl
                  have s0 := fA.free 0
                  have s1 := fA.free 1
                  have s2 := fA.free 2
                  have s3 := fA.free 3
                  clear fA
                  have KT : Hid (Mem w _ ((B, spc (hideS true false y), 29) :: (A, spc (hideS b false x), 29) :: [(R, spc y, 29), (Q, spc x, 29), (P, gc g, 23)])) := hid ((((KB.out.set hAB.out.2 (hnB.out _) 0 (.int .u32 0)).set hAB.out.2 (hnB.out _) 1 (.int .u8 0)).set hAB.out.2 (hnB.out _) 2 (.int .i64 0)).set hAB.out.2 (hnB.out _) 3 (.int .i64 0))
                  set_option maxRecDepth 20000 in go_wp2_with fail
                  · go_meet
                    exact ⟨true, hid (KT.out.sub (l' := [(A, spc (hideS b false x), 29), (B, spc (hideS true false y), 29), (R, spc y, 29), (Q, spc x, 29), (P, gc g, 23)]) (by
                      intro p hp
                      simp only [List.mem_cons, List.not_mem_nil, or_false] at hp ⊢
                      rcases hp with rfl | rfl | rfl | rfl | rfl <;> simp))⟩
                  · go_meet
                    exact ⟨false, K8⟩
                case rest =>
                  revert wc
                  intro W11 hcut
                  obtain ⟨c, K9⟩ := hcut
                  clear K8
                  set_option maxRecDepth 20000 in go_upto_region 11 with fail
                  go_cut [62] (fun s wx => ∃ t : Bool, s = .bool t ∧ Hid (t = true → 0 ≤ x.r) ∧ W11 = wx)
                  case first =>
                    obtain ⟨m0, m1, m2, m3, m4⟩ := K9.out.sp (B := Q) (x := x) (by simp)
                    by_cases h0 : 0 ≤ x.r
                    · set_option maxRecDepth 20000 in go_wp2_with fail
                      all_goals (go_meet; first | exact ⟨false, rfl, hid (fun h => by cases h), rfl⟩ | exact ⟨true, rfl, hid (fun _ => h0), rfl⟩)
                    · set_option maxRecDepth 20000 in go_wp2_with fail
                      all_goals (go_meet; first | exact ⟨false, rfl, hid (fun h => by cases h), rfl⟩ | exact ⟨true, rfl, hid (fun _ => h0), rfl⟩)
                  case rest =>
                    revert wc
                    intro Wt hcut
                    obtain ⟨t1, rfl, ht1, rfl⟩ := hcut
                    set_option maxRecDepth 20000 in go_upto_if 62 with fail
                    go_cut [] (fun wx => ∃ d : Bool, Hid (Mem w wx [(A, spc (hideS b d x), 29), (B, spc (hideS c false y), 29), (R, spc y, 29), (Q, spc x, 29), (P, gc g, 23)]))
                    case first =>
                      cases t1 with
                      | false =>
                        set_option maxRecDepth 20000 in go_wp2_with fail
                        go_meet
                        exact ⟨false, K9⟩
                      | true =>
                        have fA := (K9.out.at_ (b := A) (cs := spc (hideS b false x)) (t := 29) (by simp))
                        have c4 := fA.cell (k := 4) rfl
                        have s4 := fA.free 4
                        clear fA
                        have hr : hideR true x.r = -2 := by unfold hideR; rw [decide_eq_true (ht1.out rfl)]; rfl
                        have hsp : spc (hideS b true x) = (spc (hideS b false x)).set 4 (.int .i64 (-2)) := by show [_, _, _, _, Value.int .i64 (hideR true x.r)] = _; rw [hr]; rfl
                        have KT := hid (K9.out.set hAB.out.1 (hnA.out _) 4 (.int .i64 (-2)))
                        rw [← hsp] at KT
                        clear hsp hr
                        set_option maxRecDepth 20000 in go_wp2_with fail
                        go_meet
                        exact ⟨true, KT⟩
                    case rest =>
                      revert wc
                      intro W12 hcut
                      obtain ⟨d, K10⟩ := hcut
                      clear K9 ht1
                      set_option maxRecDepth 20000 in go_upto_region 13 with fail
                      go_cut [72] (fun s wx => ∃ t : Bool, s = .bool t ∧ Hid (t = true → 0 ≤ y.r) ∧ W12 = wx)
                      case first =>
                        obtain ⟨m0, m1, m2, m3, m4⟩ := K10.out.sp (B := R) (x := y) (by simp)
                        by_cases h0 : 0 ≤ y.r
                        · set_option maxRecDepth 20000 in go_wp2_with fail
                          all_goals (go_meet; first | exact ⟨false, rfl, hid (fun h => by cases h), rfl⟩ | exact ⟨true, rfl, hid (fun _ => h0), rfl⟩)
                        · set_option maxRecDepth 20000 in go_wp2_with fail
                          all_goals (go_meet; first | exact ⟨false, rfl, hid (fun h => by cases h), rfl⟩ | exact ⟨true, rfl, hid (fun _ => h0), rfl⟩)
                      case rest =>
                        revert wc
                        intro Wt hcut
                        obtain ⟨t2, rfl, ht2, rfl⟩ := hcut
                        set_option maxRecDepth 20000 in go_upto_if 72 with fail
                        go_cut [] (fun wx => ∃ e : Bool, Hid (Mem w wx [(A, spc (hideS b d x), 29), (B, spc (hideS c e y), 29), (R, spc y, 29), (Q, spc x, 29), (P, gc g, 23)]))
                        case first =>
                          cases t2 with
                          | false =>
                            set_option maxRecDepth 20000 in go_wp2_with fail
                            go_meet
                            exact ⟨false, K10⟩
                          | true =>
                            have KB := hid (K10.out.sub (l' := [(B, spc (hideS c false y), 29), (A, spc (hideS b d x), 29), (R, spc y, 29), (Q, spc x, 29), (P, gc g, 23)]) (by
                              intro p hp
                              simp only [List.mem_cons, List.not_mem_nil, or_false] at hp ⊢
                              rcases hp with rfl | rfl | rfl | rfl | rfl <;> simp))
                            have fA := (KB.out.at_ (b := B) (cs := spc (hideS c false y)) (t := 29) (by simp))
                            have c4 := fA.cell (k := 4) rfl
                            have s4 := fA.free 4
                            clear fA
                            have hr : hideR true y.r = -2 := by unfold hideR; rw [decide_eq_true (ht2.out rfl)]; rfl
                            have hsp : spc (hideS c true y) = (spc (hideS c false y)).set 4 (.int .i64 (-2)) := by show [_, _, _, _, Value.int .i64 (hideR true y.r)] = _; rw [hr]; rfl
                            have KT := hid (KB.out.set hAB.out.2 (hnB.out _) 4 (.int .i64 (-2)))
                            rw [← hsp] at KT
                            clear hsp hr
                            set_option maxRecDepth 20000 in go_wp2_with fail
                            go_meet
                            exact ⟨true, hid (KT.out.sub (l' := [(A, spc (hideS b d x), 29), (B, spc (hideS c true y), 29), (R, spc y, 29), (Q, spc x, 29), (P, gc g, 23)]) (by
                                intro p hp
                                simp only [List.mem_cons, List.not_mem_nil, or_false] at hp ⊢
                                rcases hp with rfl | rfl | rfl | rfl | rfl <;> simp))⟩
                        case rest =>
                          revert wc
                          intro W13 hcut
                          obtain ⟨e, K11⟩ := hcut
                          clear K10 ht2
                          have NU := hid (fun X h => own15.never g k n (hideS b d x) (hideS c e y) (farP (hideS b d x) (hideS c e y) walk) X Hk.out Hn.out (farP_ok Hw.out) (hideS_ok Hx.out) (hideS_ok Hy.out) h)
                          have Hkeep := hid (fun hp h => round_keeps (g := g) (k := k) (n := n) (x := x) (y := y) (walk := walk) b c d e Hxw.out Hyw.out hp h)
                          have Hfar := hid (show farP (hideS b d x) (hideS c e y) walk = if decide ((hideS b d x).r < 0) || decide ((hideS c e y).r < 0) then 0 else walk from rfl)
                          generalize farP (hideS b d x) (hideS c e y) walk = far at *
                          generalize hideS b d x = u at *
                          generalize hideS c e y = v at *
                          clear hnA hnB hAB
                          set_option maxRecDepth 20000 in go_upto_region 16 with fail
                          go_cut [82] (fun s wx => s = .bool (decide (u.r < 0) || decide (v.r < 0)) ∧ W13 = wx)
                          case first =>
                            obtain ⟨m0, m1, m2, m3, m4⟩ := K11.out.sp (B := A) (x := u) (by simp)
                            obtain ⟨o0, o1, o2, o3, o4⟩ := K11.out.sp (B := B) (x := v) (by simp)
                            by_cases h0 : u.r < 0
                            · set_option maxRecDepth 20000 in go_wp2_with fail
                              go_meet
                              exact ⟨by rw [decide_eq_true h0]; rfl, rfl⟩
                            · set_option maxRecDepth 20000 in go_wp2_with fail
                              go_meet
                              exact ⟨by rw [decide_eq_false (by omega : ¬ u.r < 0)]; rfl, rfl⟩
                          case rest =>
                            revert wc
                            intro Wt hcut
                            obtain ⟨rfl, rfl⟩ := hcut
                            generalize (decide (u.r < 0) || decide (v.r < 0)) = t3 at *
                            set_option maxRecDepth 20000 in go_upto_if 82 with fail
                            go_cut [16] (fun s wx => s = .int .i64 far ∧ W13 = wx)
                            case first =>
                              cases t3 with
                              | true =>
                                set_option maxRecDepth 20000 in go_wp2_with fail
                                go_meet
                                exact ⟨by rw [Hfar.out]; rfl, rfl⟩
                              | false =>
                                set_option maxRecDepth 20000 in go_wp2_with fail
                                go_meet
                                exact ⟨by rw [Hfar.out]; rfl, rfl⟩
                            case rest =>
                              revert wc
                              intro Wt hcut
                              obtain ⟨rfl, rfl⟩ := hcut
                              clear Hfar
                              set_option maxRecDepth 20000 in go_upto_region 18 with fail
                              go_cut [113] (fun s wx => s = .bool false ∧ Hid (Mem w wx [(R, spc y, 29), (Q, spc x, 29), (P, gc g, 23)]))
                              case first =>
                                obtain ⟨mg0, mg1, mg2⟩ := K11.out.gr (B := P) (g := g) (by simp)
                                obtain ⟨mx0, mx1, mx2, mx3, mx4⟩ := K11.out.sp (B := Q) (x := x) (by simp)
                                obtain ⟨my0, my1, my2, my3, my4⟩ := K11.out.sp (B := R) (x := y) (by simp)
                                obtain ⟨mu0, mu1, mu2, mu3, mu4⟩ := K11.out.sp (B := A) (x := u) (by simp)
                                obtain ⟨mv0, mv1, mv2, mv3, mv4⟩ := K11.out.sp (B := B) (x := v) (by simp)
                                by_cases hw0 : 0 ≤ walk
                                · set_option maxRecDepth 20000 in go_wp2_with fail
                                  refine (NU.out _ (HT.out.next K11.out.2)).mono ?_
                                  rintro e1 Y1 ⟨rfl, bz⟩
                                  have K12 := hid (K11.out.next bz)
                                  clear mg0 mg1 mg2 mx0 mx1 mx2 mx3 mx4 my0 my1 my2 my3 my4 mu0 mu1 mu2 mu3 mu4 mv0 mv1 mv2 mv3 mv4
                                  clear bz K11 NU
                                  cases hq : prN g k n u v far with
                                  | false =>
                                    clear hq Hkeep NS
                                    set_option maxRecDepth 20000 in go_wp2_with fail
                                    go_meet
                                    exact ⟨rfl, hid (K12.out.sub (by simp))⟩
                                  | true =>
                                    obtain ⟨mg0, mg1, mg2⟩ := K12.out.gr (B := P) (g := g) (by simp)
                                    obtain ⟨mx0, mx1, mx2, mx3, mx4⟩ := K12.out.sp (B := Q) (x := x) (by simp)
                                    obtain ⟨my0, my1, my2, my3, my4⟩ := K12.out.sp (B := R) (x := y) (by simp)
                                    obtain ⟨mu0, mu1, mu2, mu3, mu4⟩ := K12.out.sp (B := A) (x := u) (by simp)
                                    obtain ⟨mv0, mv1, mv2, mv3, mv4⟩ := K12.out.sp (B := B) (x := v) (by simp)
                                    by_cases h1 : x.r = -2
                                    · have q1 : (x.r != -2) = false := by simp [h1]
                                      clear hq Hkeep NS h1
                                      set_option maxRecDepth 20000 in go_wp2_with fail
                                      go_meet
                                      exact ⟨rfl, hid (K12.out.sub (by simp))⟩
                                    · by_cases h2 : y.r = -2
                                      · have q1 : (x.r != -2) = true := by simp [h1]
                                        have q2 : (y.r != -2) = false := by simp [h2]
                                        clear hq Hkeep NS h1 h2
                                        set_option maxRecDepth 20000 in go_wp2_with fail
                                        go_meet
                                        exact ⟨rfl, hid (K12.out.sub (by simp))⟩
                                      · have q1 : (x.r != -2) = true := by simp [h1]
                                        have q2 : (y.r != -2) = true := by simp [h2]
                                        have hp : plB x y = true := by unfold plB; simp [h1, h2]
                                        rw [Hkeep.out hp hq] at NS
                                        clear hq Hkeep h1 h2 hp
                                        set_option maxRecDepth 20000 in go_wp2_with fail
                                        refine (NS.out _ (HT.out.next K12.out.2)).mono ?_
                                        rintro e2 Y2 ⟨rfl, bz⟩
                                        have K13 := hid (K12.out.next bz)
                                        clear mg0 mg1 mg2 mx0 mx1 mx2 mx3 mx4 my0 my1 my2 my3 my4 mu0 mu1 mu2 mu3 mu4 mv0 mv1 mv2 mv3 mv4
                                        clear bz K12
                                        set_option maxRecDepth 20000 in go_wp2_with fail
                                        go_meet
                                        exact ⟨rfl, hid (K13.out.sub (by simp))⟩
                                · set_option maxRecDepth 20000 in go_wp2_with fail
                                  go_meet
                                  exact ⟨rfl, hid (K11.out.sub (by simp))⟩
                              case rest =>
                                revert wc
                                intro W14 hcut
                                obtain ⟨rfl, K14⟩ := hcut
                                clear K11 NU NS Hkeep
                                set_option maxRecDepth 20000 in go_wp2_with fail
                                exact ⟨⟨m + 1, by go_num, by omega, K14⟩, by simp [intOf]; omega⟩
          · skip
            obtain rfl : m = 16 := by omega
            have K6 := hid HK.out
            clear HK K5
            by_cases h1 : x.r = -2
            · skip
              have q1 : (x.r != -2) = false := by simp [h1]
              clear h1 Hnk
              obtain ⟨mg0, mg1, mg2⟩ := K6.out.gr (B := P) (g := g) (by simp)
              obtain ⟨mx0, mx1, mx2, mx3, mx4⟩ := K6.out.sp (B := Q) (x := x) (by simp)
              obtain ⟨my0, my1, my2, my3, my4⟩ := K6.out.sp (B := R) (x := y) (by simp)
              set_option maxRecDepth 20000 in go_wp2_with fail
              refine (HH.out _ (HT.out.next K6.out.2)).mono ?_
              rintro e Y7 ⟨rfl, bz⟩
              have K7 := hid (K6.out.next bz)
              clear bz K6
              set_option maxRecDepth 20000 in go_wp2_with fail
              go_ret
              exact Did.mk (by first | rfl | simp) K7.out.2
            · skip
              by_cases h2 : y.r = -2
              · skip
                have q1 : (x.r != -2) = true := by simp [h1]
                have q2 : (y.r != -2) = false := by simp [h2]
                clear h1 h2 Hnk
                obtain ⟨mg0, mg1, mg2⟩ := K6.out.gr (B := P) (g := g) (by simp)
                obtain ⟨mx0, mx1, mx2, mx3, mx4⟩ := K6.out.sp (B := Q) (x := x) (by simp)
                obtain ⟨my0, my1, my2, my3, my4⟩ := K6.out.sp (B := R) (x := y) (by simp)
                set_option maxRecDepth 20000 in go_wp2_with fail
                refine (HH.out _ (HT.out.next K6.out.2)).mono ?_
                rintro e Y7 ⟨rfl, bz⟩
                have K7 := hid (K6.out.next bz)
                clear bz K6
                set_option maxRecDepth 20000 in go_wp2_with fail
                go_ret
                exact Did.mk (by first | rfl | simp) K7.out.2
              · skip
                have hp : plB x y = true := by unfold plB; simp [h1, h2]
                have q1 : (x.r == -2) = false := by simp [h1]
                have q2 : (y.r == -2) = false := by simp [h2]
                by_cases hw : k = 14 ∧ walk < 0
                · skip
                  obtain ⟨h14, hneg⟩ := hw
                  have q14 : (k == 14) = true := by simp [h14]
                  clear Hnk h14
                  generalize prN g k n x y walk = q at *
                  generalize prH g k n x y walk = p at *
                  generalize knB k = kn at *
                  obtain ⟨mg0, mg1, mg2⟩ := K6.out.gr (B := P) (g := g) (by simp)
                  obtain ⟨mx0, mx1, mx2, mx3, mx4⟩ := K6.out.sp (B := Q) (x := x) (by simp)
                  obtain ⟨my0, my1, my2, my3, my4⟩ := K6.out.sp (B := R) (x := y) (by simp)
                  set_option maxRecDepth 20000 in go_wp2_with fail
                  refine (NS.out _ (HT.out.next K6.out.2)).mono ?_
                  rintro e Y7 ⟨rfl, bz⟩
                  have K7 := hid (K6.out.next bz)
                  clear mg0 mg1 mg2 mx0 mx1 mx2 mx3 mx4 my0 my1 my2 my3 my4
                  clear bz K6
                  set_option maxRecDepth 20000 in go_wp2_with fail
                  refine (KN.out _).mono ?_
                  rintro e Y8 ⟨rfl, bz⟩
                  have K8 := hid (K7.out.next bz)
                  clear bz K7
                  cases kn with
                  | false =>
                    cases q with
                    | false =>
                      set_option maxRecDepth 20000 in go_wp2_with fail
                      refine (HH.out _ (HT.out.next K8.out.2)).mono ?_
                      rintro e Y9 ⟨rfl, bz⟩
                      have K9 := hid (K8.out.next bz)
                      clear bz K8
                      set_option maxRecDepth 20000 in go_wp2_with fail
                      go_ret
                      exact Did.mk (by first | rfl | simp) K9.out.2
                    | true =>
                      set_option maxRecDepth 20000 in go_wp2_with fail
                      refine (HH.out _ (HT.out.next K8.out.2)).mono ?_
                      rintro e Y9 ⟨rfl, bz⟩
                      have K9 := hid (K8.out.next bz)
                      clear bz K8
                      set_option maxRecDepth 20000 in go_wp2_with fail
                      go_ret
                      exact Did.mk (by first | rfl | simp) K9.out.2
                  | true =>
                    obtain ⟨mg0, mg1, mg2⟩ := K8.out.gr (B := P) (g := g) (by simp)
                    obtain ⟨mx0, mx1, mx2, mx3, mx4⟩ := K8.out.sp (B := Q) (x := x) (by simp)
                    obtain ⟨my0, my1, my2, my3, my4⟩ := K8.out.sp (B := R) (x := y) (by simp)
                    set_option maxRecDepth 20000 in go_wp2_with fail
                    refine (HS.out _ (HT.out.next K8.out.2)).mono ?_
                    rintro e Y9 ⟨rfl, bz⟩
                    have K9 := hid (K8.out.next bz)
                    clear mg0 mg1 mg2 mx0 mx1 mx2 mx3 mx4 my0 my1 my2 my3 my4
                    clear bz K8
                    cases q with
                    | false =>
                      cases p with
                      | false =>
                        set_option maxRecDepth 20000 in go_wp2_with fail
                        refine (HH.out _ (HT.out.next K9.out.2)).mono ?_
                        rintro e Y10 ⟨rfl, bz⟩
                        have K10 := hid (K9.out.next bz)
                        clear bz K9
                        set_option maxRecDepth 20000 in go_wp2_with fail
                        go_ret
                        exact Did.mk (by first | rfl | simp) K10.out.2
                      | true =>
                        set_option maxRecDepth 20000 in go_wp2_with fail
                        refine (HH.out _ (HT.out.next K9.out.2)).mono ?_
                        rintro e Y10 ⟨rfl, bz⟩
                        have K10 := hid (K9.out.next bz)
                        clear bz K9
                        set_option maxRecDepth 20000 in go_wp2_with fail
                        go_ret
                        exact Did.mk (by first | rfl | simp) K10.out.2
                    | true =>
                      cases p with
                      | false =>
                        set_option maxRecDepth 20000 in go_wp2_with fail
                        refine (HH.out _ (HT.out.next K9.out.2)).mono ?_
                        rintro e Y10 ⟨rfl, bz⟩
                        have K10 := hid (K9.out.next bz)
                        clear bz K9
                        set_option maxRecDepth 20000 in go_wp2_with fail
                        go_ret
                        exact Did.mk (by first | rfl | simp) K10.out.2
                      | true =>
                        set_option maxRecDepth 20000 in go_wp2_with fail
                        refine (HH.out _ (HT.out.next K9.out.2)).mono ?_
                        rintro e Y10 ⟨rfl, bz⟩
                        have K10 := hid (K9.out.next bz)
                        clear bz K9
                        set_option maxRecDepth 20000 in go_wp2_with fail
                        go_ret
                        exact Did.mk (by first | rfl | simp) K10.out.2
                · skip
                  have hw2 : k = 14 → 0 ≤ walk := fun h => Int.not_lt.1 fun h2 => hw ⟨h, h2⟩
                  rw [Hnk.out Hxw.out Hyw.out hp hw2] at NS
                  clear Hnk hw hw2
                  generalize prH g k n x y walk = p at *
                  generalize knB k = kn at *
                  obtain ⟨mg0, mg1, mg2⟩ := K6.out.gr (B := P) (g := g) (by simp)
                  obtain ⟨mx0, mx1, mx2, mx3, mx4⟩ := K6.out.sp (B := Q) (x := x) (by simp)
                  obtain ⟨my0, my1, my2, my3, my4⟩ := K6.out.sp (B := R) (x := y) (by simp)
                  set_option maxRecDepth 20000 in go_wp2_with fail
                  refine (NS.out _ (HT.out.next K6.out.2)).mono ?_
                  rintro e Y7 ⟨rfl, bz⟩
                  have K7 := hid (K6.out.next bz)
                  clear mg0 mg1 mg2 mx0 mx1 mx2 mx3 mx4 my0 my1 my2 my3 my4
                  clear bz K6
                  set_option maxRecDepth 20000 in go_wp2_with fail
                  refine (KN.out _).mono ?_
                  rintro e Y8 ⟨rfl, bz⟩
                  have K8 := hid (K7.out.next bz)
                  clear bz K7
                  cases kn with
                  | false =>
                    set_option maxRecDepth 20000 in go_wp2_with fail
                    refine (HH.out _ (HT.out.next K8.out.2)).mono ?_
                    rintro e Y9 ⟨rfl, bz⟩
                    have K9 := hid (K8.out.next bz)
                    clear bz K8
                    set_option maxRecDepth 20000 in go_wp2_with fail
                    go_ret
                    exact Did.mk (by first | rfl | simp) K9.out.2
                  | true =>
                    obtain ⟨mg0, mg1, mg2⟩ := K8.out.gr (B := P) (g := g) (by simp)
                    obtain ⟨mx0, mx1, mx2, mx3, mx4⟩ := K8.out.sp (B := Q) (x := x) (by simp)
                    obtain ⟨my0, my1, my2, my3, my4⟩ := K8.out.sp (B := R) (x := y) (by simp)
                    set_option maxRecDepth 20000 in go_wp2_with fail
                    refine (HS.out _ (HT.out.next K8.out.2)).mono ?_
                    rintro e Y9 ⟨rfl, bz⟩
                    have K9 := hid (K8.out.next bz)
                    clear mg0 mg1 mg2 mx0 mx1 mx2 mx3 mx4 my0 my1 my2 my3 my4
                    clear bz K8
                    cases p with
                    | false =>
                      set_option maxRecDepth 20000 in go_wp2_with fail
                      refine (HH.out _ (HT.out.next K9.out.2)).mono ?_
                      rintro e Y10 ⟨rfl, bz⟩
                      have K10 := hid (K9.out.next bz)
                      clear bz K9
                      set_option maxRecDepth 20000 in go_wp2_with fail
                      go_ret
                      exact Did.mk (by first | rfl | simp) K10.out.2
                    | true =>
                      set_option maxRecDepth 20000 in go_wp2_with fail
                      refine (HH.out _ (HT.out.next K9.out.2)).mono ?_
                      rintro e Y10 ⟨rfl, bz⟩
                      have K10 := hid (K9.out.next bz)
                      clear bz K9
                      set_option maxRecDepth 20000 in go_wp2_with fail
                      go_ret
                      exact Did.mk (by first | rfl | simp) K10.out.2

theorem lift_and_shaped {H : Type} {enc : TypeId × Value → H} {a : Assume} {C : Checked} {os : Os} {f : FuncId} {fn : Func} {s : ChangeSpec} {conds : List PathCond} {apart fresh handsOn again : Bool} {X : World → Array Value → Prop}
    (hX : ∀ (w w' : World) (args : Array Value), w.heap = w'.heap → X w args → X w' args)
    (own : ownKnob C.prog.godebug = none) (started : os.Started) (noInit : C.prog.inits.idxOf? f = none) (hfn : C.prog.funcs[f]? = some fn)
    (witness : ∃ (w : World) (tape : Tape) (i : Input), w.os = os ∧ (w.forCall tape i).Shaped C.prog ∧ i.vars = [] ∧ Input.okWide C.prog (w.forCall tape i) .any w.heap.size f i ∧
      ((s.pre enc C.prog fn conds apart (w.forCall tape i).memory i.args ∧ X (w.forCall tape i).memory i.args) ∧ sizedMet enc C.prog fn (OpenSpec.ofChange s) apart (w.forCall tape i).memory i.args) ∧ a.holds C.prog (lone (Frame.enter C.prog f i.args .normal) [] (w.forCall tape i)))
    (contract : ∀ (W : World) (base : Nat) (args : Array Value) (ds gs : List (DataW H)) (before : List MemPlace),
      (∀ (j : Nat) t v, fn.params[j]? = some t → args[j]? = some v → Value.okWide C.prog W .any base t v) →
      DataW.Whole enc C.prog fn.params.toList s.vars apart W args.toList ds gs before → W.ShapedOpen C.prog → X W args →
      Calls C.prog f args W fun e W' => ∃ v, e = .returned v ∧ s.post enc C.prog fn apart fresh handsOn again W args v W') :
    ReturnsInHanded a C os f .any (fun w args => (s.pre enc C.prog fn conds apart w args ∧ X w args) ∧ sizedMet enc C.prog fn (OpenSpec.ofChange s) apart w args) (s.post enc C.prog fn apart fresh handsOn again) := by
  refine returnsInHanded_of_calls own started noInit witness ?_
  intro w tape i _ hsh _ hok hpre hholds
  obtain ⟨_, _, _, fn', hfn', _, _, _, _, hval⟩ := hok
  have e : fn' = fn := Option.some.inj (hfn'.symm.trans hfn)
  subst e
  obtain ⟨⟨⟨ds, gs, before, hw, hc⟩, hx⟩, hz⟩ := hpre
  have hw' := DataW.Whole.of_heap (w' := w.forCall tape i) (by rfl) hw
  refine (contract (w.forCall tape i) w.heap.size i.args ds gs before hval hw' hsh (hX _ _ _ (by rfl) hx)).mono fun e W' ⟨v, he, hp⟩ => ?_
  subst he
  exact ChangeSpec.post_blind hp

/-! ### THE ROW's STEP: WRITTEN OUT: LEAVE IT -/
set_option maxRecDepth 100000 in
theorem lifted (os : Os) (started : os.Started) (H : Type) (enc : TypeId × Value → H) :
    ReturnsInHanded {} Tryd.checked os 4 .any (fun w args => (Rows.pairNeverSpec.pre enc Tryd.prog Tryd.f4 Rows.pairNeverRow.domain false w args ∧ laidMetH Tryd.prog Rows.pairNeverRow.laid w) ∧ sizedMet enc Tryd.prog Tryd.f4 (OpenSpec.ofChange Rows.pairNeverSpec) false w args)
      (Rows.pairNeverSpec.post enc Tryd.prog Tryd.f4 false true false false) := by
  refine lift_and_shaped (C := Tryd.checked) (X := fun w _ => laidMetH Tryd.prog Rows.pairNeverRow.laid w) (fun _ _ _ hh h => h.of_heap hh) own started (by kernel_rfl) Tryd.func4
    (ChangeSpec.witness_shaped (enc := enc) (C := Tryd.checked) (os := os) (X := fun w _ => laidMetH Tryd.prog Rows.pairNeverRow.laid w) false (World.laidAll Tryd.prog os Rows.pairNeverRow.laid) #[.agg #[.int .i64 0, .int .i64 0, .int .i64 0], .int .i64 0, .int .i64 0, .agg #[.int .u32 0, .int .u8 0, .int .i64 0, .int .i64 0, .int .i64 0], .agg #[.int .u32 0, .int .u8 0, .int .i64 0, .int .i64 0, .int .i64 0], .int .i64 0] 8 (World.laidAll_os _ _ _)
      (World.shaped_of_ZipB (by kernel_rfl) (by kernel_rfl)) (by kernel_rfl) (by kernel_rfl) (by kernel_rfl)
      (by rw [MakeChecks.laidMetH_plain _ _ _ (by kernel_rfl)]; exact laidMet_laidAll _ (by kernel_rfl) (by kernel_rfl))) ?_
  intro W base args ds gs before hval0 hW hsh hL
  have hval : ∀ (j : Nat) t v, Tryd.f4.params[j]? = some t → args[j]? = some v → Value.okWide Tryd.prog W .any base t v := hval0
  have hW' := hW
  obtain ⟨p, q, hA0, hV, rfl, hfz, hnd⟩ := hW
  have hA : DataW.TrodAll enc Tryd.prog W 0 (fun _ => true) true Tryd.f4.params.toList args.toList ds p := hA0
  rw [Tryd.params4] at hA hval
  obtain ⟨v0, vs0, d0, ds0, p0, q0, hargs, rfl, rfl, h0, r0⟩ := trodAll_cons hA
  obtain ⟨v1, vs1, d1, ds1, p1, q1, rfl, rfl, rfl, h1, r1⟩ := trodAll_cons r0
  obtain ⟨v2, vs2, d2, ds2, p2, q2, rfl, rfl, rfl, h2, r2⟩ := trodAll_cons r1
  obtain ⟨v3, vs3, d3, ds3, p3, q3, rfl, rfl, rfl, h3, r3⟩ := trodAll_cons r2
  obtain ⟨v4, vs4, d4, ds4, p4, q4, rfl, rfl, rfl, h4, r4⟩ := trodAll_cons r3
  obtain ⟨v5, vs5, d5, ds5, p5, q5, rfl, rfl, rfl, h5, r5⟩ := trodAll_cons r4
  obtain ⟨rfl, rfl, rfl⟩ := trodAll_nil r5
  obtain rfl : args = #[v0, v1, v2, v3, v4, v5] := by cases args; simp_all
  obtain ⟨rfl, rfl⟩ := trodVars_none hV
  have k0 := h0
  have lt0 : ∀ x ∈ p0, x.block < W.heap.size := by obtain ⟨m, hm⟩ := k0; exact DataW.trod_lt m _ _ _ hm
  obtain ⟨a0, rfl, w0⟩ := open_gr (hval 0 23 v0 rfl rfl) h0
  obtain ⟨a1, rfl, rfl, rfl, w1⟩ := open_int Tryd.underlying24 (hval 1 24 v1 rfl rfl) h1
  obtain ⟨a2, rfl, rfl, rfl, w2⟩ := open_int Tryd.underlying3 (hval 2 3 v2 rfl rfl) h2
  have k3 := h3
  have lt3 : ∀ x ∈ p3, x.block < W.heap.size := by obtain ⟨m, hm⟩ := k3; exact DataW.trod_lt m _ _ _ hm
  obtain ⟨a3, rfl, w3⟩ := open_spot (hval 3 29 v3 rfl rfl) h3
  have k4 := h4
  have lt4 : ∀ x ∈ p4, x.block < W.heap.size := by obtain ⟨m, hm⟩ := k4; exact DataW.trod_lt m _ _ _ hm
  obtain ⟨a4, rfl, w4⟩ := open_spot (hval 4 29 v4 rfl rfl) h4
  obtain ⟨a5, rfl, rfl, rfl, w5⟩ := open_int Tryd.underlying3 (hval 5 3 v5 rfl rfl) h5
  clear hA0 hval0
  have hT : Tbn W := tbn_of hL
  refine (walk a0 a1 a2 a3 a4 a5 W w0 w1 w2 w3 w4 w5 hT).mono fun e W' ⟨he, bel⟩ => ?_
  subst he
  exact ⟨_, rfl, _, _, _, [], _, [], hW', trodAll_mk1 (shut_bool Tryd.underlying4 _), (trodAll_cons_mk (Below.trod laidOut (by kernel_rfl) (of_decide_eq_true (by kernel_rfl)) k0 bel lt0) (trodAll_cons_mk (shut_int Tryd.underlying24 w1) (trodAll_cons_mk (shut_int Tryd.underlying3 w2) (trodAll_cons_mk (Below.trod laidOut (by kernel_rfl) (of_decide_eq_true (by kernel_rfl)) k3 bel lt3) (trodAll_cons_mk (Below.trod laidOut (by kernel_rfl) (of_decide_eq_true (by kernel_rfl)) k4 bel lt4) (trodAll_cons_mk (shut_int Tryd.underlying3 w5) trodAll_mk0)))))), rfl, bel.frame _, fun h => by cases h⟩

theorem over : Rows.pairNeverRow.holds Tryd.pinned (OpenSpec.ofChange Rows.pairNeverSpec) :=
  OpenClaim.holds_of_wide 4 Tryd.f4 rfl rfl rfl rfl rfl rfl rfl ⟨rfl, rfl, rfl, rfl, rfl⟩ rfl rfl rfl rfl rfl (by kernel_rfl) Tryd.func4 (by kernel_rfl)
    (of_decide_eq_true (by kernel_rfl)) (by unfold Func.isWrapper; first | (rw [if_pos (by decide +kernel)]; kernel_rfl) | (rw [if_neg (by decide +kernel)]; exact ⟨rfl, rfl⟩))
    (fun os started H enc _ => lifted os started H enc)

theorem proved : Rows.PairNeverCardSaid :=
  Claim7.holds_tied_plain_at .later [] [.data, .data] true (true, "bf37e17392dd6f2756c0075e89216da98ca2bfb72710cf31e5ecb243f2744dc4") false over (fun _ h => by cases h) (by kernel_rfl) (fun _ h => by cases h) pairNever_row_tie rfl ⟨rfl, rfl⟩ (by kernel_rfl) rfl
    (fun f fn hf hfn => by
      obtain rfl : f = 4 := Option.some.inj ((show Tryd.prog.funcNamed "horarium/horariumlaw15.PairNever" = some 4 by kernel_rfl).symm.trans hf) |>.symm
      obtain rfl : fn = Tryd.f4 := (Option.some.inj (Tryd.func4.symm.trans hfn)).symm
      exact ⟨by kernel_rfl, fun j t ht => by
        rw [Tryd.params4] at ht
        have hm : t ∈ [23, 24, 3, 29, 29, 3] := by simpa using Array.mem_of_getElem? ht
        have hall : ([23, 24, 3, 29, 29, 3].all fun u => !Tryd.prog.wantsStandIn u) = true := by kernel_rfl
        exact (show Tryd.prog.wantsStandIn t = false by simpa using List.all_eq_true.1 hall t hm)⟩)
    (by kernel_rfl)
#print axioms proved
end Go.Proofs.YtnhniajfnmdnnaaDoor.pairNever

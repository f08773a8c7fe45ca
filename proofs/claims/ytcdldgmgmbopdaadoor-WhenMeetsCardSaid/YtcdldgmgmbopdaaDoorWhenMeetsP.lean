/- Proves 'WhenMeetsCardSaid': for every input the Go function WhenMeets returns true, and each argument reads afterwards as it read before; the card ties the listed variables to the program's text. Conditions: none beyond the row's own (the listed variables of the library read as their text lays them). -/
import Derived.Test.YtcdldgmgmbopdaaDoorTie
import Derived.Test.YtcdldgmgmbopdaaDoorCards
import Derived.WalkKit
import Derived.ProofKit
import Derived.OpenShut
import Derived.ShutString
import Derived.SliceStrings
import Derived.ChangeOld
import Derived.Below
import Derived.LaidMore
import Derived.Lay
import Derived.SevenTiedAt
import Derived.Stop.Joined
import Derived.HandedShaped
import Derived.Test.YtcdldgmgmbopdaaDoorWhnI
namespace Go.Proofs.YtcdldgmgmbopdaaDoor.whenMeets
open Go.ChangeShapes Go.WideShapes Go.ChangeAt Go.RowKit
open Go.ChangeMaps (open_string shut_string)
set_option linter.unusedVariables false

theorem own : ownKnob Tryd.prog.godebug = none := by kernel_rfl
theorem laidOut : laidOutB Tryd.prog = true := by kernel_rfl

/-- WHAT THE WALK IS TOLD OF A SLICE OF INTEGERS THAT CAME IN: it is nil; or it leads to a row of 'cap' cells, the numbers 'zs' (the first 'len' are its elements, the rest its spare room), each fitting its kind. -/
def IsRow (k : IntKind) (w : World) (a : Option Addr) (len cap : Nat) (zs : List Int) : Prop :=
  (a = none ∧ len = 0 ∧ cap = 0 ∧ zs = []) ∨
  ∃ x, a = some x ∧ len ≤ cap ∧ cap ≤ maxLen ∧ zs.length = cap ∧ (∀ i, i < zs.length → w.cell? (x.add i) = some (.int k (zs.getD i 0))) ∧ ∀ n ∈ zs, (Lit.int k n).wf = true

/-- the shared ones among the first k -/
def shp (x y : List Int) (k : Nat) : List Int := (x.take k).filter fun m => decide (m ∈ y)
theorem shp_succ (x y : List Int) (k : Nat) (m : Int) (h : x[k]? = some m) : shp x y (k + 1) = shp x y k ++ (if decide (m ∈ y) = true then [m] else []) := by
  unfold shp
  rw [List.take_add_one, h, List.filter_append]
  congr 1
  show List.filter _ [m] = _
  rw [List.filter_cons, List.filter_nil]
theorem shp_all (x y : List Int) : shp x y x.length = Whn.shared x y := by
  unfold shp Whn.shared
  rw [List.take_length]
theorem shp_len (x y : List Int) (k : Nat) : (shp x y k).length ≤ x.length := by
  unfold shp
  refine Nat.le_trans (List.length_filter_le _ _) ?_
  rw [List.length_take]
  exact Nat.min_le_right _ _
theorem wok_share {g : Whn.Gr} {a b : Whn.Wh} (ha : Wok a) (h : Whn.right g (Whn.share a b) = true) : Wok (Whn.share a b) := by
  obtain ⟨h0, _, _, h1, h2, h3, _⟩ := (Whn.right_iff _ _).1 h
  have hg := (Whn.rgrid_iff g).1 h0
  refine ⟨Nat.lt_of_le_of_lt Nat.and_le_left ha.1, Nat.lt_of_le_of_lt Nat.and_le_left ha.2.1, ?_, ?_⟩ <;> unfold I64 <;> omega

/-! ### STEP 1: THE WALK: the Go text returns true, AND WRITES NOTHING THAT WAS THERE: 'Below w.heap.size w w'' (Derived/Below.lean: '.refl', '.alloc', '.drew', '.setCell' at a new block, '.trans'). Open each 'IsRow' by 'rcases' AHEAD of 'go_enter'; part every test ahead of the walk. -/
set_option maxHeartbeats 16000000 in
theorem walk (a0 : Whn.Gr) (a1 : Whn.Wh) (a2 : Whn.Wh) (w : World) (w0 : Gok a0) (w1 : Wok a1) (w2 : Wok a2) (hT : Tab w) :
    Calls Tryd.prog 3 #[gv a0, wv a1, wv a2] w fun e w' => e = .returned (.bool true) ∧ Below w.heap.size w w' := by
  have H1 := hid (fun w => p_Right a0 a1 w1 w)
  have H2 := hid (fun w => p_Right a0 a2 w2 w)
  have HH := hid heads
  have HT := hid hT
  obtain ⟨A, W, hA, hW, K, hk0⟩ := (Mem.nil w).one (gc a0) 23
  obtain ⟨B, V, hB, hV, K1, hk1⟩ := K.out.one (wc a1) 26
  obtain ⟨C, U, hC, hU, K2, hk2⟩ := K1.out.one (wc a2) 26
  obtain ⟨q0, q1, q2⟩ := K2.out.gr (B := A) (g := a0) (by simp)
  obtain ⟨c0, c1, c2, c3⟩ := K2.out.wh (B := B) (x := a1) (by simp)
  obtain ⟨d0, d1, d2, d3⟩ := K2.out.wh (B := C) (x := a2) (by simp)
  clear K K1 hk0 hk1 hk2 hT
  cases hR1 : Whn.right a0 a1 with
  | false =>
    rw [hR1] at H1
    clear hR1
    go_enter Tryd.func3, Tryd.ntmps3
    go_wp2_with fail
    refine (H1.out _).mono ?_
    rintro e Y1 ⟨rfl, b1⟩
    have K3 := K2.out.next b1
    clear q0 q1 q2 c0 c1 c2 c3 d0 d1 d2 d3
    obtain ⟨q0, q1, q2⟩ := K3.gr (B := A) (g := a0) (by simp)
    obtain ⟨c0, c1, c2, c3⟩ := K3.wh (B := B) (x := a1) (by simp)
    obtain ⟨d0, d1, d2, d3⟩ := K3.wh (B := C) (x := a2) (by simp)
    go_wp2_with fail
    refine (HH.out _ (HT.out.next K3.2)).mono ?_
    rintro e Y9 ⟨rfl, b9⟩
    go_wp2_with fail
    go_ret
    exact ⟨rfl, (K3.next b9).2⟩
  | true =>
    rw [hR1] at H1
    cases hR2 : Whn.right a0 a2 with
    | false =>
      rw [hR2] at H2
      clear hR1 hR2
      go_enter Tryd.func3, Tryd.ntmps3
      go_wp2_with fail
      refine (H1.out _).mono ?_
      rintro e Y1 ⟨rfl, b1⟩
      have K3 := K2.out.next b1
      clear q0 q1 q2 c0 c1 c2 c3 d0 d1 d2 d3
      obtain ⟨q0, q1, q2⟩ := K3.gr (B := A) (g := a0) (by simp)
      obtain ⟨c0, c1, c2, c3⟩ := K3.wh (B := B) (x := a1) (by simp)
      obtain ⟨d0, d1, d2, d3⟩ := K3.wh (B := C) (x := a2) (by simp)
      go_wp2_with fail
      refine (H2.out _).mono ?_
      rintro e Y2 ⟨rfl, b2⟩
      have K4 := K3.next b2
      go_wp2_with fail
      refine (HH.out _ (HT.out.next K4.2)).mono ?_
      rintro e Y9 ⟨rfl, b9⟩
      go_wp2_with fail
      go_ret
      exact ⟨rfl, (K4.next b9).2⟩
    | true =>
      rw [hR2] at H2
      have H3 := hid (fun w => p_Moments a0 a1 w1 w)
      have H4 := hid (fun w => p_Moments a0 a2 w2 w)
      unfold ItRet at H3 H4
      have H5 := hid (fun w => p_Both a1 a2 w1 w2 w)
      have H6 := hid (fun w => p_Meet a1 a2 w1 w2 w)
      have H7 := hid (fun w => p_Meet a2 a1 w2 w1 w)
      rw [Whn.meet_comm a2 a1] at H7
      have H8 := hid (fun w => p_Covers a1 a2 w1 w2 w)
      have Hsm := hid (Whn.shared_meet hR1 hR2)
      have Hsc := hid (Whn.share_cover hR1 hR2)
      have Hsh := hid (fun (h : Whn.meet a1 a2 = true) => And.intro (Whn.right_share hR1 hR2 h) (Whn.shared_share hR1 hR2 h))
      have Hw1 := hid w1
      have hl1 := Whn.moments_len a0 a1
      have hl2 := Whn.moments_len a0 a2
      generalize Whn.moments a0 a1 = x at *
      generalize Whn.moments a0 a2 = y at *
      have HA := hid (fun (A : Option Addr) (c : Nat) (v : Int) (X : World) (B : Nat) (h : Its X B A y) => p_has A y.length c y rfl (by unfold maxLen; omega) v X B h)
      obtain ⟨i0, hi0, hz0, hz1, hz2⟩ := info_parts Tryd.info_int
      clear hR1 hR2 w0 w1 w2
      go_enter Tryd.func3, Tryd.ntmps3
      go_wp2_with fail
      refine (H1.out _).mono ?_
      rintro e Y1 ⟨rfl, b1⟩
      have K3 := K2.out.next b1
      clear q0 q1 q2 c0 c1 c2 c3 d0 d1 d2 d3
      obtain ⟨q0, q1, q2⟩ := K3.gr (B := A) (g := a0) (by simp)
      obtain ⟨c0, c1, c2, c3⟩ := K3.wh (B := B) (x := a1) (by simp)
      obtain ⟨d0, d1, d2, d3⟩ := K3.wh (B := C) (x := a2) (by simp)
      go_wp2_with fail
      refine (H2.out _).mono ?_
      rintro e Y2 ⟨rfl, b2⟩
      have KA := (K3.next b2).drew
      have H3x := H3
      clear q0 q1 q2 c0 c1 c2 c3 d0 d1 d2 d3
      have hS2 := And.intro (KA.gr (B := A) (g := a0) (by simp)) (And.intro (KA.wh (B := B) (x := a1) (by simp)) (KA.wh (B := C) (x := a2) (by simp)))
      clear K3 b1 b2
      go_wp2_with fail
      go_region_held3 (fun X => (X.cell? ⟨A, 0, none⟩ = some (.int .i64 a0.w) ∧ X.cell? ⟨A, 1, none⟩ = some (.int .i64 a0.d) ∧ X.cell? ⟨A, 2, none⟩ = some (.int .i64 a0.s)) ∧ ((X.cell? ⟨B, 0, none⟩ = some (.int .u32 (a1.w : Int)) ∧ X.cell? ⟨B, 1, none⟩ = some (.int .u8 (a1.d : Int)) ∧ X.cell? ⟨B, 2, none⟩ = some (.int .i64 a1.s) ∧ X.cell? ⟨B, 3, none⟩ = some (.int .i64 a1.l)) ∧ (X.cell? ⟨C, 0, none⟩ = some (.int .u32 (a2.w : Int)) ∧ X.cell? ⟨C, 1, none⟩ = some (.int .u8 (a2.d : Int)) ∧ X.cell? ⟨C, 2, none⟩ = some (.int .i64 a2.s) ∧ X.cell? ⟨C, 3, none⟩ = some (.int .i64 a2.l)))) (exact hS2) (first
        | (go_at_call 10; refine (H3x.out _).mono ?_; rintro e Y5 ⟨A5, n5, rfl, i5, b5⟩; have KA := KA.next b5; have hS2 := And.intro (KA.gr (B := A) (g := a0) (by simp)) (And.intro (KA.wh (B := B) (x := a1) (by simp)) (KA.wh (B := C) (x := a2) (by simp))); clear H3x)
        | (go_at_call 10; refine (H4.out _).mono ?_; rintro e Y6 ⟨A6, n6, rfl, i6, b6⟩; have KA := KA.next b6; have hS2 := And.intro (KA.gr (B := A) (g := a0) (by simp)) (And.intro (KA.wh (B := B) (x := a1) (by simp)) (KA.wh (B := C) (x := a2) (by simp)))))
      have J5 := hid (its_next i5 b6)
      have J6 := hid i6
      have KB := hid KA
      obtain ⟨n0, hn0⟩ : ∃ n0, Y6.heap.size = n0 := ⟨_, rfl⟩
      rw [hn0] at J5 J6
      have Hn0 := hid hn0
      clear i5 i6 b5 b6 KA hS2 hn0
      go_wp2_with fail
      go_loopw [9, 10] (fun lv iv wr => ∃ k : Nat, iv = .int .i64 k ∧ k ≤ x.length ∧ Hid (wr.ownsRow n0 3 1 lv (shp x y k).length ((shp x y k).map (Value.int .i64))) ∧ Hid (Below n0 Y6 wr)) (fun _ iv _ => x.length - (intOf iv).toNat)
      case atStart => exact ⟨0, rfl, Nat.zero_le _, hid ⟨rfl, .inl ⟨rfl, rfl⟩⟩, hid (Below.refl _ _)⟩
      case round =>
        obtain ⟨k, rfl, hk, HO, HBl⟩ := hrel
        have i5 := J5.out.below HBl.out (Nat.le_refl _)
        have i6 := J6.out.below HBl.out (Nat.le_refl _)
        have hB4 : n0 ≤ wr.heap.size := by have h := HBl.out.size; rw [Hn0.out] at h; exact h
        have hsl := shp_len x y k
        by_cases hlt : k < x.length
        · obtain ⟨ad, v, rfl, _, Hv, hc⟩ := Its.get i5 hlt
          have p1 : (0 : Int) ≤ (k : Int) := by omega
          have p2 : (k : Int) < x.length := by omega
          have HC := hid (HA.out A6 n6 v wr n0 i6)
          have Hs := hid (shp_succ x y k v Hv.out)
          obtain ⟨L, hL⟩ : ∃ L, shp x y k = L := ⟨_, rfl⟩
          rw [hL] at HO Hs hsl
          have hn3 : L.length + 1 ≤ maxLen := by unfold maxLen; omega
          have hn4 : (L.length + 1) * 8 ≤ 140737488355328 := by omega
          clear i5 i6 hL H1 H2 H3 H4 H5 H6 H7 H8 Hsm Hsc Hsh
          cases hm : decide (v ∈ y) with
          | true =>
            rw [hm] at HC
            rw [hm, if_pos rfl] at Hs
            clear hm
            go_wp2_with fail
            refine (HC.out).mono ?_
            rintro e w' ⟨rfl, rfl⟩
            go_wp2_with (at_builtin; refine wpList_append_own _ rfl _ _ 29 rfl n0 3 i0 (.int .i64 0) 1 8 Tryd.underlying29 hi0 hz0 hz1 hz2 rfl (by decide) _ _ _ rfl (HO.out.alloc _) ⟨_, 0, none⟩ 1 1 [.int .i64 _] rfl rfl (lit_one _ _ _) (int_one _ _) hn3 hn4 (le_alloc hB4 _) ?_; intro v1 w5 hown2 hgrow _)
            have bb : Below n0 wr w5 := ((Below.refl n0 wr).alloc hB4 _).grown hgrow (le_alloc hB4 _) (fun k hk => (HO.out.lt k hk).1)
            refine ⟨⟨k + 1, by go_num, by omega, ?_, hid (HBl.out.trans bb)⟩, by simp [intOf]; omega⟩
            rw [Hs.out, List.length_append, List.map_append]
            exact hid hown2
          | false =>
            rw [hm] at HC
            rw [hm, if_neg (by decide), List.append_nil] at Hs
            clear hm
            go_wp2_with fail
            refine (HC.out).mono ?_
            rintro e w' ⟨rfl, rfl⟩
            go_wp2_with fail
            exact ⟨⟨k + 1, by go_num, by omega, by rw [Hs.out]; exact HO, HBl⟩, by simp [intOf]; omega⟩
        · obtain rfl : k = x.length := by omega
          rw [shp_all] at HO
          obtain ⟨A9, c9, rfl, hr9, hc9⟩ := own_rd HO.out
          have KM : Mem w wr [(C, wc a2, 26), (B, wc a1, 26), (A, gc a0, 23)] := KB.out.next (by rw [Hn0.out]; exact HBl.out)
          have hll : (Whn.shared x y).length ≤ 13440 := by rw [← shp_all]; have := shp_len x y x.length; omega
          generalize Whn.shared x y = L at *
          have t1 : decide ((0 : Int) < (L.length : Int)) = Whn.meet a1 a2 := by
            rw [Hsm.out, Bool.eq_iff_iff, decide_eq_true_iff, decide_eq_true_iff]
            omega
          have t2 : ((L.length : Int) == (y.length : Int)) = Whn.covers a1 a2 := by
            rw [Hsc.out, Bool.eq_iff_iff, beq_iff_eq, decide_eq_true_iff]
            omega
          have t1b : decide (0 < L.length) = Whn.meet a1 a2 := by
            rw [Hsm.out]
          have t2b : decide (L.length = y.length) = Whn.covers a1 a2 := by
            rw [Hsc.out]
          unfold bothV at H5
          have HI := hid (fun (A A' : Option Addr) (c c' : Nat) (X : World) (h : Its X X.heap.size A L) (h' : Its X X.heap.size A' L) => show Calls Tryd.prog 15 #[.slice A L.length c, .slice A' L.length c'] X (BoolDraw true X) from (decide_eq_true (rfl : L = L)) ▸ p_Ints A A' L.length L.length c c' L L rfl rfl X X.heap.size X.heap.size h h' (by unfold maxLen; omega))
          unfold BoolDraw at HI
          have Hcv := hid (fun (h : Whn.meet a1 a2 = false) => show Whn.covers a1 a2 = false by unfold Whn.covers; rw [h]; rfl)
          generalize Whn.covers a1 a2 = cv at *
          have HO9 := hid hr9
          clear i5 i6 H1 H2 H3 H4 HA HO HBl Hsm Hsc hr9 hc9 hB4 hsl
          obtain ⟨q0, q1, q2⟩ := KM.gr (B := A) (g := a0) (by simp)
          obtain ⟨c0, c1, c2, c3⟩ := KM.wh (B := B) (x := a1) (by simp)
          obtain ⟨d0, d1, d2, d3⟩ := KM.wh (B := C) (x := a2) (by simp)
          cases hM : Whn.meet a1 a2 with
          | false =>
            rw [hM] at t1 t1b H5 H6 H7
            rw [show Whn.both a1 a2 = Whn.zero by unfold Whn.both; rw [hM]; rfl] at H5
            have H5 := hid (fun w => show Calls Tryd.prog 12 #[wv a1, wv a2] w (Did (.tuple #[.agg #[.int .u32 0, .int .u8 0, .int .i64 0, .int .i64 0], .bool false]) w) from H5.out w)
            have HMf := hid hM
            clear hM Hsh HI HO9
            go_wp2_with fail
            refine (H5.out _).mono ?_
            rintro e Z1 ⟨rfl, z1⟩
            have KN := KM.next z1
            obtain ⟨D, T0, hD, hT, KP0, hkp⟩ := KN.one zl 26
            have hDD : w.heap.size ≤ D ∧ A < D ∧ B < D ∧ C < D := by
              have r1 := (KN.at_ (b := A) (cs := gc a0) (t := 23) (by simp)).lt
              have r2 := (KN.at_ (b := B) (cs := wc a1) (t := 26) (by simp)).lt
              have r3 := (KN.at_ (b := C) (cs := wc a2) (t := 26) (by simp)).lt
              have r4 := KN.2.size
              omega
            have hneD : ∀ p ∈ [(C, wc a2, 26), (B, wc a1, 26), (A, gc a0, 23)], p.1 ≠ D := by
              intro p hp
              simp only [List.mem_cons, List.not_mem_nil, or_false] at hp
              rcases hp with rfl | rfl | rfl
              · show C ≠ D; omega
              · show B ≠ D; omega
              · show A ≠ D; omega
            have hO := KP0.out.at_ (b := D) (cs := zl) (t := 26) (by simp)
            have f0 := hO.free 0
            have f1 := hO.free 1
            have f2 := hO.free 2
            have f3 := hO.free 3
            have g0' := hO.cell (k := 0) rfl
            have g1' := hO.cell (k := 1) rfl
            have g2' := hO.cell (k := 2) rfl
            have g3' := hO.cell (k := 3) rfl
            have KP1 := KP0.out.four hDD.1 hneD (.int .u32 0) (.int .u8 0) (.int .i64 0) (.int .i64 0)
            obtain ⟨T, hTT⟩ : ∃ T, (((T0.setCell ⟨D, 0, none⟩ (.int .u32 0)).setCell ⟨D, 1, none⟩ (.int .u8 0)).setCell ⟨D, 2, none⟩ (.int .i64 0)).setCell ⟨D, 3, none⟩ (.int .i64 0) = T := ⟨_, rfl⟩
            rw [hTT] at KP1
            have KP := hid KP1
            have hL0 : L = [] := by
              have h := of_decide_eq_false t1b
              exact List.eq_nil_of_length_eq_zero (by omega)
            subst hL0
            have hcv := Hcv.out HMf.out
            subst hcv
            have hy0 : ¬ (0 = y.length) := of_decide_eq_false t2b
            have hy1 : ((0 : Int) == (y.length : Int)) = false := by rw [beq_eq_false_iff_ne]; omega
            have hy2 : y.length ≠ 0 := by omega
            clear t2 t2b
            clear hDD hneD hO KP0 KP1 t1 t1b
            clear KM KN z1 hkp
            clear q0 q1 q2 c0 c1 c2 c3 d0 d1 d2 d3
            obtain ⟨q0, q1, q2⟩ := KP.out.gr (B := A) (g := a0) (by simp)
            obtain ⟨c0, c1, c2, c3⟩ := KP.out.wh (B := B) (x := a1) (by simp)
            obtain ⟨d0, d1, d2, d3⟩ := KP.out.wh (B := C) (x := a2) (by simp)
            obtain ⟨e0, e1, e2, e3⟩ := KP.out.l4 (B := D) (t := 26) (x0 := .int .u32 0) (x1 := .int .u8 0) (x2 := .int .i64 0) (x3 := .int .i64 0) (by simp)
            go_wp2_with fail
            refine (H6.out _).mono ?_
            rintro e Zz2 ⟨rfl, z2⟩
            have KQ := KP.out.next z2
            clear q0 q1 q2 c0 c1 c2 c3 d0 d1 d2 d3 e0 e1 e2 e3
            obtain ⟨q0, q1, q2⟩ := KQ.gr (B := A) (g := a0) (by simp)
            obtain ⟨c0, c1, c2, c3⟩ := KQ.wh (B := B) (x := a1) (by simp)
            obtain ⟨d0, d1, d2, d3⟩ := KQ.wh (B := C) (x := a2) (by simp)
            obtain ⟨e0, e1, e2, e3⟩ := KQ.l4 (B := D) (t := 26) (x0 := .int .u32 0) (x1 := .int .u8 0) (x2 := .int .i64 0) (x3 := .int .i64 0) (by simp)
            go_wp2_with fail
            refine (H7.out _).mono ?_
            rintro e Zz3 ⟨rfl, z3⟩
            have KR := KQ.next z3
            clear q0 q1 q2 c0 c1 c2 c3 d0 d1 d2 d3 e0 e1 e2 e3
            obtain ⟨q0, q1, q2⟩ := KR.gr (B := A) (g := a0) (by simp)
            obtain ⟨c0, c1, c2, c3⟩ := KR.wh (B := B) (x := a1) (by simp)
            obtain ⟨d0, d1, d2, d3⟩ := KR.wh (B := C) (x := a2) (by simp)
            obtain ⟨e0, e1, e2, e3⟩ := KR.l4 (B := D) (t := 26) (x0 := .int .u32 0) (x1 := .int .u8 0) (x2 := .int .i64 0) (x3 := .int .i64 0) (by simp)
            go_wp2_with fail
            refine (H8.out _).mono ?_
            rintro e Zz4 ⟨rfl, z4⟩
            have KS := KR.next z4
            clear q0 q1 q2 c0 c1 c2 c3 d0 d1 d2 d3 e0 e1 e2 e3
            obtain ⟨q0, q1, q2⟩ := KS.gr (B := A) (g := a0) (by simp)
            obtain ⟨c0, c1, c2, c3⟩ := KS.wh (B := B) (x := a1) (by simp)
            obtain ⟨d0, d1, d2, d3⟩ := KS.wh (B := C) (x := a2) (by simp)
            obtain ⟨e0, e1, e2, e3⟩ := KS.l4 (B := D) (t := 26) (x0 := .int .u32 0) (x1 := .int .u8 0) (x2 := .int .i64 0) (x3 := .int .i64 0) (by simp)
            go_wp2_with fail
            refine (HH.out _ (HT.out.next KS.2)).mono ?_
            rintro e Y9 ⟨rfl, b9⟩
            go_wp2_with fail
            go_ret
            exact ⟨rfl, (KS.next b9).2⟩
          | true =>
            rw [hM] at t1 t1b H5 H6 H7
            rw [show Whn.both a1 a2 = Whn.share a1 a2 by unfold Whn.both; rw [hM]; rfl] at H5
            obtain ⟨hrs, hms⟩ := Hsh.out hM
            have hws := wok_share Hw1.out hrs
            have H9 := hid (fun w => p_Right a0 (Whn.share a1 a2) hws w)
            have H10 := hid (fun w => p_Moments a0 (Whn.share a1 a2) hws w)
            rw [hrs] at H9
            unfold ItRet at H10
            rw [hms] at H10
            generalize Whn.share a1 a2 = c at *
            clear hM Hsh hrs hms hws
            go_wp2_with fail
            refine (H5.out _).mono ?_
            rintro e Z1 ⟨rfl, z1⟩
            have KN := KM.next z1
            have O1 := its_next HO9.out z1
            obtain ⟨D, T, hD, hT, KP, hkp⟩ := KN.one (wc c) 26
            have O2 := its_next O1 hkp
            clear KM KN z1 hkp O1
            clear q0 q1 q2 c0 c1 c2 c3 d0 d1 d2 d3
            obtain ⟨q0, q1, q2⟩ := KP.out.gr (B := A) (g := a0) (by simp)
            obtain ⟨c0, c1, c2, c3⟩ := KP.out.wh (B := B) (x := a1) (by simp)
            obtain ⟨d0, d1, d2, d3⟩ := KP.out.wh (B := C) (x := a2) (by simp)
            obtain ⟨e0, e1, e2, e3⟩ := KP.out.wh (B := D) (x := c) (by simp)
            go_wp2_with fail
            refine (H6.out _).mono ?_
            rintro e Zz2 ⟨rfl, z2⟩
            have KQ := KP.out.next z2
            clear q0 q1 q2 c0 c1 c2 c3 d0 d1 d2 d3 e0 e1 e2 e3
            obtain ⟨q0, q1, q2⟩ := KQ.gr (B := A) (g := a0) (by simp)
            obtain ⟨c0, c1, c2, c3⟩ := KQ.wh (B := B) (x := a1) (by simp)
            obtain ⟨d0, d1, d2, d3⟩ := KQ.wh (B := C) (x := a2) (by simp)
            obtain ⟨e0, e1, e2, e3⟩ := KQ.wh (B := D) (x := c) (by simp)
            go_wp2_with fail
            have O3 := its_next O2 z2
            refine (H7.out _).mono ?_
            rintro e Zz3 ⟨rfl, z3⟩
            have KR := KQ.next z3
            clear q0 q1 q2 c0 c1 c2 c3 d0 d1 d2 d3 e0 e1 e2 e3
            obtain ⟨q0, q1, q2⟩ := KR.gr (B := A) (g := a0) (by simp)
            obtain ⟨c0, c1, c2, c3⟩ := KR.wh (B := B) (x := a1) (by simp)
            obtain ⟨d0, d1, d2, d3⟩ := KR.wh (B := C) (x := a2) (by simp)
            obtain ⟨e0, e1, e2, e3⟩ := KR.wh (B := D) (x := c) (by simp)
            go_wp2_with fail
            have O4 := its_next O3 z3
            refine (H8.out _).mono ?_
            rintro e Zz4 ⟨rfl, z4⟩
            have KS := KR.next z4
            clear q0 q1 q2 c0 c1 c2 c3 d0 d1 d2 d3 e0 e1 e2 e3
            obtain ⟨q0, q1, q2⟩ := KS.gr (B := A) (g := a0) (by simp)
            obtain ⟨c0, c1, c2, c3⟩ := KS.wh (B := B) (x := a1) (by simp)
            obtain ⟨d0, d1, d2, d3⟩ := KS.wh (B := C) (x := a2) (by simp)
            obtain ⟨e0, e1, e2, e3⟩ := KS.wh (B := D) (x := c) (by simp)
            go_wp2_with fail
            have O5 := its_next O4 z4
            refine (H9.out _).mono ?_
            rintro e Zz5 ⟨rfl, z5⟩
            have KT := KS.next z5
            clear q0 q1 q2 c0 c1 c2 c3 d0 d1 d2 d3 e0 e1 e2 e3
            obtain ⟨q0, q1, q2⟩ := KT.gr (B := A) (g := a0) (by simp)
            obtain ⟨c0, c1, c2, c3⟩ := KT.wh (B := B) (x := a1) (by simp)
            obtain ⟨d0, d1, d2, d3⟩ := KT.wh (B := C) (x := a2) (by simp)
            obtain ⟨e0, e1, e2, e3⟩ := KT.wh (B := D) (x := c) (by simp)
            go_wp2_with fail
            have O6 := its_next O5 z5
            refine (H10.out _).mono ?_
            rintro e Z6 ⟨A10, n10, rfl, i10, z6⟩
            have KU := KT.next z6
            have O7 := its_next O6 z6
            have HI7 := hid (HI.out A10 A9 n10 c9 Z6 i10 O7)
            clear q0 q1 q2 c0 c1 c2 c3 d0 d1 d2 d3 e0 e1 e2 e3
            obtain ⟨q0, q1, q2⟩ := KU.gr (B := A) (g := a0) (by simp)
            obtain ⟨c0, c1, c2, c3⟩ := KU.wh (B := B) (x := a1) (by simp)
            obtain ⟨d0, d1, d2, d3⟩ := KU.wh (B := C) (x := a2) (by simp)
            obtain ⟨e0, e1, e2, e3⟩ := KU.wh (B := D) (x := c) (by simp)
            go_wp2_with fail
            refine (HI7.out).mono ?_
            rintro e Z7 ⟨rfl, m7, rfl⟩
            have KV := KU.drewN m7
            go_wp2_with fail
            refine (HH.out _ (HT.out.next KV.2)).mono ?_
            rintro e Y9 ⟨rfl, b9⟩
            go_wp2_with fail
            go_ret
            exact ⟨rfl, (KV.next b9).2⟩

theorem lift_and_shaped {H : Type} {enc : TypeId × Value → H} {a : Assume} {C : Checked} {os : Os} {f : FuncId} {fn : Func} {s : ChangeSpec} {conds : List PathCond} {apart fresh handsOn again : Bool} {X : World → Array Value → Prop}
    (hX : ∀ (w w' : World) (args : Array Value), w.heap = w'.heap → X w args → X w' args)
    (own : ownKnob C.prog.godebug = none) (started : os.Started) (noInit : C.prog.inits.idxOf? f = none) (hfn : C.prog.funcs[f]? = some fn)
    (witness : ∃ (w : World) (tape : Tape) (i : Input), w.os = os ∧ (w.forCall tape i).Shaped C.prog ∧ i.vars = [] ∧ Input.okWide C.prog (w.forCall tape i) .any w.heap.size f i ∧
      ((s.pre enc C.prog fn conds apart (w.forCall tape i).memory i.args ∧ X (w.forCall tape i).memory i.args) ∧ sizedMet enc C.prog fn (OpenSpec.ofChange s) apart (w.forCall tape i).memory i.args) ∧ a.holds C.prog (lone (Frame.enter C.prog f i.args .normal) [] (w.forCall tape i)))
    (contract : ∀ (W : World) (base : Nat) (args : Array Value) (ds gs : List (DataW H)) (before : List MemPlace),
      (∀ (j : Nat) t v, fn.params[j]? = some t → args[j]? = some v → Value.okWide C.prog W .any base t v) →
      DataW.Whole enc C.prog fn.params.toList s.vars apart W args.toList ds gs before → W.ShapedOpen C.prog → X W args →
      Calls C.prog f args W fun e W' => ∃ v, e = .returned v ∧ s.post enc C.prog fn apart fresh handsOn again W args v W') :
    ReturnsInHanded a C os f .any (fun w args => (s.pre enc C.prog fn conds apart w args ∧ X w args) ∧ sizedMet enc C.prog fn (OpenSpec.ofChange s) apart w args) (s.post enc C.prog fn apart fresh handsOn again) := by
  refine returnsInHanded_of_calls own started noInit witness ?_
  intro w tape i _ hsh _ hok hpre hholds
  obtain ⟨_, _, _, fn', hfn', _, _, _, _, hval⟩ := hok
  have e : fn' = fn := Option.some.inj (hfn'.symm.trans hfn)
  subst e
  obtain ⟨⟨⟨ds, gs, before, hw, hc⟩, hx⟩, hz⟩ := hpre
  have hw' := DataW.Whole.of_heap (w' := w.forCall tape i) (by rfl) hw
  refine (contract (w.forCall tape i) w.heap.size i.args ds gs before hval hw' hsh (hX _ _ _ (by rfl) hx)).mono fun e W' ⟨v, he, hp⟩ => ?_
  subst he
  exact ChangeSpec.post_blind hp

/-! ### THE ROW's STEP: WRITTEN OUT: LEAVE IT -/
set_option maxRecDepth 100000 in
theorem lifted (os : Os) (started : os.Started) (H : Type) (enc : TypeId × Value → H) :
    ReturnsInHanded {} Tryd.checked os 3 .any (fun w args => (Rows.whenMeetsSpec.pre enc Tryd.prog Tryd.f3 Rows.whenMeetsRow.domain false w args ∧ laidMetH Tryd.prog Rows.whenMeetsRow.laid w) ∧ sizedMet enc Tryd.prog Tryd.f3 (OpenSpec.ofChange Rows.whenMeetsSpec) false w args)
      (Rows.whenMeetsSpec.post enc Tryd.prog Tryd.f3 false true false false) := by
  refine lift_and_shaped (C := Tryd.checked) (X := fun w _ => laidMetH Tryd.prog Rows.whenMeetsRow.laid w) (fun _ _ _ hh h => h.of_heap hh) own started (by kernel_rfl) Tryd.func3
    (ChangeSpec.witness_shaped (enc := enc) (C := Tryd.checked) (os := os) (X := fun w _ => laidMetH Tryd.prog Rows.whenMeetsRow.laid w) false (World.laidAll Tryd.prog os Rows.whenMeetsRow.laid) #[.agg #[.int .i64 0, .int .i64 0, .int .i64 0], .agg #[.int .u32 0, .int .u8 0, .int .i64 0, .int .i64 0], .agg #[.int .u32 0, .int .u8 0, .int .i64 0, .int .i64 0]] 8 (World.laidAll_os _ _ _)
      (World.shaped_of_ZipB (by kernel_rfl) (by kernel_rfl)) (by kernel_rfl) (by kernel_rfl) (by kernel_rfl)
      (by rw [MakeChecks.laidMetH_plain _ _ _ (by kernel_rfl)]; exact laidMet_laidAll _ (by kernel_rfl) (by kernel_rfl))) ?_
  intro W base args ds gs before hval0 hW hsh hL
  have hval : ∀ (j : Nat) t v, Tryd.f3.params[j]? = some t → args[j]? = some v → Value.okWide Tryd.prog W .any base t v := hval0
  have hW' := hW
  obtain ⟨p, q, hA0, hV, rfl, hfz, hnd⟩ := hW
  have hA : DataW.TrodAll enc Tryd.prog W 0 (fun _ => true) true Tryd.f3.params.toList args.toList ds p := hA0
  rw [Tryd.params3] at hA hval
  obtain ⟨v0, vs0, d0, ds0, p0, q0, hargs, rfl, rfl, h0, r0⟩ := trodAll_cons hA
  obtain ⟨v1, vs1, d1, ds1, p1, q1, rfl, rfl, rfl, h1, r1⟩ := trodAll_cons r0
  obtain ⟨v2, vs2, d2, ds2, p2, q2, rfl, rfl, rfl, h2, r2⟩ := trodAll_cons r1
  obtain ⟨rfl, rfl, rfl⟩ := trodAll_nil r2
  obtain rfl : args = #[v0, v1, v2] := by cases args; simp_all
  obtain ⟨rfl, rfl⟩ := trodVars_none hV
  have k0 := h0
  have lt0 : ∀ x ∈ p0, x.block < W.heap.size := by obtain ⟨m, hm⟩ := k0; exact DataW.trod_lt m _ _ _ hm
  obtain ⟨a0, rfl, w0⟩ := open_gr (hval 0 23 v0 rfl rfl) h0
  have k1 := h1
  have lt1 : ∀ x ∈ p1, x.block < W.heap.size := by obtain ⟨m, hm⟩ := k1; exact DataW.trod_lt m _ _ _ hm
  obtain ⟨a1, rfl, w1⟩ := open_wh (hval 1 26 v1 rfl rfl) h1
  have k2 := h2
  have lt2 : ∀ x ∈ p2, x.block < W.heap.size := by obtain ⟨m, hm⟩ := k2; exact DataW.trod_lt m _ _ _ hm
  obtain ⟨a2, rfl, w2⟩ := open_wh (hval 2 26 v2 rfl rfl) h2
  clear hA0 hval0
  have hT : Tab W := tab_of_laid hL
  refine (walk a0 a1 a2 W w0 w1 w2 hT).mono fun e W' ⟨he, bel⟩ => ?_
  subst he
  exact ⟨_, rfl, _, _, _, [], _, [], hW', trodAll_mk1 (shut_bool Tryd.underlying4 _), (trodAll_cons_mk (Below.trod laidOut (by kernel_rfl) (of_decide_eq_true (by kernel_rfl)) k0 bel lt0) (trodAll_cons_mk (Below.trod laidOut (by kernel_rfl) (of_decide_eq_true (by kernel_rfl)) k1 bel lt1) (trodAll_cons_mk (Below.trod laidOut (by kernel_rfl) (of_decide_eq_true (by kernel_rfl)) k2 bel lt2) trodAll_mk0))), rfl, bel.frame _, fun h => by cases h⟩

theorem over : Rows.whenMeetsRow.holds Tryd.pinned (OpenSpec.ofChange Rows.whenMeetsSpec) :=
  OpenClaim.holds_of_wide 3 Tryd.f3 rfl rfl rfl rfl rfl rfl rfl ⟨rfl, rfl, rfl, rfl, rfl⟩ rfl rfl rfl rfl rfl (by kernel_rfl) Tryd.func3 (by kernel_rfl)
    (of_decide_eq_true (by kernel_rfl)) (by unfold Func.isWrapper; first | (rw [if_pos (by decide +kernel)]; kernel_rfl) | (rw [if_neg (by decide +kernel)]; exact ⟨rfl, rfl⟩))
    (fun os started H enc _ => lifted os started H enc)

theorem proved : Rows.WhenMeetsCardSaid :=
  Claim7.holds_tied_plain_at .later [] [.data] true (true, "3a99651b043e18f83b1f2cac08d112f80564e10425dcffe62ddda1d2b7045292") false over (fun _ h => by cases h) (by kernel_rfl) (fun _ h => by cases h) whenMeets_row_tie rfl ⟨rfl, rfl⟩ (by kernel_rfl) rfl
    (fun f fn hf hfn => by
      obtain rfl : f = 3 := Option.some.inj ((show Tryd.prog.funcNamed "horarium/horariumlaw09.WhenMeets" = some 3 by kernel_rfl).symm.trans hf) |>.symm
      obtain rfl : fn = Tryd.f3 := (Option.some.inj (Tryd.func3.symm.trans hfn)).symm
      exact ⟨by kernel_rfl, fun j t ht => by
        rw [Tryd.params3] at ht
        have hm : t ∈ [23, 26, 26] := by simpa using Array.mem_of_getElem? ht
        have hall : ([23, 26, 26].all fun u => !Tryd.prog.wantsStandIn u) = true := by kernel_rfl
        exact (show Tryd.prog.wantsStandIn t = false by simpa using List.all_eq_true.1 hall t hm)⟩)
    (by kernel_rfl)
#print axioms proved
end Go.Proofs.YtcdldgmgmbopdaaDoor.whenMeets

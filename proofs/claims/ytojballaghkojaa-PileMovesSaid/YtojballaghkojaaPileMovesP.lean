/- Proves 'PileMovesSaid': for every input the Go function PileMoves returns true, and each argument reads afterwards as it read before. Conditions: none beyond the row's own. -/
import Derived.Test.YtojballaghkojaaRows
import Derived.WalkKit
import Derived.ProofKit
import Derived.OpenShut
import Derived.ShutString
import Derived.SliceStrings
import Derived.ChangeOld
import Derived.Below
import Derived.Test.YtojballaghkojaaPilX
namespace Go.Proofs.Ytojballaghkojaa.pileMoves
open Go.ChangeShapes Go.WideShapes Go.ChangeAt Go.RowKit
open Go.ChangeMaps (open_string shut_string)
set_option linter.unusedVariables false

theorem own : ownKnob Try.prog.godebug = none := by kernel_rfl
theorem laidOut : laidOutB Try.prog = true := by kernel_rfl

/-- WHAT THE WALK IS TOLD OF A SLICE OF INTEGERS THAT CAME IN: it is nil; or it leads to a row of 'cap' cells, the numbers 'zs' (the first 'len' are its elements, the rest its spare room), each fitting its kind. -/
def IsRow (k : IntKind) (w : World) (a : Option Addr) (len cap : Nat) (zs : List Int) : Prop :=
  (a = none ∧ len = 0 ∧ cap = 0 ∧ zs = []) ∨
  ∃ x, a = some x ∧ len ≤ cap ∧ cap ≤ maxLen ∧ zs.length = cap ∧ (∀ i, i < zs.length → w.cell? (x.add i) = some (.int k (zs.getD i 0))) ∧ ∀ n ∈ zs, (Lit.int k n).wf = true

/-! ### STEP 1: THE WALK: the Go text returns true, AND WRITES NOTHING THAT WAS THERE: 'Below w.heap.size w w'' (Derived/Below.lean: '.refl', '.alloc', '.drew', '.setCell' at a new block, '.trans'). Open each 'IsRow' by 'rcases' AHEAD of 'go_enter'; part every test ahead of the walk. -/
set_option maxRecDepth 20000 in
set_option maxHeartbeats 16000000 in
theorem walk (a0 : Option Addr) (len0 cap0 : Nat) (z0 : List Opi) (a1 : Int) (a2 : Int) (a3 : Int) (w : World) (w0 : IsRowQ w a0 len0 cap0 z0) (w1 : (Lit.int .i64 a1).wf = true) (w2 : (Lit.int .i64 a2).wf = true) (w3 : (Lit.int .i64 a3).wf = true) :
    Calls Try.prog 5 #[.slice a0 len0 cap0, .int .i64 a1, .int .i64 a2, .int .i64 a3] w fun e w' => e = .returned (.bool true) ∧ Below w.heap.size w w' := by
  obtain ⟨hl, hlc, hcm, hops, hwf⟩ := w0
  subst hl
  have HK : Hid (I64 a1) := hid (by have := bounds_i64 w1; unfold I64; omega)
  have HR : Hid (I64 a2) := hid (by have := bounds_i64 w2; unfold I64; omega)
  have HO : Hid (I64 a3) := hid (by have := bounds_i64 w3; unfold I64; omega)
  clear w1 w2 w3
  by_cases hbig : (100 : Int) < z0.length
  · clear hops hwf
    go_enter Try.func5, Try.ntmps5
    go_wp2_with fail
    refine (heads _).mono ?_
    rintro e w' ⟨rfl, b⟩
    go_wp2_with fail
    go_ret
    exact ⟨rfl, b⟩
  have hbig' : (z0.length : Int) ≤ 100 := by omega
  have H := hid hops
  have Hwf := hid hwf
  clear hops hbig hwf
  go_enter Try.func5, Try.ntmps5
  go_wp2_with fail
  refine (o_New w).mono ?_
  rintro e w1 ⟨p, rfl, t1, b1⟩
  have X1 := hid t1
  clear t1
  go_wp2_with fail
  go_loopw [10] (fun iv wr => ∃ (k : Nat) (s : List Pil.It), iv = .int .i64 k ∧ k ≤ z0.length ∧ Hid (s = pushesM (z0.take k)) ∧ Hid (PlO w.heap.size wr p s) ∧ Below w.heap.size w wr) (fun iv _ => z0.length - (intOf iv).toNat)
  case atStart => exact ⟨0, [], rfl, Nat.zero_le _, hid rfl, X1, b1⟩
  case round =>
    clear X1 b1
    obtain ⟨k, s, rfl, hk, hs, X, hb⟩ := hrel
    have hsf := pushesM_facts z0 k
    rw [← hs.out] at hsf
    obtain ⟨hss, hsl⟩ := hsf
    have Hss := hid hss
    clear hss
    by_cases hlt : k < z0.length
    · obtain ⟨b0, o0, kd, key, rank, rfl, hbB, Hx, hc0, hc1, hc2⟩ := Opq.get (H.out.below hb (Nat.le_refl _)) hlt
      have i1 : (0 : Int) ≤ (k : Int) := by omega
      have i2 : (k : Int) < (z0.length : Int) := by omega
      have Hnext := hid ((pushesM_next z0 k _ Hx.out).trans (by rw [← hs.out]))
      have Hw := hid (Hwf.out _ (List.mem_of_getElem? Hx.out))
      have C1 := hid (o_Push (X.out.below (Below.refl wr.heap.size wr).drew) hb.size (by omega) key rank Hw.out.2.1 Hw.out.2.2)
      unfold OwnDid at C1
      have d1 : wr.drew.cell? ⟨b0, o0 + k * 3 + 1, none⟩ = some (.int .i64 key) := hc1
      have d2 : wr.drew.cell? ⟨b0, o0 + k * 3 + 2, none⟩ = some (.int .i64 rank) := hc2
      have hbw : b0 < w.heap.size := by omega
      have hS2 := And.intro d1 d2
      clear X hc0 hc1 hc2
      go_wp2_with fail
      go_region_held3 (fun X => X.cell? ⟨b0, o0 + k * 3 + 1, none⟩ = some (.int .i64 key) ∧ X.cell? ⟨b0, o0 + k * 3 + 2, none⟩ = some (.int .i64 rank)) (exact hS2) (first | (go_at_call 13; refine (C1.out).mono ?_; rintro e w4 ⟨rfl, X4, b4⟩; have hS2 := And.intro ((b4.cell (p := ⟨b0, o0 + k * 3 + 1, none⟩) hbw).trans d1) ((b4.cell (p := ⟨b0, o0 + k * 3 + 2, none⟩) hbw).trans d2)))
      have hb4 : Below w.heap.size wr w4 := (Below.refl _ wr).drew.trans b4
      go_wp2_with fail
      exact ⟨⟨k + 1, _, by go_num, by omega, hid Hnext.out.symm, hid X4, hb.trans hb4⟩, by simp [intOf]; omega⟩
    · obtain rfl : k = z0.length := by omega
      have hsl' : s.length ≤ 100 := by omega
      have Hlen := hid (Pil.len_move Hss.out (a1, a2))
      have hgm := Pil.get_move Hss.out (a1, a2)
      clear H hs Hwf hlt hsl hk
      cases hgk : Pil.get s a1 with
      | some r0 =>
        have hin : a1 ∈ Pil.keys s := Pil.get_some.1 (by rw [hgk]; rfl)
        have Hg2 : Hid (Pil.get (Pil.move s (a1, a2)) a1 = some a2) := hid (by rw [hgm, if_pos ⟨rfl, hin⟩])
        have Hgk := hid hgk
        by_cases ho : a3 = a1
        · have ho := hid ho
          have hne : (a3 != a1) = false := by rw [ho.out]; simp
          clear hgm hin hgk
          have Hcase := hid trivial
          have hsm : s.length ≤ 10000 := by omega
          have L1 := hid (o_Len X.out hsm)
          unfold LnRet at L1
          go_wp2_with fail
          refine (L1.out).mono ?_
          rintro e w2 ⟨rfl, c2⟩
          have X2 := hid (X.out.below c2)
          have B2 := hid (below2 hb c2)
          clear L1 c2 hb X
          have R1 := hid (o_Rank X2.out hsm a3 HO.out)
          rw [ho.out, Hgk.out] at R1
          unfold RkRet at R1
          go_wp2_with fail
          refine (R1.out).mono ?_
          rintro e w3 ⟨rfl, c3⟩
          have X3 := hid (X2.out.below c3)
          have B3 := hid (below2 B2.out c3)
          clear R1 c3 X2 B2
          have R2 := hid (o_Rank X3.out hsm a1 HK.out)
          rw [Hgk.out] at R2
          unfold RkRet at R2
          go_wp2_with fail
          refine (R2.out).mono ?_
          rintro e w4 ⟨rfl, c4⟩
          have X4 := hid (X3.out.below c4)
          have B4 := hid (below2 B3.out c4)
          clear R2 c4 X3 B3
          have M := hid (o_Move X4.out B4.out.size hsm a1 a2 HK.out HR.out)
          rw [Hgk.out] at M
          unfold OwnDid at M
          go_wp2_with fail
          refine (M.out).mono ?_
          rintro e w5 ⟨rfl, X5', c5⟩
          have X5 := hid X5'
          have B5 := hid (B4.out.trans c5)
          clear M c5 X4 B4 X5'
          have hsm2 : (Pil.move s (a1, a2)).length ≤ 10000 := by rw [Hlen.out]; exact hsm
          have L2 := hid (o_Len X5.out hsm2)
          unfold LnRet at L2
          rw [Hlen.out] at L2
          go_wp2_with fail
          refine (L2.out).mono ?_
          rintro e w6 ⟨rfl, c6⟩
          have X6 := hid (X5.out.below c6)
          have B6 := hid (below2 B5.out c6)
          clear L2 c6 X5 B5
          have R3 := hid (o_Rank X6.out hsm2 a3 HO.out)
          rw [ho.out, Hg2.out] at R3
          unfold RkRet at R3
          go_wp2_with fail
          refine (R3.out).mono ?_
          rintro e w7 ⟨rfl, c7⟩
          have X7 := hid (X6.out.below c7)
          have B7 := hid (below2 B6.out c7)
          clear R3 c7 X6 B6
          have R4 := hid (o_Rank X7.out hsm2 a1 HK.out)
          rw [Hg2.out] at R4
          unfold RkRet at R4
          go_wp2_with fail
          refine (R4.out).mono ?_
          rintro e w8 ⟨rfl, c8⟩
          have X8 := hid (X7.out.below c8)
          have B8 := hid (below2 B7.out c8)
          clear R4 c8 X7 B7
          have D1 := hid (o_Drop X8.out B8.out.size hsm2 a1 HK.out)
          rw [Hg2.out] at D1
          unfold OwnDid at D1
          go_wp2_with fail
          refine (D1.out).mono ?_
          rintro e w9 ⟨rfl, X9', c9⟩
          have X9 := hid X9'
          have B9 := hid (B8.out.trans c9)
          clear D1 c9 X8 B8 X9'
          have D2 := hid (o_Drop X9.out B9.out.size (Nat.le_trans (List.length_filter_le _ _) hsm2) a1 HK.out)
          rw [Pil.get_del, if_pos rfl] at D2
          unfold OwnDid at D2
          go_wp2_with fail
          refine (D2.out).mono ?_
          rintro e w10 ⟨rfl, _, c10⟩
          have B10 := hid (B9.out.trans c10)
          clear D2 c10 X9 B9
          go_wp2_with fail
          refine (heads _).mono ?_
          rintro e w11 ⟨rfl, c11⟩
          go_wp2_with fail
          go_ret
          exact ⟨rfl, below2 B10.out c11⟩
        · have hne : (a3 != a1) = true := by rw [bne_iff_ne]; exact ho
          have Ho2 : Hid (Pil.get (Pil.move s (a1, a2)) a3 = Pil.get s a3) := hid (by rw [hgm, if_neg (fun e => ho e.1.symm)])
          clear hgm hin hgk ho
          have Hcase := hid trivial
          have hsm : s.length ≤ 10000 := by omega
          have L1 := hid (o_Len X.out hsm)
          unfold LnRet at L1
          go_wp2_with fail
          refine (L1.out).mono ?_
          rintro e w2 ⟨rfl, c2⟩
          have X2 := hid (X.out.below c2)
          have B2 := hid (below2 hb c2)
          clear L1 c2 hb X
          have R1 := hid (o_Rank X2.out hsm a3 HO.out)
          generalize hgo : Pil.get s a3 = go at *
          have Hgo := hid hgo
          clear hgo
          unfold RkRet at R1
          go_wp2_with fail
          refine (R1.out).mono ?_
          rintro e w3 ⟨rfl, c3⟩
          have X3 := hid (X2.out.below c3)
          have B3 := hid (below2 B2.out c3)
          clear R1 c3 X2 B2
          have R2 := hid (o_Rank X3.out hsm a1 HK.out)
          rw [Hgk.out] at R2
          unfold RkRet at R2
          go_wp2_with fail
          refine (R2.out).mono ?_
          rintro e w4 ⟨rfl, c4⟩
          have X4 := hid (X3.out.below c4)
          have B4 := hid (below2 B3.out c4)
          clear R2 c4 X3 B3
          have M := hid (o_Move X4.out B4.out.size hsm a1 a2 HK.out HR.out)
          rw [Hgk.out] at M
          unfold OwnDid at M
          go_wp2_with fail
          refine (M.out).mono ?_
          rintro e w5 ⟨rfl, X5', c5⟩
          have X5 := hid X5'
          have B5 := hid (B4.out.trans c5)
          clear M c5 X4 B4 X5'
          have hsm2 : (Pil.move s (a1, a2)).length ≤ 10000 := by rw [Hlen.out]; exact hsm
          have L2 := hid (o_Len X5.out hsm2)
          unfold LnRet at L2
          rw [Hlen.out] at L2
          go_wp2_with fail
          refine (L2.out).mono ?_
          rintro e w6 ⟨rfl, c6⟩
          have X6 := hid (X5.out.below c6)
          have B6 := hid (below2 B5.out c6)
          clear L2 c6 X5 B5
          have R3 := hid (o_Rank X6.out hsm2 a3 HO.out)
          rw [Ho2.out] at R3
          unfold RkRet at R3
          go_wp2_with fail
          refine (R3.out).mono ?_
          rintro e w7 ⟨rfl, c7⟩
          have X7 := hid (X6.out.below c7)
          have B7 := hid (below2 B6.out c7)
          clear R3 c7 X6 B6
          have R4 := hid (o_Rank X7.out hsm2 a1 HK.out)
          rw [Hg2.out] at R4
          unfold RkRet at R4
          go_wp2_with fail
          refine (R4.out).mono ?_
          rintro e w8 ⟨rfl, c8⟩
          have X8 := hid (X7.out.below c8)
          have B8 := hid (below2 B7.out c8)
          clear R4 c8 X7 B7
          have D1 := hid (o_Drop X8.out B8.out.size hsm2 a1 HK.out)
          rw [Hg2.out] at D1
          unfold OwnDid at D1
          go_wp2_with fail
          refine (D1.out).mono ?_
          rintro e w9 ⟨rfl, X9', c9⟩
          have X9 := hid X9'
          have B9 := hid (B8.out.trans c9)
          clear D1 c9 X8 B8 X9'
          have D2 := hid (o_Drop X9.out B9.out.size (Nat.le_trans (List.length_filter_le _ _) hsm2) a1 HK.out)
          rw [Pil.get_del, if_pos rfl] at D2
          unfold OwnDid at D2
          go_wp2_with fail
          refine (D2.out).mono ?_
          rintro e w10 ⟨rfl, _, c10⟩
          have B10 := hid (B9.out.trans c10)
          clear D2 c10 X9 B9
          go_wp2_with fail
          refine (heads _).mono ?_
          rintro e w11 ⟨rfl, c11⟩
          go_wp2_with fail
          go_ret
          exact ⟨rfl, below2 B10.out c11⟩
      | none =>
        have hin : a1 ∉ Pil.keys s := Pil.get_none.1 hgk
        have Hg2 : Hid (Pil.get (Pil.move s (a1, a2)) a1 = none) := hid (by rw [hgm, if_neg (fun e => hin e.2), hgk])
        have Hgk := hid hgk
        by_cases ho : a3 = a1
        · have ho := hid ho
          have hne : (a3 != a1) = false := by rw [ho.out]; simp
          clear hgm hin hgk
          have Hcase := hid trivial
          have hsm : s.length ≤ 10000 := by omega
          have L1 := hid (o_Len X.out hsm)
          unfold LnRet at L1
          go_wp2_with fail
          refine (L1.out).mono ?_
          rintro e w2 ⟨rfl, c2⟩
          have X2 := hid (X.out.below c2)
          have B2 := hid (below2 hb c2)
          clear L1 c2 hb X
          have R1 := hid (o_Rank X2.out hsm a3 HO.out)
          rw [ho.out, Hgk.out] at R1
          unfold RkRet at R1
          go_wp2_with fail
          refine (R1.out).mono ?_
          rintro e w3 ⟨rfl, c3⟩
          have X3 := hid (X2.out.below c3)
          have B3 := hid (below2 B2.out c3)
          clear R1 c3 X2 B2
          have R2 := hid (o_Rank X3.out hsm a1 HK.out)
          rw [Hgk.out] at R2
          unfold RkRet at R2
          go_wp2_with fail
          refine (R2.out).mono ?_
          rintro e w4 ⟨rfl, c4⟩
          have X4 := hid (X3.out.below c4)
          have B4 := hid (below2 B3.out c4)
          clear R2 c4 X3 B3
          have M := hid (o_Move X4.out B4.out.size hsm a1 a2 HK.out HR.out)
          rw [Hgk.out] at M
          unfold OwnDid at M
          go_wp2_with fail
          refine (M.out).mono ?_
          rintro e w5 ⟨rfl, X5', c5⟩
          have X5 := hid X5'
          have B5 := hid (B4.out.trans c5)
          clear M c5 X4 B4 X5'
          have hsm2 : (Pil.move s (a1, a2)).length ≤ 10000 := by rw [Hlen.out]; exact hsm
          have L2 := hid (o_Len X5.out hsm2)
          unfold LnRet at L2
          rw [Hlen.out] at L2
          go_wp2_with fail
          refine (L2.out).mono ?_
          rintro e w6 ⟨rfl, c6⟩
          have X6 := hid (X5.out.below c6)
          have B6 := hid (below2 B5.out c6)
          clear L2 c6 X5 B5
          have R3 := hid (o_Rank X6.out hsm2 a3 HO.out)
          rw [ho.out, Hg2.out] at R3
          unfold RkRet at R3
          go_wp2_with fail
          refine (R3.out).mono ?_
          rintro e w7 ⟨rfl, c7⟩
          have X7 := hid (X6.out.below c7)
          have B7 := hid (below2 B6.out c7)
          clear R3 c7 X6 B6
          have R4 := hid (o_Rank X7.out hsm2 a1 HK.out)
          rw [Hg2.out] at R4
          unfold RkRet at R4
          go_wp2_with fail
          refine (R4.out).mono ?_
          rintro e w8 ⟨rfl, c8⟩
          have X8 := hid (X7.out.below c8)
          have B8 := hid (below2 B7.out c8)
          clear R4 c8 X7 B7
          have D1 := hid (o_Drop X8.out B8.out.size hsm2 a1 HK.out)
          rw [Hg2.out] at D1
          unfold OwnDid at D1
          go_wp2_with fail
          refine (D1.out).mono ?_
          rintro e w9 ⟨rfl, X9', c9⟩
          have X9 := hid X9'
          have B9 := hid (B8.out.trans c9)
          clear D1 c9 X8 B8 X9'
          have D2 := hid (o_Drop X9.out B9.out.size (Nat.le_trans (List.length_filter_le _ _) hsm2) a1 HK.out)
          rw [Pil.get_del, if_pos rfl] at D2
          unfold OwnDid at D2
          go_wp2_with fail
          refine (D2.out).mono ?_
          rintro e w10 ⟨rfl, _, c10⟩
          have B10 := hid (B9.out.trans c10)
          clear D2 c10 X9 B9
          go_wp2_with fail
          refine (heads _).mono ?_
          rintro e w11 ⟨rfl, c11⟩
          go_wp2_with fail
          go_ret
          exact ⟨rfl, below2 B10.out c11⟩
        · have hne : (a3 != a1) = true := by rw [bne_iff_ne]; exact ho
          have Ho2 : Hid (Pil.get (Pil.move s (a1, a2)) a3 = Pil.get s a3) := hid (by rw [hgm, if_neg (fun e => ho e.1.symm)])
          clear hgm hin hgk ho
          have Hcase := hid trivial
          have hsm : s.length ≤ 10000 := by omega
          have L1 := hid (o_Len X.out hsm)
          unfold LnRet at L1
          go_wp2_with fail
          refine (L1.out).mono ?_
          rintro e w2 ⟨rfl, c2⟩
          have X2 := hid (X.out.below c2)
          have B2 := hid (below2 hb c2)
          clear L1 c2 hb X
          have R1 := hid (o_Rank X2.out hsm a3 HO.out)
          generalize hgo : Pil.get s a3 = go at *
          have Hgo := hid hgo
          clear hgo
          unfold RkRet at R1
          go_wp2_with fail
          refine (R1.out).mono ?_
          rintro e w3 ⟨rfl, c3⟩
          have X3 := hid (X2.out.below c3)
          have B3 := hid (below2 B2.out c3)
          clear R1 c3 X2 B2
          have R2 := hid (o_Rank X3.out hsm a1 HK.out)
          rw [Hgk.out] at R2
          unfold RkRet at R2
          go_wp2_with fail
          refine (R2.out).mono ?_
          rintro e w4 ⟨rfl, c4⟩
          have X4 := hid (X3.out.below c4)
          have B4 := hid (below2 B3.out c4)
          clear R2 c4 X3 B3
          have M := hid (o_Move X4.out B4.out.size hsm a1 a2 HK.out HR.out)
          rw [Hgk.out] at M
          unfold OwnDid at M
          go_wp2_with fail
          refine (M.out).mono ?_
          rintro e w5 ⟨rfl, X5', c5⟩
          have X5 := hid X5'
          have B5 := hid (B4.out.trans c5)
          clear M c5 X4 B4 X5'
          have hsm2 : (Pil.move s (a1, a2)).length ≤ 10000 := by rw [Hlen.out]; exact hsm
          have L2 := hid (o_Len X5.out hsm2)
          unfold LnRet at L2
          rw [Hlen.out] at L2
          go_wp2_with fail
          refine (L2.out).mono ?_
          rintro e w6 ⟨rfl, c6⟩
          have X6 := hid (X5.out.below c6)
          have B6 := hid (below2 B5.out c6)
          clear L2 c6 X5 B5
          have R3 := hid (o_Rank X6.out hsm2 a3 HO.out)
          rw [Ho2.out] at R3
          unfold RkRet at R3
          go_wp2_with fail
          refine (R3.out).mono ?_
          rintro e w7 ⟨rfl, c7⟩
          have X7 := hid (X6.out.below c7)
          have B7 := hid (below2 B6.out c7)
          clear R3 c7 X6 B6
          have R4 := hid (o_Rank X7.out hsm2 a1 HK.out)
          rw [Hg2.out] at R4
          unfold RkRet at R4
          go_wp2_with fail
          refine (R4.out).mono ?_
          rintro e w8 ⟨rfl, c8⟩
          have X8 := hid (X7.out.below c8)
          have B8 := hid (below2 B7.out c8)
          clear R4 c8 X7 B7
          have D1 := hid (o_Drop X8.out B8.out.size hsm2 a1 HK.out)
          rw [Hg2.out] at D1
          unfold OwnDid at D1
          go_wp2_with fail
          refine (D1.out).mono ?_
          rintro e w9 ⟨rfl, X9', c9⟩
          have X9 := hid X9'
          have B9 := hid (B8.out.trans c9)
          clear D1 c9 X8 B8 X9'
          have D2 := hid (o_Drop X9.out B9.out.size (Nat.le_trans (List.length_filter_le _ _) hsm2) a1 HK.out)
          rw [Pil.get_del, if_pos rfl] at D2
          unfold OwnDid at D2
          go_wp2_with fail
          refine (D2.out).mono ?_
          rintro e w10 ⟨rfl, _, c10⟩
          have B10 := hid (B9.out.trans c10)
          clear D2 c10 X9 B9
          go_wp2_with fail
          refine (heads _).mono ?_
          rintro e w11 ⟨rfl, c11⟩
          go_wp2_with fail
          go_ret
          exact ⟨rfl, below2 B10.out c11⟩

/-! ### THE ROW's STEP: WRITTEN OUT: LEAVE IT -/
set_option maxRecDepth 100000 in
theorem lifted (os : Os) (started : os.Started) (H : Type) (enc : TypeId × Value → H) :
    ReturnsInHanded {} Try.checked os 5 .any (Rows.pileMovesSpec.pre6 enc Try.prog Try.f5 Rows.pileMovesRow.domain false) (Rows.pileMovesSpec.post enc Try.prog Try.f5 false true false false) := by
  refine returnsInHanded_of_change (C := Try.checked) own started (by kernel_rfl) Try.func5
    (ChangeSpec.witness6 (enc := enc) (C := Try.checked) false ⟨#[], #[.slice none 0 0, .int .i64 0, .int .i64 0, .int .i64 0], []⟩ 8 (by kernel_rfl) (by kernel_rfl) (by kernel_rfl) (by kernel_rfl)) ?_
  intro W base args ds gs before hval0 hW hcnd _
  have hval : ∀ (j : Nat) t v, Try.f5.params[j]? = some t → args[j]? = some v → Value.okWide Try.prog W .any base t v := hval0
  have hW' := hW
  obtain ⟨p, q, hA0, hV, rfl, hfz, hnd⟩ := hW
  have hA : DataW.TrodAll enc Try.prog W 0 (fun _ => true) true Try.f5.params.toList args.toList ds p := hA0
  rw [Try.params5] at hA hval
  obtain ⟨v0, vs0, d0, ds0, p0, q0, hargs, rfl, rfl, h0, r0⟩ := trodAll_cons hA
  obtain ⟨v1, vs1, d1, ds1, p1, q1, rfl, rfl, rfl, h1, r1⟩ := trodAll_cons r0
  obtain ⟨v2, vs2, d2, ds2, p2, q2, rfl, rfl, rfl, h2, r2⟩ := trodAll_cons r1
  obtain ⟨v3, vs3, d3, ds3, p3, q3, rfl, rfl, rfl, h3, r3⟩ := trodAll_cons r2
  obtain ⟨rfl, rfl, rfl⟩ := trodAll_nil r3
  obtain rfl : args = #[v0, v1, v2, v3] := by cases args; simp_all
  obtain ⟨rfl, rfl⟩ := trodVars_none hV
  obtain ⟨a0, len0, cap0, rfl⟩ := okWide_slice Try.underlying22 (hval 0 22 v0 rfl rfl)
  have k0 := h0
  have lt0 : ∀ x ∈ p0, x.block < W.heap.size := by obtain ⟨m, hm⟩ := k0; exact DataW.trod_lt m _ _ _ hm
  obtain ⟨z0, w0⟩ : ∃ zs, IsRowQ W a0 len0 cap0 zs := by
    obtain ⟨fuel, hf⟩ := h0
    exact open_opq Try.underlying22 Try.underlying28 (by kernel_rfl) (by kernel_rfl) Try.underlying3 Try.underlying3 Try.underlying3 hf
  obtain ⟨a1, rfl, rfl, rfl, w1⟩ := open_int Try.underlying3 (hval 1 3 v1 rfl rfl) h1
  obtain ⟨a2, rfl, rfl, rfl, w2⟩ := open_int Try.underlying3 (hval 2 3 v2 rfl rfl) h2
  obtain ⟨a3, rfl, rfl, rfl, w3⟩ := open_int Try.underlying3 (hval 3 3 v3 rfl rfl) h3
  clear hA0 hval0
  refine (walk a0 len0 cap0 z0 a1 a2 a3 W w0 w1 w2 w3).mono fun e W' ⟨he, bel⟩ => ?_
  subst he
  exact ⟨_, rfl, _, _, _, [], _, [], hW', trodAll_mk1 (shut_bool Try.underlying4 _), (trodAll_cons_mk (Below.trod laidOut (by kernel_rfl) (of_decide_eq_true (by kernel_rfl)) k0 bel lt0) (trodAll_cons_mk (shut_int Try.underlying3 w1) (trodAll_cons_mk (shut_int Try.underlying3 w2) (trodAll_cons_mk (shut_int Try.underlying3 w3) trodAll_mk0)))), rfl, bel.frame _, fun h => by cases h⟩

theorem over : Rows.pileMovesRow.holds Try.pinned (OpenSpec.ofChange Rows.pileMovesSpec) :=
  OpenClaim.holds_of_wide 5 Try.f5 rfl rfl rfl rfl rfl rfl rfl ⟨rfl, rfl, rfl, rfl, rfl⟩ rfl rfl rfl rfl rfl (by kernel_rfl) Try.func5 (by kernel_rfl)
    (of_decide_eq_true (by kernel_rfl)) (by unfold Func.isWrapper; first | (rw [if_pos (by decide +kernel)]; kernel_rfl) | (rw [if_neg (by decide +kernel)]; exact ⟨rfl, rfl⟩))
    (fun os started H enc _ => lifted os started H enc)

/-- ████ THE STATEMENT ████ -/
theorem proved : Rows.PileMovesSaid := over
#print axioms proved
end Go.Proofs.Ytojballaghkojaa.pileMoves
